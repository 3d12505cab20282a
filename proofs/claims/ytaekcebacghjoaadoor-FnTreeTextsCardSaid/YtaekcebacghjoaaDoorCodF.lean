/- Own texts. -/
import Derived.WalkKit
import Derived.ProofKit
import Derived.Test.YtaekcebacghjoaaDoorCards
import Derived.Test.YtaekcebacghjoaaDoorTie
import Derived.LaidMore
import Derived.LaidOnce
import Derived.SevenTiedAt
import Derived.Test.YtaekcebacghjoaaDoorCodE
namespace Go.Cod
open Go Go.Proofs
set_option maxRecDepth 10000

def kindsW : List (List UInt8) := [kDoc, kSec, kPar, kTitle, [120]]
theorem kindsW_len (kind : List UInt8) (h : kind ∈ kindsW) : kind.length ≤ 1048576 := by
  simp only [kindsW, List.mem_cons, List.not_mem_nil, or_false] at h
  rcases h with rfl | rfl | rfl | rfl | rfl <;> decide
def WildC (bs : List UInt8) (d B : Int) : Prop := ∀ (p k : Int), 0 ≤ p → p + B ≤ 1073741824 → 0 ≤ k → k + B ≤ 1073741824 →
  Full Tryd.prog noY 90 [.ptr 0 0 0, .int .i64 d, .ptr 1 0 0] [rdO bs p, nxO k] (TreeR bs p k B)
def WildJ (bs : List UInt8) (d p k B : Int) (kd tx : List UInt8) (n : Nat) (fr : Nat → V) (st : St) : Prop := ∃ (kids : List T) (p' k' : Int), kids.length + n ≤ 3 ∧ (T.sizeL kids : Int) + n * B ≤ 3 * B ∧ (p ≤ p' ∧ p' + n * B ≤ p + 3 + 3 * B) ∧ (k ≤ k' ∧ k' + n * B ≤ k + 1 + 3 * B) ∧ (∀ t ∈ kids, t.Small) ∧
  Holds fr [(0, .ptr 0 0 0), (1, .int .i64 d), (2, .ptr 1 0 0), (6, .ptr 2 0 0), (7, .ptr 3 0 0), (8, .int .i64 n)] ∧
  st = [rdO bs p', nxO k', boxO zrow 4, boxO [.int .i64 k, .str kd, .str tx, kidsV kids 4] 4] ++ kidsO kids
set_option maxHeartbeats 8000000 in
theorem l11Wild_step (bs : List UInt8) (hb : bs.length ≤ 2000) (d B : Int) (hB : 1 ≤ B) (hB' : B ≤ 65536) (hd : 0 ≤ d ∧ d ≤ 1000) (hT : d < 6 → WildC bs (d + 1) B) : WildC bs d (8 * B) := by
  intro p k p0 p1 k0 k1
  have hof := of_full bs p kindsW hb p0 (by omega) (by decide) (by decide)
  have ht := l11Text_full bs (p + 1) hb (by omega) (by omega)
  have hp4 := pick_full bs (p + 1 + 1) 4 hb (by omega) (by omega)
  have mulS : ∀ (i : Nat) (X : Int), ((i + 1 : Nat) : Int) * X = i * X + X := fun i X => by
    rw [Int.natCast_add, Int.add_mul]; simp
  have mulL : ∀ (i n : Nat) (X : Int), 0 ≤ X → i ≤ n → (i : Int) * X ≤ n * X := fun i n X hX h => Int.mul_le_mul_of_nonneg_right (by omega) hX
  have mul0 : ∀ (i : Nat) (X : Int), 0 ≤ X → 0 ≤ (i : Int) * X := fun i X hX => Int.mul_nonneg (by omega) hX
  have wd : IntKind.i64.wrap (d + 1) = d + 1 := wrap64 (by omega) (by omega)
  have w1 : IntKind.i64.wrap (k + 1) = k + 1 := wrap64 (by omega) (by omega)
  have fin : ∀ (m : Nat) (kids : List T) (p' k' : Int) (kd tx : List UInt8), kids.length + m ≤ 3 → (T.sizeL kids : Int) + m * B ≤ 3 * B → p ≤ p' → p' + m * B ≤ p + 3 + 3 * B → k ≤ k' → k' + m * B ≤ k + 1 + 3 * B → kd.length ≤ 1048576 → tx.length ≤ 12 → (∀ t ∈ kids, t.Small) →
      (T.mk k kd tx kids).Small ∧ ((T.mk k kd tx kids).size : Int) ≤ 8 * B ∧ p ≤ p' ∧ p' ≤ p + 8 * B ∧ k ≤ k' ∧ k' ≤ k + 8 * B := by
    intro m kids p' k' kd tx g1 g2 g3 g4 g5 g6 g7 g8 g9
    have := mul0 m B (by omega)
    refine ⟨.mk (by omega) g7 (by omega) (by omega) g9, ?_, g3, ?_, g5, ?_⟩
    · simp only [T.size]; omega
    · omega
    · omega
  refine full_of_awp good Tryd.func90 rfl (by kernel_rfl) (by decide) ?_
  conv => whnf
  repeat' (first
    | (refine ⟨[0], false, ?_⟩
       conv => whnf
       first
         | (refine hof.mono ?_
            rintro o st' ⟨kd, hkd, rfl, rfl⟩)
         | (refine ht.mono ?_
            rintro o st' ⟨tx, htx, rfl, rfl⟩)
       conv => whnf
       refine ⟨by conv => whnf
                  rfl, ?_⟩
       conv => whnf)
    | (refine And.intro ?_ ?_ <;> (conv => whnf)))
  all_goals
    rw [w1]
    have hkl := kindsW_len kd hkd
    refine ⟨[0], false, ?_⟩
    conv => whnf
    refine hp4.mono ?_
    rintro o st' ⟨c, c0, c1, rfl, rfl⟩
    have c1 := c1 (by omega)
    have hcB := mulL c.toNat 3 B (by omega) (by omega)
    have hcc : V.int .i64 c = .int .i64 (c.toNat : Int) := by rw [Int.toNat_of_nonneg c0]
    conv => whnf
    first
      | refine loop_drop (WildJ bs d p k B kd tx) c.toNat (some [0, 1, 2, 3]) (by
          conv => whnf
          exact ⟨[], p + 1 + 1 + 1, k + 1, by simp only [List.length_nil]; omega, by simp only [T.sizeL]; omega, by omega, by omega, by simp, ⟨rfl, rfl, rfl, rfl, rfl, hcc, trivial⟩, rfl⟩) ?_
      | refine loop_drop (WildJ bs d p k B kd tx) c.toNat (some [0, 1, 2, 4]) (by
          conv => whnf
          exact ⟨[], p + 1 + 1 + 1, k + 1, by simp only [List.length_nil]; omega, by simp only [T.sizeL]; omega, by omega, by omega, by simp, ⟨rfl, rfl, rfl, rfl, rfl, hcc, trivial⟩, rfl⟩) ?_
  all_goals
    rintro n fr st ⟨kids, p', k', b1, b2, b3, b4, b6, hh, rfl⟩
    obtain ⟨fr, rfl⟩ := hh.split
    clear hh
    have hfin := fin n kids p' k' kd tx b1 b2 b3.1 b3.2 b4.1 b4.2 hkl (by omega) b6
    by_cases hn : 0 < n
    · obtain ⟨n, rfl⟩ : ∃ m, n = m + 1 := ⟨n - 1, by omega⟩
      have hnS := mulS n B
      have hn0 := mul0 n B (by omega)
      rw [hnS] at b2 b3 b4
      have wn : V.int .i64 (IntKind.i64.wrap (((n + 1 : Nat) : Int) - 1)) = .int .i64 (n : Int) := by
        rw [wrap64 (by omega) (by omega)]; congr 1; omega
      by_cases hd6 : d < 6
      · have hcall := hT hd6 p' k' (by omega) (by omega) (by omega) (by omega)
        by_cases hk18 : k'.tmod 100 < 18
        · rcases kids with _ | ⟨t0, ts⟩
          all_goals
            conv => whnf
            rw [ltB_t (by omega)]
            conv => whnf
            rw [ltB_t hd6]
            conv => whnf
            refine ⟨by decide, ?_⟩
            conv => whnf
            rw [ltB_t hk18]
            conv => whnf
            rw [wd]
            refine ⟨[0, 1], false, ?_⟩
            conv => whnf
            refine hcall.mono ?_
            rintro o st' ⟨t, p3, k3, s1, s2, s3, s4, s5, s6, rfl, rfl⟩
            rcases t with ⟨tid, tk, ttx, tks⟩
            conv => whnf
            refine ⟨by conv => whnf
                       rfl, ?_⟩
            conv => whnf
            refine ⟨fun m hm => by rw [List.mem_singleton.1 hm]; rfl, ?_⟩
            conv => whnf
          · refine ⟨by show 1 * 64 ≤ _; omega, .inr ⟨(by intro e; cases e), ?_⟩⟩
            conv => whnf
            refine ⟨n, by omega, some [0, 1, 2, 3, 5], ?_⟩
            conv => whnf
            exact ⟨[.mk tid tk ttx tks], p3, k3, by simp at b1 ⊢; omega, by simp only [T.sizeL] at b2 ⊢; omega, by omega, by omega, by simpa using s1, ⟨rfl, rfl, rfl, rfl, rfl, wn, trivial⟩, rfl⟩
          · refine ⟨by
              show ((T.rows (t0 :: ts)).length + 1) * 64 ≤ _
              rw [Go.Cod.rows_len]; omega, ?_⟩
            conv => whnf
            refine ⟨n, by omega, some [0, 1, 2, 3, 6], ?_⟩
            conv => whnf
            refine ⟨(t0 :: ts) ++ [.mk tid tk ttx tks], p3, k3, by simp at b1 ⊢; omega, by rw [T.sizeL_append]; simp only [T.sizeL] at b2 s2 ⊢; omega, by omega, by omega, small_snoc b6 s1, ⟨rfl, rfl, rfl, rfl, rfl, wn, trivial⟩, ?_⟩
            rw [kidsO_snoc]
            rfl
        · cases kids
          all_goals
            conv => whnf
            rw [ltB_t (by omega)]
            conv => whnf
            rw [ltB_t hd6]
            conv => whnf
            refine ⟨by decide, ?_⟩
            conv => whnf
            rw [ltB_f (by omega)]
            conv => whnf
            refine ⟨[], false, ?_⟩
            conv => whnf
            exact ⟨.mk k kd tx _, p', k', hfin.1, hfin.2.1, by omega, by omega, by omega, by omega, rfl, rfl⟩
      · cases kids
        all_goals
          conv => whnf
          rw [ltB_t (by omega)]
          conv => whnf
          rw [ltB_f (by omega)]
          conv => whnf
          refine ⟨[], false, ?_⟩
          conv => whnf
          exact ⟨.mk k kd tx _, p', k', hfin.1, hfin.2.1, by omega, by omega, by omega, by omega, rfl, rfl⟩
    · cases kids
      all_goals
        conv => whnf
        rw [ltB_f (by omega)]
        conv => whnf
        refine ⟨[], false, ?_⟩
        conv => whnf
        exact ⟨.mk k kd tx _, p', k', hfin.1, hfin.2.1, by omega, by omega, by omega, by omega, rfl, rfl⟩
theorem l11Wild_1 (bs : List UInt8) (hb : bs.length ≤ 2000) : WildC bs 1 262144 := by
  have h6 := l11Wild_step bs hb 6 1 (by omega) (by omega) (by omega) (fun h => by omega)
  have h5 := l11Wild_step bs hb 5 8 (by omega) (by omega) (by omega) (fun _ => h6)
  have h4 := l11Wild_step bs hb 4 64 (by omega) (by omega) (by omega) (fun _ => h5)
  have h3 := l11Wild_step bs hb 3 512 (by omega) (by omega) (by omega) (fun _ => h4)
  have h2 := l11Wild_step bs hb 2 4096 (by omega) (by omega) (by omega) (fun _ => h3)
  exact l11Wild_step bs hb 1 32768 (by omega) (by omega) (by omega) (fun _ => h2)
theorem l11AnyTree_full (bs : List UInt8) (hb : bs.length ≤ 2000) (p : Int) (p0 : 0 ≤ p) (p1 : p + 262145 ≤ 1073741824) : Full Tryd.prog noY 67 [.ptr 0 0 0] [rdO bs p] (TreeR1 bs p 262145) := by
  have hp := pick_full bs p 2 hb (by omega) (by omega)
  have hd := l11Doc_full bs hb (p + 1) (by omega) (by omega)
  have hw := l11Wild_1 bs hb (p + 1) 1 (by omega) (by omega) (by omega) (by omega)
  refine full_of_awp good Tryd.func67 rfl (by kernel_rfl) (by decide) ?_
  conv => whnf
  refine ⟨[0], false, ?_⟩
  conv => whnf
  refine hp.mono ?_
  rintro o st' ⟨c, c0, c1, rfl, rfl⟩
  conv => whnf
  by_cases hc : c = 0
  · rw [eqB_t hc]
    conv => whnf
    refine ⟨[0], false, ?_⟩
    conv => whnf
    refine hd.mono ?_
    rintro o st' ⟨t, p', s1, s2, s3, s4, rfl, rfl⟩
    rcases t with ⟨tid, tk, ttx, tks⟩
    conv => whnf
    refine ⟨[], false, ?_⟩
    conv => whnf
    exact ⟨.mk tid tk ttx tks, p', s1, by omega, by omega, by omega, rfl, rfl⟩
  · rw [eqB_f hc]
    conv => whnf
    refine ⟨[0, 2], false, ?_⟩
    conv => whnf
    refine hw.mono ?_
    rintro o st' ⟨t, p', k', s1, s2, s3, s4, s5, s6, rfl, rfl⟩
    rcases t with ⟨tid, tk, ttx, tks⟩
    conv => whnf
    refine ⟨[], false, ?_⟩
    conv => whnf
    exact ⟨.mk tid tk ttx tks, p', s1, by omega, by omega, by omega, rfl, rfl⟩
end Go.Cod

namespace Go.Cod
open Go Go.Proofs
set_option maxRecDepth 10000

theorem l2Copy_own (t : T) (ht : t.Small) :
    Full Tryd.prog noY 95 [.agg t.cells] [] (fun o st' => o = .ret (.agg [.int .i64 t.id, .str t.kind, .str t.text, kidsV t.kids 0]) ∧ st' = kidsO t.kids) := by
  have hT : ∀ t' ∈ t.kids, Pure Tryd.prog 95 [.agg t'.cells] (· = .agg t'.cells) := fun t' h => by
    cases ht with
    | mk g1 g2 g3 g4 g5 => exact l2Copy_pure t' (g5 t' h)
  cases ht with
  | @mk id kind text kids g1 g2 g3 g4 g5 =>
  simp only [T.kids, T.id, T.kind, T.text] at hT ⊢
  have hlr := Go.Cod.rows_len kids
  refine full_of_awp good Tryd.func95 rfl (by kernel_rfl) (by decide) ?_
  conv => whnf
  refine loop_drop (fun n fr st => ∃ i : Nat, n + i = kids.length ∧ Holds fr [(1, .ptr 0 0 0), (2, .ptr 1 0 0), (3, .ptr 2 0 0), (4, .int .i64 i)] ∧
      ((i = 0 ∧ st = [⟨[[.int .i64 id, .str kind, .str text, .sl (T.rows kids)]], 4, true, true, true, .cell⟩, ⟨[zrow], 4, true, true, true, .cell⟩, ⟨[[.int .i64 id, .str kind, .str text, .nils]], 4, true, true, true, .cell⟩]) ∨
       (0 < i ∧ st = [⟨[[.int .i64 id, .str kind, .str text, .sl (T.rows kids)]], 4, true, true, true, .cell⟩, ⟨[zrow], 4, true, true, true, .cell⟩, ⟨[[.int .i64 id, .str kind, .str text, .own 3]], 4, true, true, true, .cell⟩, ⟨T.rows (kids.take i), 4, true, true, false, .cell⟩]))) kids.length none
    ⟨0, rfl, ⟨rfl, rfl, rfl, rfl, trivial⟩, .inl ⟨rfl, rfl⟩⟩ ?_
  rintro n fr st ⟨i, hi, hh, hst⟩
  obtain ⟨fr, rfl⟩ := hh.split
  clear hh
  rcases hst with ⟨rfl, rfl⟩ | ⟨hi0, rfl⟩
  · conv => whnf
    by_cases hlt : 0 < kids.length
    · rw [hlr, ltB_t (by omega)]
      conv => whnf
      refine ⟨by omega, T.rows kids, kids[0].cells, 4, rfl, rows_get kids 0 hlt, rfl, Go.Cod.cells_len _, ?_⟩
      have hc := hT kids[0] (List.getElem_mem _)
      have htk := T.rows_take kids 0 hlt
      generalize kids[0] = t at hc htk
      cases t with
      | mk id' kind' text' kids' =>
      conv => whnf
      refine ⟨_, .inl hc, ?_⟩
      conv => whnf
      refine ⟨fun m hm => by rw [List.mem_singleton.1 hm]; rfl, ?_⟩
      conv => whnf
      refine ⟨by show 1 * 64 ≤ _; omega, .inr ⟨(by intro e; cases e), ?_⟩⟩
      conv => whnf
      refine ⟨n - 1, by omega, some [0, 1, 2, 4], ?_⟩
      conv => whnf
      refine ⟨1, by omega, ⟨rfl, rfl, rfl, rfl, trivial⟩, .inr ⟨by omega, ?_⟩⟩
      rw [htk]
      rfl
    · rw [hlr, ltB_f (by omega)]
      conv => whnf
      have : kids = [] := List.eq_nil_of_length_eq_zero (by omega)
      subst this
      refine ⟨[], true, ?_⟩
      conv => whnf
      exact ⟨rfl, rfl⟩
  · conv => whnf
    by_cases hlt : i < kids.length
    · rw [hlr, ltB_t (by omega)]
      conv => whnf
      refine ⟨by omega, T.rows kids, kids[i].cells, 4, rfl, rows_get kids i hlt, rfl, Go.Cod.cells_len _, ?_⟩
      have hc := hT kids[i] (List.getElem_mem _)
      have htk := T.rows_take kids i hlt
      generalize kids[i] = t at hc htk
      cases t with
      | mk id' kind' text' kids' =>
      conv => whnf
      refine ⟨_, .inl hc, ?_⟩
      conv => whnf
      refine ⟨fun m hm => by rw [List.mem_singleton.1 hm]; rfl, ?_⟩
      conv => whnf
      refine ⟨by
        show ((T.rows (kids.take i)).length + 1) * 64 ≤ _
        rw [Go.Cod.rows_len, List.length_take]; omega, ?_⟩
      conv => whnf
      refine ⟨n - 1, by omega, some [0, 1, 2, 5], ?_⟩
      conv => whnf
      refine ⟨i + 1, by omega, ⟨rfl, rfl, rfl, ?_, trivial⟩, .inr ⟨by omega, ?_⟩⟩
      · show V.int .i64 (IntKind.i64.wrap (i + 1)) = _
        rw [wrap64 (by omega) (by omega)]; simp
      · rw [htk]
        rfl
    · rw [hlr, ltB_f (by omega)]
      conv => whnf
      rw [List.take_of_length_le (by omega)]
      refine ⟨[3], true, ?_⟩
      conv => whnf
      obtain ⟨t0, ts, rfl⟩ : ∃ t0 ts, kids = t0 :: ts := by
        cases kids with
        | nil => simp at hi; omega
        | cons a b => exact ⟨a, b, rfl⟩
      exact ⟨rfl, rfl⟩
end Go.Cod

namespace Go.Cod
open Go Go.Proofs
set_option maxRecDepth 10000

def SpoilR (bs : List UInt8) (t : T) (p : Int) (o : Out) (st' : St) : Prop := ∃ (t' : T) (p' : Int), t'.Small ∧ (t'.size : Int) ≤ 2 * t.size + 20 ∧ p ≤ p' ∧ p' ≤ p + 2 * t.size + 2 ∧ o = .ret (.agg t'.cells) ∧ st' = [rdO bs p']
theorem size_pos (t : T) : 1 ≤ t.size := by cases t; simp [T.size]; try omega
theorem sizeL_get : ∀ (ts : List T) (i : Nat) (h : i < ts.length), ts[i].size ≤ T.sizeL ts
  | t :: ts, 0, _ => by simp [T.sizeL]
  | t :: ts, i + 1, h => by
    have := sizeL_get ts i (by simpa using h)
    simp [T.sizeL]; omega
theorem sizeL_set : ∀ (ts : List T) (i : Nat) (h : i < ts.length) (t' : T), T.sizeL (ts.set i t') + ts[i].size = T.sizeL ts + t'.size
  | t :: ts, 0, _, t' => by simp [T.sizeL]; omega
  | t :: ts, i + 1, h, t' => by
    have := sizeL_set ts i (by simpa using h) t'
    simp [T.sizeL]; omega
theorem length_le_sizeL : ∀ ts : List T, ts.length ≤ T.sizeL ts
  | [] => by simp
  | t :: ts => by
    have := length_le_sizeL ts
    have := size_pos t
    simp [T.sizeL]; omega
theorem rows_set (ts : List T) (i : Nat) (t' : T) : T.rows (ts.set i t') = (T.rows ts).set i t'.cells := by
  rw [T.rows_eq, T.rows_eq, List.map_set]
def SpJ (bs : List UInt8) (q : Int) (o1 : O) (slot m sz : Nat) (n : Nat) (fr : Nat → V) (st : St) : Prop := ∃ (x : T) (i : Nat), n + i = m ∧ x.Small ∧ x.size ≤ sz + i ∧
  Holds fr [(0, .ptr 0 0 0), (4, .ptr 2 0 0), (5, .ptr 3 0 0), (slot, .int .i64 i)] ∧ st = [rdO bs q, o1, boxO zrow 4, boxO [.int .i64 x.id, .str x.kind, .str x.text, kidsV x.kids 4] 4] ++ kidsO x.kids
set_option maxHeartbeats 8000000 in
theorem spoil_full (bs : List UInt8) (hb : bs.length ≤ 2000) (t : T) (ht : t.Small) : ∀ p : Int, 0 ≤ p → p + 2 * t.size + 2 ≤ 1073741824 → t.size ≤ 500000 →
    Full Tryd.prog noY 70 [.ptr 0 0 0, .agg t.cells] [rdO bs p] (SpoilR bs t p) := by
  induction ht with
  | @mk id kind text kids g1 g2 g3 g4 g5 ih =>
  intro p p0 p1 p2
  have hcp := l2Copy_own (.mk id kind text kids) (.mk g1 g2 g3 g4 g5)
  simp only [T.kids, T.id, T.kind, T.text] at hcp
  have hp2 := pick_full bs p 2 hb p0 (by omega)
  refine full_of_awp good Tryd.func70 rfl (by kernel_rfl) (by decide) ?_
  conv => whnf
  refine .inr (.inl ⟨[], false, ?_⟩)
  conv => whnf
  refine hcp.mono ?_
  rintro o st' ⟨rfl, rfl⟩
  have hpc : ∀ (q n : Int), 0 ≤ q → q ≤ 1073741824 → Full Tryd.prog noY 69 [.ptr 0 0 0, .int .i64 n] [rdO bs q] fun o st' => ∃ m : Int, 0 ≤ m ∧ (1 ≤ n → m < n) ∧ o = .ret (.int .i64 m) ∧ st' = [rdO bs (q + 1)] := fun q n h0 h1 => pick_full bs q n hb h0 h1
  have hsz : ((T.mk id kind text kids).size : Int) = 1 + T.sizeL kids := by simp [T.size]
  rw [hsz] at p1
  have hk5 : kids.length ≤ 500000 := Nat.le_trans (length_le_sizeL kids) (by simp only [T.size] at p2; omega)
  have hk6 : T.sizeL kids ≤ 500000 := by simp only [T.size] at p2; omega
  have five : ∀ c : Int, 0 ≤ c → c < 5 → ∃ z : Int, (-9223372036854775808 ≤ z ∧ z ≤ 9223372036854775807) ∧ [[V.int .i64 0], [.int .i64 (-1)], [.int .i64 999], [.int .i64 1000], [.int .i64 1]][c.toNat]? = some [.int .i64 z] := fun c h0 h1 => by
    obtain ⟨n, rfl⟩ : ∃ n : Nat, c = n := ⟨c.toNat, by omega⟩
    have : n < 5 := by omega
    match n, this with
    | 0, _ => exact ⟨_, by omega, rfl⟩
    | 1, _ => exact ⟨-1, by omega, rfl⟩
    | 2, _ => exact ⟨999, by omega, rfl⟩
    | 3, _ => exact ⟨1000, by omega, rfl⟩
    | 4, _ => exact ⟨1, by omega, rfl⟩
  have hmany := l1Many_pure [116] 13 (by decide) (by decide) (by decide) (by decide)
  have hpure := l2Copy_pure (.mk id kind text kids) (.mk g1 g2 g3 g4 g5)
  have tail : ∀ (kk : List T) (q : Int), kk = kids → p + 1 ≤ q → q ≤ p + 2 →
      (∀ (z : Int) (kd tx : List UInt8), (-9223372036854775808 ≤ z ∧ z ≤ 9223372036854775807) → kd.length ≤ 1048576 → tx.length ≤ 1048576 → (T.mk z kd tx kk).Small ∧ ((T.mk z kd tx kk).size : Int) ≤ 2 * ((T.mk id kind text kk).size : Int) + 20) ∧
      (∀ x : T, x.Small → (x.size : Int) ≤ 1 + T.sizeL kk + 20 → (x.size : Int) ≤ 2 * ((T.mk id kind text kk).size : Int) + 20) ∧ q + 1 ≤ p + 2 * ((T.mk id kind text kk).size : Int) + 2 ∧ q ≤ p + 2 * ((T.mk id kind text kk).size : Int) + 2 := by
    intro kk q hkk h1 h2
    subst hkk
    have : ((T.mk id kind text kk).size : Int) = 1 + T.sizeL kk := by simp [T.size]
    refine ⟨fun z kd tx q1 q2 q3 => ⟨.mk q1 q2 q3 g4 g5, ?_⟩, fun x _ hx => by omega, by omega, by omega⟩
    have : ((T.mk z kd tx kk).size : Int) = 1 + T.sizeL kk := by simp [T.size]
    omega
  have hsm := T.Small.mk g1 g2 g3 g4 g5
  cases kids
  case' nil =>
    conv => whnf
    rw [ltB_f (by simp)]
    conv => whnf
    refine ⟨[0], false, ?_⟩
    conv => whnf
    refine (hpc p 6 p0 (by omega)).mono ?_
    rintro o st' ⟨c, c0, c1, rfl, rfl⟩
    obtain ⟨tl1, tl2, tl3, tl4⟩ := tail _ (p + 1) rfl (by omega) (by omega)
    have q0 : 0 ≤ p + 1 ∧ p + 1 ≤ 1073741822 ∧ p ≤ p + 1 := by omega
    generalize p + 1 = q at *
  case' cons k0 ks =>
    conv => whnf
    rw [ltB_t (by rw [Go.Cod.rows_len]; simp)]
    conv => whnf
    refine ⟨[0], false, ?_⟩
    conv => whnf
    refine hp2.mono ?_
    rintro o st' ⟨c, c0, c1, rfl, rfl⟩
    conv => whnf
    by_cases e0 : c = 0
    · rw [eqB_t e0]
      conv => whnf
      refine ⟨[0], false, ?_⟩
      conv => whnf
      refine (hpc (p + 1) _ (by omega) (by omega)).mono ?_
      rintro o st' ⟨c, c0, c1, rfl, rfl⟩
      have hlr := Go.Cod.rows_len (k0 :: ks)
      have hlk : (k0 :: ks).length = ks.length + 1 := rfl
      have c1 := c1 (by rw [hlr, hlk]; omega)
      rw [hlr] at c1
      have hct : c.toNat < (k0 :: ks).length := by omega
      have hg := rows_get (k0 :: ks) c.toNat hct
      have hki := ih (k0 :: ks)[c.toNat] (List.getElem_mem _) (p + 1 + 1) (by omega)
      have hs1 := sizeL_get (k0 :: ks) c.toNat hct
      have hs2 := sizeL_set (k0 :: ks) c.toNat hct
      have hs3 := rows_set (k0 :: ks) c.toNat
      have hs5 : ∀ t' : T, t'.Small → ∀ x ∈ (k0 :: ks).set c.toNat t', x.Small := fun t' h x hx => (List.mem_or_eq_of_mem_set hx).elim (g5 x) (fun e => e ▸ h)
      have hs6 : ∀ t' : T, ((k0 :: ks).set c.toNat t').length = (k0 :: ks).length := fun t' => List.length_set
      generalize (k0 :: ks)[c.toNat] = kt at *
      have hki := hki (by omega) (by omega)
      rcases kt with ⟨ti, tk, tx, tks⟩
      conv => whnf
      refine ⟨c0, _, _, 4, rfl, hg, rfl, rfl, ?_⟩
      conv => whnf
      refine AtRow_intro _ hg ?_
      conv => whnf
      refine ⟨[0], false, ?_⟩
      conv => whnf
      refine hki.mono ?_
      rintro o st' ⟨t', p', s1, s2, s3, s4, rfl, rfl⟩
      have hs2 := hs2 t'
      have hs3 := hs3 t'
      have hs5 := hs5 t' s1
      have hs6 := hs6 t'
      have e1s : ∀ X, (T.mk id kind text X).size = 1 + T.sizeL X := fun X => by simp [T.size]
      rcases t' with ⟨ti', tk', tx', tks'⟩
      conv => whnf
      repeat (refine And.intro (by conv => whnf
                                   first
                                     | rfl
                                     | exact ⟨c0, _, _, 4, rfl, hg, rfl, rfl, rfl⟩
                                     | exact AtRow_intro _ hg rfl) ?_
              conv => whnf)
      refine ⟨c0, _, _, 4, rfl, hg, rfl, rfl, ?_⟩
      conv => whnf
      refine AtRow_intro _ hg ?_
      conv => whnf
      refine ⟨[], false, ?_⟩
      conv => whnf
      refine ⟨.mk id kind text ((k0 :: ks).set c.toNat (.mk ti' tk' tx' tks')), p', .mk g1 g2 g3 (by rw [hs6]; omega) hs5, by rw [e1s, e1s]; omega, by omega, by rw [e1s]; omega, ?_, rfl⟩
      show Out.ret (.agg [.int .i64 id, .str kind, .str text, .sl ((T.rows (k0 :: ks)).set c.toNat (T.mk ti' tk' tx' tks').cells)]) = _
      rw [← hs3]
      rfl
    rw [eqB_f e0]
    conv => whnf
    refine ⟨[0], false, ?_⟩
    conv => whnf
    refine (hpc (p + 1) 6 (by omega) (by omega)).mono ?_
    rintro o st' ⟨c, c0, c1, rfl, rfl⟩
    obtain ⟨tl1, tl2, tl3, tl4⟩ := tail _ (p + 1 + 1) rfl (by omega) (by omega)
    have q0 : 0 ≤ p + 1 + 1 ∧ p + 1 + 1 ≤ 1073741822 ∧ p ≤ p + 1 + 1 := by omega
    generalize p + 1 + 1 = q at *
  all_goals
    clear tail hsz hp2
    conv => whnf
    by_cases e0 : c = 0
    · rw [eqB_t e0]
      conv => whnf
      refine ⟨[0], false, ?_⟩
      conv => whnf
      refine (hpc q 5 (by omega) (by omega)).mono ?_
      rintro o st' ⟨c, c0, c1, rfl, rfl⟩
      obtain ⟨z, hz, hzg⟩ := five c c0 (c1 (by omega))
      conv => whnf
      refine ⟨c0, _, _, 1, rfl, hzg, rfl, rfl, ?_⟩
      conv => whnf
      refine AtRow_intro _ hzg ?_
      conv => whnf
      refine ⟨[], false, ?_⟩
      conv => whnf
      exact ⟨.mk z kind text _, q + 1, (tl1 z kind text hz g2 g3).1, (tl1 z kind text hz g2 g3).2, by omega, tl3, rfl, rfl⟩
    rw [eqB_f e0]
    conv => whnf
    by_cases e1 : c = 1
    · rw [eqB_t e1]
      conv => whnf
      refine ⟨[0], false, ?_⟩
      conv => whnf
      refine (of_full bs q [[], [65], [116,111,111,108,111,110,103,110,97,109,101], [120]] hb (by omega) (by omega) (by decide) (by decide)).mono ?_
      rintro o st' ⟨s, hs, rfl, rfl⟩
      have hsl : s.length ≤ 1048576 := by
        simp only [List.mem_cons, List.not_mem_nil, or_false] at hs
        rcases hs with rfl | rfl | rfl | rfl <;> decide
      conv => whnf
      refine ⟨[], false, ?_⟩
      conv => whnf
      exact ⟨.mk id s text _, q + 1, (tl1 id s text g1 hsl g3).1, (tl1 id s text g1 hsl g3).2, by omega, tl3, rfl, rfl⟩
    rw [eqB_f e1]
    conv => whnf
    by_cases e2 : c = 2
    · rw [eqB_t e2]
      conv => whnf
      refine .inl (hmany.mono ?_)
      rintro r ⟨tt, htt, rfl⟩
      conv => whnf
      refine ⟨[0], false, ?_⟩
      conv => whnf
      refine (of_full bs q [[34], [10], tt] hb (by omega) (by omega) (by simp) (by simp)).mono ?_
      rintro o st' ⟨s, hs, rfl, rfl⟩
      have hsl : s.length ≤ 1048576 := by
        simp only [List.mem_cons, List.not_mem_nil, or_false] at hs
        rcases hs with rfl | rfl | rfl
        · decide
        · decide
        · rw [htt]; decide
      conv => whnf
      refine ⟨[], false, ?_⟩
      conv => whnf
      exact ⟨.mk id kind s _, q + 1, (tl1 id kind s g1 g2 hsl).1, (tl1 id kind s g1 g2 hsl).2, by omega, tl3, rfl, rfl⟩
    rw [eqB_f e2]
    conv => whnf
    by_cases e3 : c = 3
    · rw [eqB_t e3]
      conv => whnf
      refine ⟨_, .inl hpure, ?_⟩
      conv => whnf
      refine ⟨fun m hm => by rw [List.mem_singleton.1 hm]; rfl, ?_⟩
      conv => whnf
      first
        | refine ⟨by show 1 * 64 ≤ _; omega, .inr ⟨(by intro e; cases e), ?_⟩⟩
        | refine ⟨by
            show ((T.rows (_ :: _)).length + 1) * 64 ≤ _
            rw [Go.Cod.rows_len]; omega, ?_⟩
      conv => whnf
      refine ⟨[], false, ?_⟩
      conv => whnf
      first
        | exact ⟨.mk id kind text [.mk id kind text []], q, .mk g1 g2 g3 (by simp) (by simpa using hsm), by simp only [T.size, T.sizeL]; omega, by omega, tl4, rfl, rfl⟩
        | (refine ⟨.mk id kind text ((k0 :: ks) ++ [.mk id kind text (k0 :: ks)]), q, .mk g1 g2 g3 (by rw [List.length_append]; simp only [List.length_singleton]; omega) (small_snoc g5 hsm), by simp only [T.size, T.sizeL_append, T.sizeL]; omega, by omega, tl4, ?_, rfl⟩
           show Out.ret (.agg [.int .i64 id, .str kind, .str text, .sl (T.rows (k0 :: ks) ++ [(T.mk id kind text (k0 :: ks)).cells])]) = _
           rw [← T.rows_snoc]
           rfl)
    rw [eqB_f e3]
    conv => whnf
    by_cases e4 : c = 4
    · rw [eqB_t e4]
      conv => whnf
      first
        | refine loop_drop (SpJ bs q _ 7 6 (1 + T.sizeL [])) 6 (some [0, 1, 2, 3]) (by
            conv => whnf
            exact ⟨.mk id kind text _, 0, rfl, hsm, by simp only [T.size]; omega, ⟨rfl, rfl, rfl, rfl, trivial⟩, rfl⟩) ?_
        | refine loop_drop (SpJ bs q _ 7 6 (1 + T.sizeL (k0 :: ks))) 6 (some [0, 1, 2, 4, 3]) (by
            conv => whnf
            exact ⟨.mk id kind text _, 0, rfl, hsm, by simp only [T.size]; omega, ⟨rfl, rfl, rfl, rfl, trivial⟩, rfl⟩) ?_
      rintro n fr st ⟨x, i, hi, x1, x2, hh, rfl⟩
      obtain ⟨fr, rfl⟩ := hh.split
      clear hh
      have x3 := tl2 x x1
      rcases x with ⟨xi, xk, xt, xs⟩
      simp only [T.id, T.kind, T.text, T.kids]
      have x4 := x1
      cases x4 with
      | mk y1 y2 y3 y4 y5 =>
      by_cases hlt : i < 6
      · have w1 : IntKind.i64.wrap (500 + (i : Int)) = 500 + (i : Int) := wrap64 (by omega) (by omega)
        have w2 : V.int .i64 (IntKind.i64.wrap ((i : Int) + 1)) = .int .i64 ((i + 1 : Nat) : Int) := by
          rw [wrap64 (by omega) (by omega)]; rfl
        rcases xs with _ | ⟨x0, xs⟩
        all_goals
          conv => whnf
          rw [ltB_t (by omega)]
          conv => whnf
        · refine ⟨n - 1, by omega, some [0, 1, 2, 3, 4], ?_⟩
          conv => whnf
          refine ⟨.mk (500 + i) [120] [] [.mk xi xk xt []], i + 1, by omega, .mk (by omega) (by simp) (by simp) (by simp) (by simpa using x1), by simp only [T.size, T.sizeL] at x2 ⊢; omega, ⟨rfl, rfl, rfl, w2, trivial⟩, ?_⟩
          rw [w1]; rfl
        · refine ⟨n - 1, by omega, some [0, 1, 2, 3, 5], ?_⟩
          conv => whnf
          refine ⟨.mk (500 + i) [120] [] [.mk xi xk xt (x0 :: xs)], i + 1, by omega, .mk (by omega) (by simp) (by simp) (by simp) (by simpa using x1), by simp only [T.size, T.sizeL] at x2 ⊢; omega, ⟨rfl, rfl, rfl, w2, trivial⟩, ?_⟩
          rw [w1]; rfl
      · rcases xs with _ | ⟨x0, xs⟩
        all_goals
          conv => whnf
          rw [ltB_f (by omega)]
          conv => whnf
          refine ⟨[], false, ?_⟩
          conv => whnf
          exact ⟨.mk xi xk xt _, q, x1, x3 (by omega), by omega, tl4, rfl, rfl⟩
    rw [eqB_f e4]
    conv => whnf
    first
      | refine loop_drop (SpJ bs q _ 8 20 (1 + T.sizeL [])) 20 (some [0, 1, 2, 3]) (by
          conv => whnf
          exact ⟨.mk id kind text _, 0, rfl, hsm, by simp only [T.size]; omega, ⟨rfl, rfl, rfl, rfl, trivial⟩, rfl⟩) ?_
      | refine loop_drop (SpJ bs q _ 8 20 (1 + T.sizeL (k0 :: ks))) 20 (some [0, 1, 2, 4, 3]) (by
          conv => whnf
          exact ⟨.mk id kind text _, 0, rfl, hsm, by simp only [T.size]; omega, ⟨rfl, rfl, rfl, rfl, trivial⟩, rfl⟩) ?_
    rintro n fr st ⟨x, i, hi, x1, x2, hh, rfl⟩
    obtain ⟨fr, rfl⟩ := hh.split
    clear hh
    have x3 := tl2 x x1
    have x6 := length_le_sizeL x.kids
    rcases x with ⟨xi, xk, xt, xs⟩
    simp only [T.id, T.kind, T.text, T.kids] at x6 ⊢
    have x4 := x1
    cases x4 with
    | mk y1 y2 y3 y4 y5 =>
    by_cases hlt : i < 20
    · have w1 : IntKind.i64.wrap (600 + (i : Int)) = 600 + (i : Int) := wrap64 (by omega) (by omega)
      have w2 : V.int .i64 (IntKind.i64.wrap ((i : Int) + 1)) = .int .i64 ((i + 1 : Nat) : Int) := by
        rw [wrap64 (by omega) (by omega)]; rfl
      have hsn : (T.mk (600 + i) [112,97,114] [] []).Small := .mk (by omega) (by simp) (by simp) (by simp) (by simp)
      rcases xs with _ | ⟨x0, xs⟩
      all_goals
        conv => whnf
        rw [ltB_t (by omega)]
        conv => whnf
        rw [w1]
        refine ⟨fun m hm => by rw [List.mem_singleton.1 hm]; rfl, ?_⟩
        conv => whnf
      · refine ⟨by show 1 * 64 ≤ _; omega, .inr ⟨(by intro e; cases e), ?_⟩⟩
        conv => whnf
        refine ⟨n - 1, by omega, some [0, 1, 2, 3, 5], ?_⟩
        conv => whnf
        exact ⟨.mk xi xk xt [.mk (600 + i) [112,97,114] [] []], i + 1, by omega, .mk y1 y2 y3 (by simp) (by simpa using hsn), by simp only [T.size, T.sizeL] at x2 ⊢; omega, ⟨rfl, rfl, rfl, w2, trivial⟩, rfl⟩
      · refine ⟨by
          show ((T.rows (x0 :: xs)).length + 1) * 64 ≤ _
          rw [Go.Cod.rows_len]; omega, ?_⟩
        conv => whnf
        refine ⟨n - 1, by omega, some [0, 1, 2, 3, 6], ?_⟩
        conv => whnf
        refine ⟨.mk xi xk xt ((x0 :: xs) ++ [.mk (600 + i) [112,97,114] [] []]), i + 1, by omega, .mk y1 y2 y3 (by rw [List.length_append]; simp only [T.size] at x2; simp only [List.length_singleton]; omega) (small_snoc y5 hsn), by simp only [T.size, T.sizeL_append] at x2 ⊢; simp only [T.sizeL, T.size] at x2 ⊢; omega, ⟨rfl, rfl, rfl, w2, trivial⟩, ?_⟩
        show _ = _ ++ kidsO ((x0 :: xs) ++ [.mk (600 + i) [112,97,114] [] []])
        rw [kidsO_snoc]
        rfl
    · rcases xs with _ | ⟨x0, xs⟩
      all_goals
        conv => whnf
        rw [ltB_f (by omega)]
        conv => whnf
        refine ⟨[], false, ?_⟩
        conv => whnf
        exact ⟨.mk xi xk xt _, q, x1, x3 (by omega), by omega, tl4, rfl, rfl⟩
end Go.Cod

namespace Go.Cod
open Go Go.Proofs
set_option maxRecDepth 10000

/- A tree and a number are drawn. -/
theorem l1Open_full (bs : List UInt8) (hb : bs.length ≤ 1048576) : Full Tryd.prog noY 38 [.sl (brows bs)] [] fun o st' => o = .ret (.ptr 0 0 0) ∧ ∃ bs' : List UInt8, bs'.length ≤ 2000 ∧ st' = [rdO bs' 0] := by
  have hl := brows_len bs
  have h1 : ∀ r ∈ brows bs, r.length = 1 := fun r h => by
    obtain ⟨b, _, rfl⟩ := List.mem_map.1 h; rfl
  have h2 : ((brows bs).take 2000).drop 0 = brows (bs.take 2000) := by rw [brows, brows, List.map_take]; rfl
  refine full_of_awp good Tryd.func38 rfl (by kernel_rfl) (by decide) ?_
  generalize hR : brows bs = R at *
  conv => whnf
  by_cases a : 2000 < R.length
  · rw [ltB_t (by omega)]
    conv => whnf
    refine ⟨h1, by omega, by show 2000 ≤ _; omega, ?_⟩
    conv => whnf
    refine ⟨[0], false, ?_⟩
    conv => whnf
    refine ⟨rfl, bs.take 2000, by rw [List.length_take]; omega, ?_⟩
    show [(⟨[[.sl ((R.take 2000).drop 0), .int .i64 0]], 2, true, true, true, .cell⟩ : O)] = _
    rw [h2]; rfl
  · rw [ltB_f (by omega)]
    conv => whnf
    refine ⟨[0], false, ?_⟩
    conv => whnf
    refine ⟨rfl, bs, by omega, ?_⟩
    rw [rdO, hR]; rfl

theorem l11Some_full (bs : List UInt8) (hb : bs.length ≤ 2000) (p n : Int) (p0 : 0 ≤ p) (p1 : p ≤ 1000000) : Full Tryd.prog noY 37 [.ptr 0 0 0, .int .i64 n] [rdO bs p] fun o st' => ∃ (t : T) (p' : Int), t.Small ∧ t.size ≤ 600000 ∧ p ≤ p' ∧ p' ≤ p + 1000000 ∧ o = .ret (.agg t.cells) ∧ st' = [rdO bs p'] := by
  have ha := l11AnyTree_full bs hb p p0 (by omega)
  refine full_of_awp good Tryd.func37 rfl (by kernel_rfl) (by decide) ?_
  conv => whnf
  refine ⟨[0], false, ?_⟩
  conv => whnf
  refine ha.mono ?_
  rintro o st' ⟨t, p2, s1, s2, s3, s4, rfl, rfl⟩
  have hs := spoil_full bs hb t s1 (p2 + 1) (by omega) (by omega) (by omega)
  have hp := pick_full bs p2 n hb (by omega) (by omega)
  rcases t with ⟨ti, tk, tx, tks⟩
  conv => whnf
  refine ⟨[0], false, ?_⟩
  conv => whnf
  refine hp.mono ?_
  rintro o st' ⟨c, c0, c1, rfl, rfl⟩
  conv => whnf
  by_cases hc : c = 0
  · rw [eqB_t hc]
    conv => whnf
    refine ⟨[0], false, ?_⟩
    conv => whnf
    refine hs.mono ?_
    rintro o st' ⟨t', p', q1, q2, q3, q4, rfl, rfl⟩
    rcases t' with ⟨ti', tk', tx', tks'⟩
    conv => whnf
    refine ⟨[], false, ?_⟩
    conv => whnf
    exact ⟨.mk ti' tk' tx' tks', p', q1, by omega, by omega, by omega, rfl, rfl⟩
  · rw [eqB_f hc]
    conv => whnf
    refine ⟨[], false, ?_⟩
    conv => whnf
    exact ⟨.mk ti tk tx tks, p2 + 1, s1, by omega, by omega, by omega, rfl, rfl⟩

theorem l11Id_full (bs : List UInt8) (hb : bs.length ≤ 2000) (p : Int) (p0 : 0 ≤ p) (p1 : p ≤ 10000000) (t : T) (ht : t.Small) (hz : t.size ≤ 600000) : Full Tryd.prog noY 66 [.ptr 0 0 0, .agg t.cells] [rdO bs p] fun o st' => ∃ (x p' : Int), p ≤ p' ∧ p' ≤ p + 2 ∧ o = .ret (.int .i64 x) ∧ st' = [rdO bs p'] := by
  have hn := T.ids_size t
  have hi := l2Ids_pure t ht (by omega)
  have hl : (irows t.ids).length = t.ids.length := by simp [irows]
  have hp : ∀ (q n : Int), 0 ≤ q → q ≤ 1073741824 → Full Tryd.prog noY 69 [.ptr 0 0 0, .int .i64 n] [rdO bs q] fun o st' => ∃ m : Int, 0 ≤ m ∧ (1 ≤ n → m < n) ∧ o = .ret (.int .i64 m) ∧ st' = [rdO bs (q + 1)] := fun q n h0 h1 => pick_full bs q n hb h0 h1
  have hpos := size_pos t
  have hg : ∀ (m : Int), 0 ≤ m → m < t.ids.length → ∃ x : Int, (irows t.ids)[m.toNat]? = some [.int .i64 x] := fun m h0 h1 => by
    have : m.toNat < t.ids.length := by omega
    exact ⟨t.ids[m.toNat], by simp [irows, this]⟩
  generalize irows t.ids = rows at *
  generalize t.ids.length = n at *
  cases t with
  | mk id kind text kids =>
  refine full_of_awp good Tryd.func66 rfl (by kernel_rfl) (by decide) ?_
  conv => whnf
  refine .inl (hi.mono ?_)
  rintro r rfl
  conv => whnf
  refine ⟨[0], false, ?_⟩
  conv => whnf
  refine (hp p 6 p0 (by omega)).mono ?_
  rintro o st' ⟨c, c0, c1, rfl, rfl⟩
  conv => whnf
  by_cases hc : c = 0
  · rw [eqB_t hc]
    conv => whnf
    refine ⟨[0], false, ?_⟩
    conv => whnf
    refine (hp (p + 1) 30 (by omega) (by omega)).mono ?_
    rintro o st' ⟨c, c0, c1, rfl, rfl⟩
    conv => whnf
    refine ⟨[], false, ?_⟩
    conv => whnf
    exact ⟨_, p + 1 + 1, by omega, by omega, rfl, rfl⟩
  · rw [eqB_f hc]
    conv => whnf
    refine ⟨[0], false, ?_⟩
    conv => whnf
    refine (hp (p + 1) _ (by omega) (by omega)).mono ?_
    rintro o st' ⟨c, c0, c1, rfl, rfl⟩
    obtain ⟨x, hx⟩ := hg c c0 (by have := c1 (by omega); omega)
    conv => whnf
    refine ⟨c0, _, _, 1, rfl, hx, rfl, rfl, ?_⟩
    conv => whnf
    refine ⟨[], false, ?_⟩
    conv => whnf
    exact ⟨x, p + 1 + 1, by omega, by omega, rfl, rfl⟩

def DrawR (r : V) : Prop := ∃ (t : T) (x : Int), t.Small ∧ t.size ≤ 600000 ∧ r = .tup [.agg t.cells, .int .i64 x]
theorem drawTreeFind_pure (bs : List UInt8) (hb : bs.length ≤ 1048576) : Pure Tryd.prog 64 [.sl (brows bs)] DrawR := by
  have ho := l1Open_full bs hb
  refine pure_of_awp good Tryd.func64 rfl (by kernel_rfl) (by decide) ?_
  conv => whnf
  refine .inr (.inl ⟨[], false, ?_⟩)
  conv => whnf
  refine ho.mono ?_
  rintro o st' ⟨rfl, bs', hb', rfl⟩
  conv => whnf
  refine ⟨[1], false, ?_⟩
  conv => whnf
  refine (l11Some_full bs' hb' 0 12 (by omega) (by omega)).mono ?_
  rintro o st' ⟨t, p, s1, s2, s3, s4, rfl, rfl⟩
  have hid := l11Id_full bs' hb' p (by omega) (by omega) t s1 s2
  rcases t with ⟨ti, tk, tx, tks⟩
  conv => whnf
  refine ⟨[1], false, ?_⟩
  conv => whnf
  refine hid.mono ?_
  rintro o st' ⟨x, p', q1, q2, rfl, rfl⟩
  conv => whnf
  repeat (refine And.intro (by conv => whnf
                               rfl) ?_
          conv => whnf)
  exact ⟨.mk ti tk tx tks, x, s1, s2, rfl⟩

end Go.Cod

namespace Go.Cod
open Go Go.Proofs Go.ChangeShapes Go.WideShapes Go.ChangeAt Go.RowKit
set_option maxRecDepth 10000

theorem implTreeFind_pure (t : T) (hs : t.Small) (x : Int) : Pure Tryd.prog 17 [.agg t.cells, .int .i64 x] (· = fR (findT t x)) := by
  refine Full.freeze (implTreeFind_new t hs x) ?_
  rintro o st' ⟨l, h1, h2, h3, rfl, rfl⟩
  have hv := viewL2 (y' := .bool (findT t x).isSome) (l.viewA h2 (es := l.ents) (fun _ h => h)) (.same _)
  refine ⟨_, _, .tup [.agg l.erase.cells, .bool (findT t x).isSome], rfl, rfl, .tup hv.1 hv.2, ?_, ?_⟩
  · cases l with
    | mk id kind text h kids => rcases h with _ | ⟨b, c⟩ <;> rfl
  · rw [h1]; cases findT t x <;> rfl
theorem implTreeIds_pure (t : T) (hs : t.Small) : Pure Tryd.prog 16 [.agg t.cells] (· = .sl (irows (idsOf t))) := by
  refine Full.freeze (implTreeIds_new t hs) ?_
  rintro o st' ⟨h, h1, rfl, rfl⟩
  refine ⟨_, _, .sl (irows (idsOf t)), rfl, rfl, viewI _ h _ h1 (fun _ h => h), ?_, rfl⟩
  rcases h with _ | ⟨b, c⟩ <;> rfl

theorem wcTree_pure1 (t : T) (ht : t.Small) (hT : ∀ t' ∈ t.kids, Pure Tryd.prog 34 [.agg t'.cells, .agg t'.cells] (· = .bool true)) : Pure Tryd.prog 34 [.agg t.cells, .agg t.cells] (· = .bool true) := by
  cases ht with
  | @mk id kind text kids g1 g2 g3 g4 g5 =>
  simp only [T.kids] at hT
  have hlr := rows_len kids
  refine pure_of_awp good Tryd.func34 rfl (by kernel_rfl) (by decide) ?_
  conv => whnf
  rw [eqB_refl]
  conv => whnf
  rw [eqS_refl]
  conv => whnf
  rw [eqS_refl]
  conv => whnf
  rw [eqB_refl]
  conv => whnf
  refine loop_intro (fun n fr st => ∃ i : Nat, n + i = kids.length ∧ st = [⟨[[.int .i64 id, .str kind, .str text, .sl (T.rows kids)]], 4, true, true, true, .cell⟩, ⟨[[.int .i64 id, .str kind, .str text, .sl (T.rows kids)]], 4, true, true, true, .cell⟩] ∧ Holds fr [(2, .ptr 0 0 0), (3, .ptr 1 0 0), (5, .int .i64 i)]) kids.length
    ⟨0, rfl, rfl, rfl, rfl, rfl, trivial⟩ ?_
  rintro n fr st ⟨i, hi, rfl, hh⟩
  obtain ⟨fr, rfl⟩ := hh.split
  clear hh
  conv => whnf
  by_cases hlt : i < kids.length
  · rw [ltB_t (by omega)]
    conv => whnf
    refine ⟨by omega, T.rows kids, kids[i].cells, 4, rfl, rows_get kids i hlt, rfl, cells_len _, ?_⟩
    have hc := hT kids[i] (List.getElem_mem _)
    have hmg := rows_get kids i hlt
    generalize kids[i] = t at hc hmg
    cases t with
    | mk id' kind' text' kids' =>
    conv => whnf
    refine ⟨by omega, T.rows kids, _, 4, rfl, hmg, rfl, rfl, ?_⟩
    conv => whnf
    refine ⟨_, .inl hc, ?_⟩
    conv => whnf
    refine ⟨n - 1, by omega, i + 1, by omega, rfl, rfl, rfl, ?_, trivial⟩
    · show V.int .i64 (IntKind.i64.wrap (i + 1)) = _
      rw [wrap64 (by omega) (by omega)]; simp
  · rw [ltB_f (by omega)]
    conv => whnf
theorem wcTree_refl (t : T) (ht : t.Small) : Pure Tryd.prog 34 [.agg t.cells, .agg t.cells] (· = .bool true) := by
  induction ht with
  | mk g1 g2 g3 g4 g5 ih => exact wcTree_pure1 _ (.mk g1 g2 g3 g4 g5) ih

end Go.Cod

namespace Go.Cod
open Go Go.Proofs Go.ChangeShapes Go.WideShapes Go.ChangeAt Go.RowKit
set_option maxRecDepth 10000

theorem neq_refl (a : Int) : negB (eqB a a) = false := by rw [eqB_refl]; rfl
theorem neqS_refl (a : List UInt8) : negB (eqS a a) = false := by rw [eqS_refl]; rfl
theorem ownK : ownKnob Tryd.prog.godebug = none := by kernel_rfl
theorem argTree {H : Type} {enc : TypeId × Value → H} {W : World} : ReadsA enc Tryd.prog W 44 fun x => ∃ vs, x = .agg vs ∧ ∃ t : T, vs = t.cells ∧ t.Ok := readsA_agg Tryd.underlying44 fun n => reads_tree n
end Go.Cod

namespace Go.Cod
open Go Go.Proofs Go.ChangeShapes Go.WideShapes Go.ChangeAt Go.RowKit
set_option maxRecDepth 10000

def byteOf : List V → UInt8
  | [.int _ i] => UInt8.ofNat i.toNat
  | _ => 0
theorem argBytes {H : Type} {enc : TypeId × Value → H} {W : World} : ReadsA enc Tryd.prog W 22 fun x => ∃ bs : List UInt8, x = .sl (brows bs) := by
  intro base v d p hv h
  obtain ⟨x, ⟨es, hx, _, hr⟩, hrep⟩ := readsA_slice (S := fun vs => ∃ es, vs = [.sl es] ∧ es.length ≤ maxLen ∧ ∀ r ∈ es, (∃ i, r = [.int .u8 i] ∧ IntKind.u8.min ≤ i ∧ i ≤ IntKind.u8.max) ∧ r.length = Tryd.prog.cellsOf 5 ∧ (∀ v ∈ r, v.leaf = true) ∧ V.clean.cleanL 0 r = true)
    Tryd.underlying22 (fun n => reads_slice Tryd.underlying22 (by decide +kernel) fun m _ => reads_int Tryd.underlying5) base v d p hv h
  cases hx
  refine ⟨_, ⟨es.map byteOf, ?_⟩, hrep⟩
  congr 1
  rw [brows, List.map_map]
  refine (List.map_id es).symm.trans (List.map_congr_left fun r hr' => ?_)
  obtain ⟨⟨i, rfl, h1, h2⟩, _⟩ := hr r hr'
  have h1 : 0 ≤ i := h1
  have h2 : i ≤ 255 := h2
  simp only [id_eq, Function.comp, byteOf, cellB]
  congr 2
  simp only [UInt8.toNat_ofNat']
  omega
end Go.Cod

namespace Go.Cod
open Go Go.Proofs
set_option maxRecDepth 10000

theorem implTreeTexts_pure (t : T) (hs : t.Small) : Pure Tryd.prog 11 [.agg t.cells] (· = .sl (srows (textsOf t))) := by
  refine Full.freeze (implTreeTexts_new t hs) ?_
  rintro o st' ⟨h, h1, rfl, rfl⟩
  refine ⟨_, _, .sl (srows (textsOf t)), rfl, rfl, viewS _ h _ h1 (fun _ h => h), ?_, rfl⟩
  rcases h with _ | ⟨b, c⟩ <;> rfl
theorem wcWords_refl (ss : List (List UInt8)) (hl : ss.length ≤ 1048576) : Pure Tryd.prog 12 [.sl (srows ss), .sl (srows ss)] (· = .bool true) := by
  have hlr := srows_len ss
  have hg := srows_get ss
  refine pure_of_awp good Tryd.func12 rfl (by kernel_rfl) (by decide) ?_
  conv => whnf
  rw [eqB_refl]
  conv => whnf
  refine loop_intro (fun n fr st => ∃ i : Nat, n + i = ss.length ∧ st = [] ∧ Holds fr [(0, .sl (srows ss)), (1, .sl (srows ss)), (5, .int .i64 i)]) ss.length
    ⟨0, rfl, rfl, rfl, rfl, rfl, trivial⟩ ?_
  rintro n fr st ⟨i, hi, rfl, hh⟩
  obtain ⟨fr, rfl⟩ := hh.split
  clear hh
  conv => whnf
  by_cases hlt : i < ss.length
  · rw [ltB_t (by omega)]
    conv => whnf
    refine ⟨by omega, srows ss, _, 1, rfl, hg i hlt, rfl, rfl, ?_⟩
    conv => whnf
    refine ⟨by omega, srows ss, _, 1, rfl, hg i hlt, rfl, rfl, ?_⟩
    conv => whnf
    rw [eqS_refl]
    conv => whnf
    refine ⟨n - 1, by omega, i + 1, by omega, rfl, rfl, rfl, ?_, trivial⟩
    · show V.int .i64 (IntKind.i64.wrap (i + 1)) = _
      rw [wrap64 (by omega) (by omega)]; simp
  · rw [ltB_f (by omega)]
    conv => whnf
def DrawRT (r : V) : Prop := ∃ (t : T), t.Small ∧ t.size ≤ 600000 ∧ r = .agg t.cells
theorem drawTreeTexts_pure (bs : List UInt8) (hb : bs.length ≤ 1048576) : Pure Tryd.prog 10 [.sl (brows bs)] DrawRT := by
  have ho := l1Open_full bs hb
  refine pure_of_awp good Tryd.func10 rfl (by kernel_rfl) (by decide) ?_
  conv => whnf
  refine .inr (.inl ⟨[], false, ?_⟩)
  conv => whnf
  refine ho.mono ?_
  rintro o st' ⟨rfl, bs', hb', rfl⟩
  conv => whnf
  refine ⟨[1], false, ?_⟩
  conv => whnf
  refine (l11Some_full bs' hb' 0 12 (by omega) (by omega)).mono ?_
  rintro o st' ⟨t, p, s1, s2, s3, s4, rfl, rfl⟩
  rcases t with ⟨ti, tk, tx, tks⟩
  conv => whnf
  exact ⟨.mk ti tk tx tks, s1, s2, rfl⟩
end Go.Cod

namespace Go.Cod
open Go Go.Proofs Go.ChangeShapes Go.WideShapes Go.ChangeAt Go.RowKit
set_option maxRecDepth 10000

/-- What the law goes by: of each number the thing, and how many texts there are up to it. -/
theorem texts_plan (t : T) (hs : t.Small) : ∃ (ids : List Int) (xs : List T), ids = idsOf t ∧ xs.length = ids.length ∧ ids.length ≤ 20 ∧
    (∀ i (h : i < xs.length), xs[i].Small ∧ ∃ h' : i < ids.length, findT t ids[i] = some xs[i]) ∧ textsOf t = (xs.filter fun x => decide (x.tx ≠ [])).map T.tx := by
  unfold idsOf textsOf
  by_cases hok : okT t = true
  · rw [if_pos hok, if_pos hok]
    have hall := (okT_iff t).1 hok
    have e1 := spT_ids t 0 1
    have hsm := spT_sm t 0 1 hs
    have hf : ∀ s ∈ spT t 0 1, findT t s.1.id = some s.1 := fun s hm => by
      rw [findT, if_pos hok, fT_sp t s.1.id 0 1, show s.1.id = idS s from rfl, find_of hall.2.1 hm]; rfl
    have h20 := hall.2.2
    rw [← e1]
    refine ⟨_, (spT t 0 1).map (·.1), rfl, by simp, by simpa using h20, fun i h => ?_, ?_⟩
    · simp only [List.length_map] at h
      have hm := List.getElem_mem h
      refine ⟨?_, by simpa using h, ?_⟩
      · rw [List.getElem_map]; exact hsm _ hm
      · rw [List.getElem_map, List.getElem_map]; exact hf _ hm
    · rw [List.filter_map, List.map_map]; rfl
  · rw [if_neg hok, if_neg hok]
    exact ⟨[], [], rfl, rfl, by simp, fun i h => by simp at h, rfl⟩
set_option maxHeartbeats 8000000 in
theorem law_fnTreeTexts (bs : List UInt8) : Pure Tryd.prog 3 [.sl (brows bs)] (· = .bool true) := by
  have hl := brows_len bs
  have hd := drawTreeTexts_pure bs
  refine pure_of_awp good Tryd.func3 rfl (by kernel_rfl) (by decide) ?_
  generalize brows bs = R at *
  conv => whnf
  by_cases a : 1048576 < R.length
  · rw [ltB_t (by omega)]
    conv => whnf
  rw [ltB_f (by omega)]
  conv => whnf
  refine .inl ((hd (by omega)).mono ?_)
  rintro r ⟨t, s1, s2, rfl⟩
  have hid := T.ids_size t
  obtain ⟨ids, xs, hids, hxl, h20, hx, htx⟩ := texts_plan t s1
  have i1 := implTreeTexts_pure t s1
  have i2 := specTreeTexts_pure t s1 (by omega)
  have i3 := implTreeOk t s1
  have i4 := specTreeOk_pure t s1 (by omega)
  have i5 := implTreeIds_pure t s1
  have i6 : ∀ i (h : i < xs.length), ∃ h' : i < ids.length, Pure Tryd.prog 17 [.agg t.cells, .int .i64 ids[i]] (· = fR (some xs[i])) := fun i h => by
    obtain ⟨_, h', hf⟩ := hx i h
    have := implTreeFind_pure t s1 ids[i]
    rw [hf] at this
    exact ⟨h', this⟩
  have heq : ∀ b : Bool, (!(b == b)) = false := by decide
  have hwl : (textsOf t).length ≤ 20 := by
    rw [htx, List.length_map]
    exact Nat.le_trans (List.length_filter_le _ _) (by omega)
  have i7 := wcWords_refl (textsOf t) (by omega)
  rw [← hids] at i5
  clear hids hx
  generalize textsOf t = ts at *
  generalize okT t = okt at *
  have hg := irows_get ids
  have hil := irows_len ids
  have hg2 := srows_get ts
  have hsl := srows_len ts
  rcases t with ⟨ti, tk, tx, tks⟩
  conv => whnf
  refine .inl (i1.mono ?_)
  rintro r rfl
  conv => whnf
  refine ⟨_, .inl i2, ?_⟩
  conv => whnf
  refine ⟨_, .inl i7, ?_⟩
  conv => whnf
  refine ⟨_, .inl i3, ?_⟩
  conv => whnf
  refine ⟨_, .inl i4, ?_⟩
  conv => whnf
  rw [heq]
  conv => whnf
  refine .inl (i5.mono ?_)
  rintro r rfl
  conv => whnf
  have hstep : ∀ i (h : i < xs.length), (xs.take (i + 1)).filter (fun x => decide (x.tx ≠ [])) = (xs.take i).filter (fun x => decide (x.tx ≠ [])) ++ if xs[i].tx ≠ [] then [xs[i]] else [] := fun i h => by
    rw [List.take_succ_eq_append_getElem h, List.filter_append]
    congr 1
    by_cases e : xs[i].tx = [] <;> simp [e]
  have hget : ∀ i (h : i < xs.length), xs[i].tx ≠ [] → ts[((xs.take i).filter fun x => decide (x.tx ≠ [])).length]? = some xs[i].tx := fun i h e => by
    have e1 : xs = xs.take i ++ xs[i] :: xs.drop (i + 1) := by rw [← List.drop_eq_getElem_cons h, List.take_append_drop]
    have e2 : xs.filter (fun x => decide (x.tx ≠ [])) = (xs.take i).filter (fun x => decide (x.tx ≠ [])) ++ xs[i] :: (xs.drop (i + 1)).filter (fun x => decide (x.tx ≠ [])) := by
      conv => lhs; rw [e1]
      rw [List.filter_append, List.filter_cons, if_pos (by simpa using e)]
    rw [htx, e2, List.getElem?_map, List.getElem?_append_right (by omega), Nat.sub_self]; rfl
  have hfull : ((xs.take xs.length).filter fun x => decide (x.tx ≠ [])).length = ts.length := by rw [List.take_length, htx, List.length_map]
  refine loop_drop (fun n fr st => ∃ i c : Nat, n + i = xs.length ∧ c = ((xs.take i).filter fun x => decide (x.tx ≠ [])).length ∧ Holds fr [(3, .ptr 0 0 0), (4, .sl (srows ts)), (5, .sl (irows ids)), (6, .int .i64 c), (7, .int .i64 i)] ∧
      st = [⟨[[.int .i64 ti, .str tk, .str tx, .sl (T.rows tks)]], 4, true, true, true, .cell⟩]) xs.length (some [0])
    (by
      conv => whnf
      exact ⟨0, 0, by omega, rfl, ⟨rfl, rfl, rfl, rfl, rfl, trivial⟩, rfl⟩) ?_
  rintro n fr st ⟨i, c, hi, hc, hh, rfl⟩
  obtain ⟨fr, rfl⟩ := hh.split
  clear hh
  have wi : V.int .i64 (IntKind.i64.wrap ((i : Int) + 1)) = .int .i64 ((i + 1 : Nat) : Int) := by
    rw [wrap64 (by omega) (by omega)]; simp
  conv => whnf
  by_cases hlt : i < xs.length
  · rw [hil, ltB_t (by omega)]
    conv => whnf
    obtain ⟨h', hfi⟩ := i6 i hlt
    have hsi := hstep i hlt
    have hgi := hget i hlt
    rw [← hc] at hgi
    have hgr := hg i h'
    generalize ids[i] = id at *
    generalize xs[i] = s at *
    refine ⟨by omega, irows ids, _, 1, rfl, hgr, rfl, rfl, ?_⟩
    conv => whnf
    rcases s with ⟨si, sk, sx, sks⟩
    have hsi : (xs.take (i + 1)).filter (fun x => decide (x.tx ≠ [])) = (xs.take i).filter (fun x => decide (x.tx ≠ [])) ++ if sx ≠ [] then [.mk si sk sx sks] else [] := hsi
    have hgi : sx ≠ [] → ts[c]? = some sx := hgi
    refine ⟨_, .inl hfi, ?_⟩
    conv => whnf
    repeat (refine And.intro (by conv => whnf
                                 first
                                   | rfl
                                   | exact ⟨by omega, irows ids, _, 1, rfl, hgr, rfl, rfl, rfl⟩
                                   | exact ⟨_, .inl hfi, rfl⟩) ?_
            conv => whnf)
    by_cases e : sx = []
    · rw [if_neg (by simpa using e), List.append_nil] at hsi
      rw [eqS_t e]
      conv => whnf
      refine ⟨n - 1, by omega, some [0], ?_⟩
      conv => whnf
      exact ⟨i + 1, c, by omega, by rw [hsi, hc], ⟨rfl, rfl, rfl, rfl, wi, trivial⟩, rfl⟩
    · rw [if_pos e] at hsi
      have hgi := hgi e
      have hclt : c < ts.length := (List.getElem?_eq_some_iff.1 hgi).1
      have hgr2 : (srows ts)[c]? = some [.str sx] := by
        rw [hg2 c hclt]
        rw [List.getElem?_eq_getElem hclt] at hgi
        rw [Option.some.inj hgi]
      rw [eqS_f e]
      conv => whnf
      rw [hsl, leB_f (by omega)]
      conv => whnf
      refine ⟨by omega, srows ts, _, 1, rfl, hgr2, rfl, rfl, ?_⟩
      conv => whnf
      rw [neqS_refl]
      conv => whnf
      refine ⟨n - 1, by omega, some [0], ?_⟩
      conv => whnf
      refine ⟨i + 1, c + 1, by omega, by rw [hsi, List.length_append, hc]; rfl, ⟨rfl, rfl, rfl, ?_, wi, trivial⟩, rfl⟩
      show V.int .i64 (IntKind.i64.wrap ((c : Int) + 1)) = _
      rw [wrap64 (by omega) (by omega)]; simp
  · rw [hil, ltB_f (by omega)]
    conv => whnf
    have : i = xs.length := by omega
    rw [hc, this, hfull, hsl, eqB_refl]
theorem lawFnTreeTexts (bs : List UInt8) : Pure Tryd.prog 3 [.sl (brows bs)] (· = .bool true) := law_fnTreeTexts bs
theorem conFnTreeTexts (H : Type) (enc : TypeId × Value → H) (W : World) (base : Nat) (args : Array Value) (ds gs : List (DataW H)) (before : List MemPlace)
    (hval : ∀ (j : Nat) t v, Tryd.f3.params[j]? = some t → args[j]? = some v → Value.okWide Tryd.prog W .any base t v)
    (hW : DataW.Whole enc Tryd.prog Tryd.f3.params.toList YtaekcebacghjoaaDoor.Rows.fnTreeTextsSpec.vars false W args.toList ds gs before) {fresh handsOn again : Bool} :
    Calls Tryd.prog 3 args W fun e W' => ∃ v, e = .returned v ∧ YtaekcebacghjoaaDoor.Rows.fnTreeTextsSpec.post enc Tryd.prog Tryd.f3 false fresh handsOn again W args v W' := by
  refine law_calls kids full (tb := 4) rfl Tryd.underlying4 (by decide +kernel) rfl hW (fun ds h => by match ds, h with | [_], _ => exact ⟨rfl, rfl, rfl⟩) hval
    (Ss := [fun x => ∃ bs : List UInt8, x = .sl (brows bs)]) laid0 ?_ ?_
  · rw [Tryd.params3]
    exact ⟨argBytes, trivial⟩
  · intro xs h
    obtain ⟨_, rfl, ⟨t0, rfl⟩⟩ := hold1 h
    exact lawFnTreeTexts t0

theorem doorFnTreeTexts (os : Os) (args : Array Value) : laidMetH Tryd.prog YtaekcebacghjoaaDoor.Rows.fnTreeTextsRow.laid ((World.doorLaid Tryd.prog 400 os).forCall (fun _ _ => 0) ⟨#[], args, []⟩).memory :=
  laidMetH_of_parts3 (fuel := 8) (laidMet_of_run' 8 (by kernel_rfl) (by kernel_rfl)) (by kernel_rfl) (by kernel_rfl)

set_option maxRecDepth 100000 in
theorem rowFnTreeTexts : YtaekcebacghjoaaDoor.Rows.FnTreeTextsSaid :=
  OpenClaim.holds_of_wide 3 Tryd.f3 rfl rfl rfl rfl rfl rfl rfl ⟨rfl, rfl, rfl, rfl, rfl⟩ rfl rfl rfl rfl rfl (by kernel_rfl) Tryd.func3 (by kernel_rfl)
    (of_decide_eq_true (by kernel_rfl)) (by unfold Func.isWrapper; first | (rw [if_pos (by decide +kernel)]; kernel_rfl) | (rw [if_neg (by decide +kernel)]; exact ⟨rfl, rfl⟩))
    (fun os started H enc _ => returnsInHanded_of_change_and (C := Tryd.checked) (X := fun w _ => laidMetH Tryd.prog YtaekcebacghjoaaDoor.Rows.fnTreeTextsRow.laid w) (fun _ _ _ hh h => h.of_heap hh) ownK started (by kernel_rfl) Tryd.func3
      (ChangeSpec.witness_shaped (enc := enc) (C := Tryd.checked) (os := os) (X := fun w _ => laidMetH Tryd.prog YtaekcebacghjoaaDoor.Rows.fnTreeTextsRow.laid w) false (World.doorLaid Tryd.prog 400 os) #[.slice none 0 0] 8 rfl (World.shaped_of_RefB (by kernel_rfl) (by kernel_rfl)) (by kernel_rfl) (by kernel_rfl) (by kernel_rfl) (doorFnTreeTexts os _))
      (fun W base args ds gs before hval hW _ _ _ _ => conFnTreeTexts H enc W base args ds gs before hval hW))

set_option maxRecDepth 100000 in
theorem overFnTreeTexts : YtaekcebacghjoaaDoor.Rows.FnTreeTextsCardSaid :=
  Claim7.holds_tied_plain_at .later [] [.data, .data, .data] true (true, "e4acd9d7c330412b67a8cfc27183fbc0de722b081a51662150a927321939614e") false
    rowFnTreeTexts (fun _ h => by cases h) (by kernel_rfl) (fun _ h => by cases h) YtaekcebacghjoaaDoor.fnTreeTexts_row_tie rfl ⟨rfl, rfl⟩ (by kernel_rfl) rfl
    (fun f fn hf hfn => by
      obtain rfl : f = 3 := Option.some.inj ((show Tryd.prog.funcNamed "loop.example/codicil/laws.FnTreeTexts" = some 3 by kernel_rfl).symm.trans hf) |>.symm
      obtain rfl : fn = Tryd.f3 := (Option.some.inj (Tryd.func3.symm.trans hfn)).symm
      exact ⟨by kernel_rfl, fun j t ht => by
        rw [Tryd.params3] at ht
        have hm : t ∈ ([22] : List Nat) := by simpa using Array.mem_of_getElem? ht
        have hall : (([22] : List Nat).all fun u => !Tryd.prog.wantsStandIn u) = true := by kernel_rfl
        exact (show Tryd.prog.wantsStandIn t = false by simpa using List.all_eq_true.1 hall t hm)⟩)
    (by kernel_rfl)
end Go.Cod

