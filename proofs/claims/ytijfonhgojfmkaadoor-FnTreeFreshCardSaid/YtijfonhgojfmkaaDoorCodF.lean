/- Own texts. -/
import Derived.WalkKit
import Derived.ProofKit
import Derived.Test.YtijfonhgojfmkaaDoorCards
import Derived.Test.YtijfonhgojfmkaaDoorTie
import Derived.LaidMore
import Derived.LaidOnce
import Derived.SevenTiedAt
import Derived.Test.YtijfonhgojfmkaaDoorCodE
namespace Go.Cod
open Go Go.Proofs Go.ChangeShapes Go.WideShapes Go.ChangeAt Go.RowKit
set_option maxRecDepth 10000

/-- A drawn step. -/
def Stp.Dr (s : Stp) : Prop := s.node.Small ∧ s.node.size ≤ 256 ∧ s.text.length ≤ 1000
def EdR (bs : List UInt8) (p k : Int) (o : Out) (st' : St) : Prop := ∃ (s : Stp) (p' k' : Int), s.Dr ∧ p ≤ p' ∧ p' ≤ p + 1000 ∧ 0 ≤ k' ∧ k' ≤ k + 1000 ∧ o = .ret (.agg s.cells) ∧ st' = [rdO bs p', nxO k']
theorem noneS_small : (T.mk 0 [] [] []).Small := .mk (by omega) (by simp) (by simp) (by simp) (by simp)
set_option maxHeartbeats 8000000 in
theorem l11Edit_full (bs : List UInt8) (hb : bs.length ≤ 2000) (p k : Int) (p0 : 0 ≤ p) (p1 : p ≤ 10000000) (k0 : 0 ≤ k) (k1 : k ≤ 1000000) (t : T) (ht : t.Small) (hz : t.size ≤ 600000) :
    Full Tryd.prog noY 34 [.ptr 0 0 0, .agg t.cells, .ptr 1 0 0] [rdO bs p, nxO k] (EdR bs p k) := by
  have hn := T.ids_size t
  have hi := l2Ids_pure t ht (by omega)
  have hl : (irows t.ids).length = t.ids.length := by simp [irows]
  have hp : ∀ (q n : Int), 0 ≤ q → q ≤ 1073741824 → Full Tryd.prog noY 16 [.ptr 0 0 0, .int .i64 n] [rdO bs q] fun o st' => ∃ m : Int, 0 ≤ m ∧ (1 ≤ n → m < n) ∧ o = .ret (.int .i64 m) ∧ st' = [rdO bs (q + 1)] := fun q n h0 h1 => pick_full bs q n hb h0 h1
  have ho : ∀ (q : Int) (ss : List (List UInt8)), 0 ≤ q → q ≤ 1073741824 → 1 ≤ ss.length → ss.length ≤ 1048576 → Full Tryd.prog noY 38 [.ptr 0 0 0, .sl (drows ss)] [rdO bs q] fun o st' => ∃ s ∈ ss, o = .ret (.str s) ∧ st' = [rdO bs (q + 1)] := fun q ss h0 h1 h2 h3 => of_full bs q ss hb h0 h1 h2 h3
  have hx := fun q h0 h1 => l11Text_full bs q hb h0 h1
  have hT := l11Tree_3 bs hb
  have hpos := size_pos t
  have hg : ∀ (m : Int), 0 ≤ m → m < t.ids.length → ∃ x : Int, (irows t.ids)[m.toNat]? = some [.int .i64 x] := fun m h0 h1 => by
    have : m.toNat < t.ids.length := by omega
    exact ⟨t.ids[m.toNat], by simp [irows, this]⟩
  have hf := fun x => l2Find_pure t ht x
  have hfx : ∀ x, ∃ (s : T) (b : Bool), fR (fT t x) = .tup [.agg s.cells, .bool b] ∧ s.size ≤ 600000 := fun x => by
    cases h : fT t x with
    | none => exact ⟨TZ, false, rfl, by simp [TZ, T.size, T.sizeL]⟩
    | some s => exact ⟨s, true, rfl, by have := fT_size t x s h; omega⟩
  have hkl : ∀ s : T, s.size ≤ 600000 → s.kids.length ≤ 600000 := fun s h => by
    have h2 : ∀ ts : List T, ts.length ≤ T.sizeL ts := length_le_sizeL
    have h3 := T.kids_size s
    have := h2 s.kids
    omega
  generalize irows t.ids = rows at *
  generalize t.ids.length = n at *
  cases t with
  | mk id kind text kids =>
  refine full_of_awp good Tryd.func34 rfl (by kernel_rfl) (by decide) ?_
  conv => whnf
  refine .inl (hi.mono ?_)
  rintro r rfl
  conv => whnf
  refine ⟨[0], false, ?_⟩
  conv => whnf
  refine (hp p _ p0 (by omega)).mono ?_
  rintro o st' ⟨c, c0, c1, rfl, rfl⟩
  obtain ⟨x, hgx⟩ := hg c c0 (by have := c1 (by omega); omega)
  conv => whnf
  refine ⟨c0, _, _, 1, rfl, hgx, rfl, rfl, ?_⟩
  conv => whnf
  refine .inl ((hf x).mono ?_)
  rintro r rfl
  obtain ⟨y, yb, hy1, hy2⟩ := hfx x
  rw [hy1]
  have hyk := hkl y hy2
  cases y with
  | mk yid yk yt yks =>
  simp only [T.kids] at hyk
  have hyl := Go.Cod.rows_len yks
  conv => whnf
  refine ⟨[0], false, ?_⟩
  conv => whnf
  refine (hp (p + 1) 7 (by omega) (by omega)).mono ?_
  rintro o st' ⟨d, d0, d1, rfl, rfl⟩
  conv => whnf
  have hend : ∀ (s : Stp) (p' k' : Int), s.Dr → p ≤ p' → p' ≤ p + 1000 → 0 ≤ k' → k' ≤ k + 1000 → EdR bs p k (.ret (.agg s.cells)) [rdO bs p', nxO k'] := fun s p' k' h1 h2 h3 h4 h5 => ⟨s, p', k', h1, h2, h3, h4, h5, rfl, rfl⟩
  have hsec : kSec ∈ kinds11 := by decide
  have hput : ∀ (kd : List UInt8) (k' : Int), kd ∈ kinds11 → 0 ≤ k' → k' ≤ 1000000 → Full Tryd.prog noY 51 [.ptr 0 0 0, .str kd, .int .i64 3, .ptr 1 0 0] [rdO bs (p + 1 + 1 + 1 + 1), nxO k'] (TreeR bs (p + 1 + 1 + 1 + 1) k' 256) := fun kd k' h1 h2 h3 => hT (p + 1 + 1 + 1 + 1) k' kd (by omega) (by omega) h2 (by omega) h1
  have hw : 90 < k.tmod 100 → IntKind.i64.wrap (k - 50) = k - 50 ∧ 0 ≤ k - 50 := fun h3 => by
    have h5 : k.tmod 100 ≤ k := by rw [Int.tmod_eq_emod_of_nonneg k0]; omega
    exact ⟨wrap64 (by omega) (by omega), by omega⟩
  have hw0 : 90 < k.tmod 100 → 0 ≤ k - 50 := fun h => (hw h).2
  have hsec : kSec ∈ kinds11 := by decide
  have hput : ∀ (kd : List UInt8) (k' : Int), kd ∈ kinds11 → 0 ≤ k' → k' ≤ 1000000 → Full Tryd.prog noY 51 [.ptr 0 0 0, .str kd, .int .i64 3, .ptr 1 0 0] [rdO bs (p + 1 + 1 + 1 + 1), nxO k'] (TreeR bs (p + 1 + 1 + 1 + 1) k' 256) := fun kd k' h1 h2 h3 => hT (p + 1 + 1 + 1 + 1) k' kd (by omega) (by omega) h2 (by omega) h1
  have hw : 90 < k.tmod 100 → IntKind.i64.wrap (k - 50) = k - 50 ∧ 0 ≤ k - 50 := fun h3 => by
    have h5 : k.tmod 100 ≤ k := by rw [Int.tmod_eq_emod_of_nonneg k0]; omega
    exact ⟨wrap64 (by omega) (by omega), by omega⟩
  have hw0 : 90 < k.tmod 100 → 0 ≤ k - 50 := fun h => (hw h).2
  by_cases e0 : d = 0
  · rw [eqB_t e0]
    conv => whnf
    refine ⟨[0], false, ?_⟩
    conv => whnf
    refine (ho (p + 1 + 1) [[112, 97, 114], [112, 97, 114], [115, 101, 99], [110, 111, 116, 101], [116, 105, 116, 108, 101]] (by omega) (by omega) (by simp) (by simp)).mono ?_
    rintro o st' ⟨kd, hkd, rfl, rfl⟩
    have hkd : kd ∈ kinds11 := by
      simp only [List.mem_cons, List.not_mem_nil, or_false] at hkd
      simp only [kinds11, kPar, kSec, kNote, kTitle, List.mem_cons, List.not_mem_nil, or_false]
      rcases hkd with rfl | rfl | rfl | rfl | rfl <;> simp
    conv => whnf
    by_cases hdoc : yk = [100, 111, 99]
    case' pos =>
      rw [eqS_t hdoc]
      conv => whnf
    case' neg =>
      rw [eqS_f hdoc]
      conv => whnf
    all_goals
      refine ⟨by omega, ?_⟩
      conv => whnf
      by_cases hm : 90 < k.tmod 100
      · rw [ltB_t hm]
        conv => whnf
        rw [(hw hm).1]
        refine ⟨[0], false, ?_⟩
        conv => whnf
        refine (hp (p + 1 + 1 + 1) _ (by omega) (by omega)).mono ?_
        rintro o st' ⟨c, c0, c1, rfl, rfl⟩
        conv => whnf
        refine ⟨[0, 1], false, ?_⟩
        conv => whnf
        first
          | refine (hput kSec (k - 50) hsec (by first | omega | exact hw0 hm) (by omega)).mono ?_
          | refine (hput kd (k - 50) hkd (by first | omega | exact hw0 hm) (by omega)).mono ?_
        rintro o st' ⟨nt, p', k', n1, n2, n3, n4, n5, n6, rfl, rfl⟩
        rcases nt with ⟨ni, nk, nx, nks⟩
        conv => whnf
        refine ⟨[], false, ?_⟩
        conv => whnf
        exact hend ⟨1, x, c, .mk ni nk nx nks, []⟩ p' k' ⟨n1, by show (T.mk ni nk nx nks).size ≤ 256; omega, by simp⟩ (by omega) (by omega) (by omega) (by omega)
      · rw [ltB_f (by omega)]
        conv => whnf
        refine ⟨[0], false, ?_⟩
        conv => whnf
        refine (hp (p + 1 + 1 + 1) _ (by omega) (by omega)).mono ?_
        rintro o st' ⟨c, c0, c1, rfl, rfl⟩
        conv => whnf
        refine ⟨[0, 1], false, ?_⟩
        conv => whnf
        first
          | refine (hput kSec k hsec (by first | omega | exact hw0 hm) (by omega)).mono ?_
          | refine (hput kd k hkd (by first | omega | exact hw0 hm) (by omega)).mono ?_
        rintro o st' ⟨nt, p', k', n1, n2, n3, n4, n5, n6, rfl, rfl⟩
        rcases nt with ⟨ni, nk, nx, nks⟩
        conv => whnf
        refine ⟨[], false, ?_⟩
        conv => whnf
        exact hend ⟨1, x, c, .mk ni nk nx nks, []⟩ p' k' ⟨n1, by show (T.mk ni nk nx nks).size ≤ 256; omega, by simp⟩ (by omega) (by omega) (by omega) (by omega)
  rw [eqB_f e0]
  conv => whnf
  by_cases e1 : d = 1
  · rw [eqB_t e1]
    conv => whnf
    refine ⟨[0], false, ?_⟩
    conv => whnf
    refine (ho (p + 1 + 1) [[112, 97, 114], [112, 97, 114], [115, 101, 99], [110, 111, 116, 101], [116, 105, 116, 108, 101]] (by omega) (by omega) (by simp) (by simp)).mono ?_
    rintro o st' ⟨kd, hkd, rfl, rfl⟩
    have hkd : kd ∈ kinds11 := by
      simp only [List.mem_cons, List.not_mem_nil, or_false] at hkd
      simp only [kinds11, kPar, kSec, kNote, kTitle, List.mem_cons, List.not_mem_nil, or_false]
      rcases hkd with rfl | rfl | rfl | rfl | rfl <;> simp
    conv => whnf
    by_cases hdoc : yk = [100, 111, 99]
    case' pos =>
      rw [eqS_t hdoc]
      conv => whnf
    case' neg =>
      rw [eqS_f hdoc]
      conv => whnf
    all_goals
      refine ⟨by omega, ?_⟩
      conv => whnf
      by_cases hm : 90 < k.tmod 100
      · rw [ltB_t hm]
        conv => whnf
        rw [(hw hm).1]
        refine ⟨[0], false, ?_⟩
        conv => whnf
        refine (hp (p + 1 + 1 + 1) _ (by omega) (by omega)).mono ?_
        rintro o st' ⟨c, c0, c1, rfl, rfl⟩
        conv => whnf
        refine ⟨[0, 1], false, ?_⟩
        conv => whnf
        first
          | refine (hput kSec (k - 50) hsec (by first | omega | exact hw0 hm) (by omega)).mono ?_
          | refine (hput kd (k - 50) hkd (by first | omega | exact hw0 hm) (by omega)).mono ?_
        rintro o st' ⟨nt, p', k', n1, n2, n3, n4, n5, n6, rfl, rfl⟩
        rcases nt with ⟨ni, nk, nx, nks⟩
        conv => whnf
        refine ⟨[], false, ?_⟩
        conv => whnf
        exact hend ⟨1, x, c, .mk ni nk nx nks, []⟩ p' k' ⟨n1, by show (T.mk ni nk nx nks).size ≤ 256; omega, by simp⟩ (by omega) (by omega) (by omega) (by omega)
      · rw [ltB_f (by omega)]
        conv => whnf
        refine ⟨[0], false, ?_⟩
        conv => whnf
        refine (hp (p + 1 + 1 + 1) _ (by omega) (by omega)).mono ?_
        rintro o st' ⟨c, c0, c1, rfl, rfl⟩
        conv => whnf
        refine ⟨[0, 1], false, ?_⟩
        conv => whnf
        first
          | refine (hput kSec k hsec (by first | omega | exact hw0 hm) (by omega)).mono ?_
          | refine (hput kd k hkd (by first | omega | exact hw0 hm) (by omega)).mono ?_
        rintro o st' ⟨nt, p', k', n1, n2, n3, n4, n5, n6, rfl, rfl⟩
        rcases nt with ⟨ni, nk, nx, nks⟩
        conv => whnf
        refine ⟨[], false, ?_⟩
        conv => whnf
        exact hend ⟨1, x, c, .mk ni nk nx nks, []⟩ p' k' ⟨n1, by show (T.mk ni nk nx nks).size ≤ 256; omega, by simp⟩ (by omega) (by omega) (by omega) (by omega)
  rw [eqB_f e1]
  conv => whnf
  by_cases e2 : d = 2
  · rw [eqB_t e2]
    conv => whnf
    refine ⟨[], false, ?_⟩
    conv => whnf
    exact hend ⟨2, x, 0, .mk 0 [] [] [], []⟩ _ k ⟨noneS_small, by simp [T.size, T.sizeL], by simp⟩ (by omega) (by omega) (by omega) (by omega)
  rw [eqB_f e2]
  conv => whnf
  by_cases e3 : d = 3
  · rw [eqB_t e3]
    conv => whnf
    refine ⟨[0], false, ?_⟩
    conv => whnf
    refine (hp (p + 1 + 1) 3 (by omega) (by omega)).mono ?_
    rintro o st' ⟨c, c0, c1, rfl, rfl⟩
    conv => whnf
    by_cases e4 : c = 0
    · rw [eqB_t e4]
      conv => whnf
      refine ⟨[0], false, ?_⟩
      conv => whnf
      refine (ho (p + 1 + 1 + 1) [[112, 97, 114], [110, 111, 116, 101], [115, 101, 99], [116, 105, 116, 108, 101], [120]] (by omega) (by omega) (by simp) (by simp)).mono ?_
      rintro o st' ⟨kd, hkd, rfl, rfl⟩
      have hkl : kd.length ≤ 1000 := by
        simp only [List.mem_cons, List.not_mem_nil, or_false] at hkd
        rcases hkd with rfl | rfl | rfl | rfl | rfl <;> decide
      conv => whnf
      refine ⟨[], false, ?_⟩
      conv => whnf
      exact hend ⟨4, x, 0, .mk 0 [] [] [], kd⟩ _ k ⟨noneS_small, by simp [T.size, T.sizeL], hkl⟩ (by omega) (by omega) (by omega) (by omega)
    · rw [eqB_f e4]
      conv => whnf
      refine ⟨[0], false, ?_⟩
      conv => whnf
      refine (hx (p + 1 + 1 + 1) (by omega) (by omega)).mono ?_
      rintro o st' ⟨tx, htx, rfl, rfl⟩
      conv => whnf
      refine ⟨[], false, ?_⟩
      conv => whnf
      exact hend ⟨3, x, 0, .mk 0 [] [] [], tx⟩ _ k ⟨noneS_small, by simp [T.size, T.sizeL], by simp only; omega⟩ (by omega) (by omega) (by omega) (by omega)
  · rw [eqB_f e3]
    conv => whnf
    refine ⟨[0], false, ?_⟩
    conv => whnf
    refine (hx (p + 1 + 1) (by omega) (by omega)).mono ?_
    rintro o st' ⟨tx, htx, rfl, rfl⟩
    conv => whnf
    refine ⟨[], false, ?_⟩
    conv => whnf
    exact hend ⟨3, x, 0, .mk 0 [] [] [], tx⟩ _ k ⟨noneS_small, by simp [T.size, T.sizeL], by simp only; omega⟩ (by omega) (by omega) (by omega) (by omega)
end Go.Cod

namespace Go.Cod
open Go Go.Proofs Go.ChangeShapes Go.WideShapes Go.ChangeAt Go.RowKit
set_option maxRecDepth 10000

end Go.Cod

namespace Go.Cod
open Go Go.Proofs
set_option maxRecDepth 10000

/- What a step leaves as it was. -/
mutual
def T.hd : T → List (Int × List UInt8 × List UInt8)
  | .mk id kind text kids => (id, kind, text) :: T.hdL kids
def T.hdL : List T → List (Int × List UInt8 × List UInt8)
  | [] => []
  | t :: ts => t.hd ++ T.hdL ts
end
end Go.Cod

namespace Go.Cod
open Go Go.Proofs
set_option maxRecDepth 10000

/- Steps, one behind the other. -/
end Go.Cod

namespace Go.Cod
open Go Go.Proofs
set_option maxRecDepth 10000

end Go.Cod

namespace Go.Cod
open Go Go.Proofs
set_option maxRecDepth 10000

/- Two changes of one word each, of which neither is the other's, in either order. -/
end Go.Cod

namespace Go.Cod
open Go Go.Proofs
set_option maxRecDepth 10000

/- A drawn tree is even: where a number stands twice, the later ones bear as many kids as the first. -/
def T.Even (t : T) : Prop := ∀ (x : Int) (s : T) (n : Nat), fT t x = some s → n ≤ s.kids.length → t.PutOk x n
def EvenL (ts : List T) : Prop := ∀ (x : Int) (s : T) (n : Nat), fL ts x = some s → n ≤ s.kids.length → T.PutOkL x n ts
theorem even_nodup {t : T} (hn : t.ids.Nodup) : t.Even := fun x s n h1 h2 => putOk_found x n t s hn h1 h2
theorem evenL_nodup {ts : List T} (hn : (T.idsL ts).Nodup) : EvenL ts := fun x s n h1 h2 => putOkL_found x n ts s hn h1 h2
theorem even_mk {id : Int} {kind text : List UInt8} {kids : List T} (h : ∀ (x : Int) (s : T) (n : Nat), x ≠ id → fL kids x = some s → n ≤ s.kids.length → T.PutOkL x n kids) : (T.mk id kind text kids).Even := by
  intro x s n h1 h2
  simp only [fT] at h1
  simp only [T.PutOk]
  by_cases e : id = x
  · rw [if_pos e] at h1 ⊢
    cases h1
    exact h2
  · rw [if_neg e] at h1 ⊢
    exact h x s n (Ne.symm e) h1 h2
theorem fL_append (a b : List T) (x : Int) : fL (a ++ b) x = match fL a x with
    | some s => some s
    | none => fL b x := by
  induction a with
  | nil => rfl
  | cons t a ih =>
    simp only [List.cons_append, fL, ih]
    cases fT t x <;> rfl
theorem putOkL_append {x : Int} {n : Nat} {a b : List T} (ha : T.PutOkL x n a) (hb : T.PutOkL x n b) : T.PutOkL x n (a ++ b) := by
  induction a with
  | nil => exact hb
  | cons t a ih => exact ⟨ha.1, ih ha.2⟩
/-- What spoiling adds to the numbers. -/
def Spec (i : Int) : Prop := i < 2 ∨ 20 ≤ i
theorem wide_ids : ∀ i : Nat, ∀ x ∈ T.idsL (wideN i), 600 ≤ x
  | 0, x, h => by simp [wideN, T.idsL] at h
  | i + 1, x, h => by
    rw [wideN, idsL_snoc] at h
    rcases List.mem_append.1 h with h | h
    · exact wide_ids i x h
    · simp [T.ids, T.idsL] at h; omega
theorem deep_ids (t : T) : ∀ i : Nat, ∀ x ∈ (deepN t i).ids, x ∈ t.ids ∨ 500 ≤ x
  | 0, x, h => .inl h
  | i + 1, x, h => by
    simp only [deepN, T.ids, T.idsL, List.mem_cons, List.append_nil] at h
    rcases h with h | h
    · right; omega
    · exact deep_ids t i x h
theorem spoil_ids {t t' : T} (h : SpoilOf t t') : ∀ x ∈ t'.ids, x ∈ t.ids ∨ Spec x := by
  induction h with
  | @kid id kind text kids i hi t' hs ih =>
    intro x hx
    simp only [T.ids, List.mem_cons] at hx ⊢
    rcases hx with hx | hx
    · exact .inl (.inl hx)
    · have : ∀ (ks : List T) (j : Nat) (hj : j < ks.length), (∀ y ∈ t'.ids, y ∈ ks[j].ids ∨ Spec y) → ∀ y ∈ T.idsL (ks.set j t'), y ∈ T.idsL ks ∨ Spec y := by
        intro ks
        induction ks with
        | nil => intro j hj; simp at hj
        | cons k ks ihk =>
          intro j hj hh y hy
          cases j with
          | zero =>
            simp only [List.set_cons_zero, T.idsL, List.mem_append] at hy ⊢
            rcases hy with hy | hy
            · exact (hh y hy).imp .inl _root_.id
            · exact .inl (.inr hy)
          | succ j =>
            simp only [List.set_cons_succ, T.idsL, List.mem_append] at hy ⊢
            rcases hy with hy | hy
            · exact .inl (.inl hy)
            · exact (ihk j (by simpa using hj) hh y hy).imp .inr _root_.id
      exact (this kids i hi ih x hx).imp .inr _root_.id
  | id z hz =>
    intro x hx
    simp only [T.ids, List.mem_cons] at hx ⊢
    rcases hx with rfl | hx
    · right; unfold Spec; omega
    · exact .inl (.inr hx)
  | word k' x' => exact fun x hx => .inl hx
  | @twice id kind text kids =>
    intro x hx
    simp only [T.ids, idsL_snoc, List.mem_cons, List.mem_append] at hx ⊢
    rcases hx with hx | hx | hx | hx
    · exact .inl (.inl hx)
    · exact .inl (.inr hx)
    · exact .inl (.inl hx)
    · exact .inl (.inr hx)
  | @deep t =>
    intro x hx
    rcases deep_ids t 6 x hx with h | h
    · exact .inl h
    · right; unfold Spec; omega
  | @wide id kind text kids =>
    intro x hx
    simp only [T.ids, T.idsL_append, List.mem_cons, List.mem_append] at hx ⊢
    rcases hx with hx | hx | hx
    · exact .inl (.inl hx)
    · exact .inl (.inr hx)
    · have := wide_ids 20 x hx
      right; unfold Spec; omega
theorem wide_put (x : Int) : ∀ (i : Nat) (n : Nat), n ≤ 0 → T.PutOkL x n (wideN i)
  | 0, _, _ => trivial
  | i + 1, n, h => by
    rw [wideN]
    refine putOkL_append (wide_put x i n h) ⟨?_, trivial⟩
    simp only [T.PutOk]
    split
    · omega
    · trivial
theorem wide_kids : ∀ (i : Nat) (x : Int) (s : T), fL (wideN i) x = some s → s.kids = []
  | 0, x, s, h => by simp [wideN, fL] at h
  | i + 1, x, s, h => by
    rw [wideN, fL_append] at h
    cases h1 : fL (wideN i) x with
    | some s' =>
      rw [h1] at h
      cases h
      exact wide_kids i x s h1
    | none =>
      rw [h1] at h
      simp only [fL, fT] at h
      split at h
      · rename_i s' h2
        split at h2
        · cases h2; cases h; rfl
        · cases h2
      · cases h
theorem deep_even (t : T) (ht : t.Even) (hl : ∀ x ∈ t.ids, x < 500) : ∀ i : Nat, (deepN t i).Even
  | 0 => ht
  | i + 1 => by
    refine even_mk fun x s n hne h1 h2 => ?_
    simp only [fL] at h1
    have : fT (deepN t i) x = some s := by
      cases h3 : fT (deepN t i) x with
      | some s' => rw [h3] at h1; exact h1
      | none => rw [h3] at h1; cases h1
    exact ⟨deep_even t ht hl i x s n this h2, trivial⟩
theorem idsL_get : ∀ (l : List T) (i : Nat) (hi : i < l.length), (T.idsL l).Nodup → l[i].ids.Nodup ∧ ∀ y ∈ l[i].ids, y ∈ T.idsL l
  | [], i, hi, _ => by simp at hi
  | t :: l, 0, _, hn => by
    simp only [T.idsL, List.nodup_append] at hn
    exact ⟨hn.1, fun y hy => by simp only [T.idsL, List.mem_append]; exact .inl hy⟩
  | t :: l, i + 1, hi, hn => by
    simp only [T.idsL, List.nodup_append] at hn
    have := idsL_get l i (by simpa using hi) hn.2.1
    exact ⟨this.1, fun y hy => by simp only [T.idsL, List.mem_append]; exact .inr (this.2 y hy)⟩
theorem kids_ids {t : T} {x : Int} (h : x ∈ T.idsL t.kids) : x ∈ t.ids := by
  cases t
  simp only [T.ids, List.mem_cons]
  exact .inr h
theorem id_ids (t : T) : t.id ∈ t.ids := by
  cases t
  simp only [T.ids, List.mem_cons]
  exact .inl rfl
theorem spoil_even {t t' : T} (h : SpoilOf t t') : t.ids.Nodup → (∀ x ∈ T.idsL t.kids, 2 ≤ x ∧ x < 20) → t.id < 500 → t'.Even := by
  induction h with
  | @kid id kind text kids i hi t' hs ih =>
    intro hn hr2 _
    have hids := spoil_ids hs
    simp only [T.ids, List.nodup_cons] at hn
    have hg := idsL_get kids i hi hn.2
    have hr3 : ∀ x ∈ T.idsL kids, 2 ≤ x ∧ x < 20 := hr2
    have he := ih hg.1 (fun x h => hr3 x (hg.2 x (kids_ids h))) (by have := hr3 _ (hg.2 _ (id_ids kids[i])); omega)
    refine even_mk fun x s n hne => ?_
    have key : ∀ (ks : List T) (j : Nat) (hj : j < ks.length), (T.idsL ks).Nodup → (∀ y ∈ t'.ids, y ∈ ks[j].ids ∨ Spec y) → t'.Even → (∀ y ∈ T.idsL ks, y = x → ¬ Spec x ∨ x ∉ t'.ids ∨ y ∈ ks[j].ids) →
        fL (ks.set j t') x = some s → n ≤ s.kids.length → T.PutOkL x n (ks.set j t') := by
      intro ks
      induction ks with
      | nil => intro j hj; simp at hj
      | cons k ks ihk =>
        intro j hj hkn hh he hs1 h1 h2
        simp only [T.idsL, List.nodup_append] at hkn
        cases j with
        | zero =>
          simp only [List.set_cons_zero, fL] at h1 ⊢
          simp only [List.getElem_cons_zero] at hh hs1
          cases h3 : fT t' x with
          | some s' =>
            rw [h3] at h1
            cases h1
            have hx : x ∈ t'.ids := Decidable.byContradiction fun hc => by rw [(fT_none t' x).2 hc] at h3; cases h3
            refine ⟨he x s n h3 h2, putOkL_none x n ks fun hks => ?_⟩
            rcases hh x hx with h | h
            · exact hkn.2.2 x h x hks rfl
            · rcases hs1 x (by simp [T.idsL, hks]) rfl with h4 | h4 | h4
              · exact h4 h
              · exact h4 hx
              · exact hkn.2.2 x h4 x hks rfl
          | none =>
            rw [h3] at h1
            exact ⟨putOk_none x n t' ((fT_none t' x).1 h3), evenL_nodup hkn.2.1 x s n h1 h2⟩
        | succ j =>
          simp only [List.set_cons_succ, fL] at h1 ⊢
          simp only [List.getElem_cons_succ] at hh hs1
          have hj' : j < ks.length := by simpa using hj
          have hkj : ∀ y ∈ ks[j].ids, y ∈ T.idsL ks := by
            intro y hy
            have : ∀ (l : List T) (i : Nat) (hi : i < l.length), y ∈ l[i].ids → y ∈ T.idsL l := by
              intro l
              induction l with
              | nil => intro i hi; simp at hi
              | cons a l ihl =>
                intro i hi h
                simp only [T.idsL, List.mem_append]
                cases i with
                | zero => exact .inl h
                | succ i => exact .inr (ihl i (by simpa using hi) h)
            exact this ks j hj' hy
          cases h3 : fT k x with
          | some s' =>
            rw [h3] at h1
            cases h1
            have hx : x ∈ k.ids := Decidable.byContradiction fun hc => by rw [(fT_none k x).2 hc] at h3; cases h3
            refine ⟨putOk_found x n k s hkn.1 h3 h2, putOkL_none x n _ fun hks => ?_⟩
            have hxk : x ∉ T.idsL ks := fun h => hkn.2.2 x hx x h rfl
            have hmem : x ∈ t'.ids ∨ x ∈ T.idsL ks := by
              have : ∀ (l : List T) (i : Nat), x ∈ T.idsL (l.set i t') → x ∈ t'.ids ∨ x ∈ T.idsL l := by
                intro l
                induction l with
                | nil => intro i h; simp [T.idsL] at h
                | cons a l ihl =>
                  intro i h
                  cases i with
                  | zero =>
                    simp only [List.set_cons_zero, T.idsL, List.mem_append] at h ⊢
                    exact h.imp _root_.id .inr
                  | succ i =>
                    simp only [List.set_cons_succ, T.idsL, List.mem_append] at h ⊢
                    rcases h with h | h
                    · exact .inr (.inl h)
                    · exact (ihl i h).imp _root_.id .inr
              exact this ks j hks
            rcases hmem with h | h
            · rcases hs1 x (by simp [T.idsL, hx]) rfl with h4 | h4 | h4
              · rcases hh x h with h5 | h5
                · exact hxk (hkj x h5)
                · exact h4 h5
              · exact h4 h
              · exact hxk (hkj x h4)
            · exact hxk h
          | none =>
            rw [h3] at h1
            exact ⟨putOk_none x n k ((fT_none k x).1 h3), ihk j hj' hkn.2.1 hh he (fun y hy => hs1 y (by simp [T.idsL, hy])) h1 h2⟩
    exact fun h1 h2 => key kids i hi hn.2 hids he (fun y hy e => .inl (by subst e; unfold Spec; have := hr3 y hy; omega)) h1 h2
  | @id id kind text kids z hz =>
    intro hn _ _
    simp only [T.ids, List.nodup_cons] at hn
    exact even_mk fun x s n _ h1 h2 => evenL_nodup hn.2 x s n h1 h2
  | @word id kind text kids k' x' =>
    intro hn _ _
    simp only [T.ids, List.nodup_cons] at hn
    exact even_mk fun x s n _ h1 h2 => evenL_nodup hn.2 x s n h1 h2
  | @twice id kind text kids =>
    intro hn _ _
    simp only [T.ids, List.nodup_cons] at hn
    refine even_mk fun x s n hne h1 h2 => ?_
    rw [fL_append] at h1
    cases h3 : fL kids x with
    | some s' =>
      rw [h3] at h1
      cases h1
      have := evenL_nodup hn.2 x s n h3 h2
      refine putOkL_append this ⟨?_, trivial⟩
      simp only [T.PutOk]
      rw [if_neg (Ne.symm hne)]
      exact this
    | none =>
      rw [h3] at h1
      have hx := (fL_none kids x).1 h3
      simp only [fL, fT, if_neg (Ne.symm hne), h3] at h1
      cases h1
  | @deep t =>
    intro hn hr h5
    refine deep_even t (even_nodup hn) (fun x h => ?_) 6
    cases t with
    | mk id kind text kids =>
    simp only [T.ids, List.mem_cons] at h
    rcases h with rfl | h
    · exact h5
    · have := hr x h; omega
  | @wide id kind text kids =>
    intro hn hr _
    simp only [T.ids, List.nodup_cons] at hn
    refine even_mk fun x s n hne h1 h2 => ?_
    rw [fL_append] at h1
    cases h3 : fL kids x with
    | some s' =>
      rw [h3] at h1
      cases h1
      have hx : x ∈ T.idsL kids := Decidable.byContradiction fun hc => by rw [(fL_none kids x).2 hc] at h3; cases h3
      refine putOkL_append (evenL_nodup hn.2 x s n h3 h2) (putOkL_none x n _ fun h => ?_)
      have := wide_ids 20 x h
      have := hr x hx
      omega
    | none =>
      rw [h3] at h1
      have h4 := wide_kids 20 x s h1
      rw [h4] at h2
      exact putOkL_append (putOkL_none x n kids ((fL_none kids x).1 h3)) (wide_put x 20 n h2)
theorem drawn_even {t : T} (h : Drawn t) : t.Even := by
  obtain ⟨t0, h1, h2, h3, _, rfl | h4⟩ := h
  · exact even_nodup h1
  · refine spoil_even h4 h1 (fun x hx => ?_) (by omega)
    have h5 := h2 x (kids_ids hx)
    have : x ≠ 1 := fun e => by
      cases t0 with
      | mk id kind text kids =>
      simp only [T.ids, List.nodup_cons] at h1
      have h3 : id = 1 := h3
      exact h1.1 (by rw [h3, ← e]; exact hx)
    omega
theorem nodup_len : ∀ (n : Nat) (l : List Int) (lo : Int), l.Nodup → (∀ i ∈ l, lo ≤ i ∧ i < lo + n) → l.length ≤ n
  | 0, l, lo, _, h => by
    cases l with
    | nil => simp
    | cons a l => have := h a (List.mem_cons_self ..); omega
  | n + 1, l, lo, hn, h => by
    have := nodup_len n (l.erase (lo + n)) lo (hn.erase _) fun i hi => by
      obtain ⟨h1, h2⟩ := hn.mem_erase_iff.1 hi
      have := h i h2
      omega
    rw [List.length_erase] at this
    split at this <;> omega
theorem drawn_size {t : T} (h : Drawn t) : t.size ≤ 60 := by
  obtain ⟨t0, h1, h2, h3, h4, _⟩ := h
  have := nodup_len 19 t0.ids 1 h1 fun i hi => by have := h2 i hi; omega
  rw [T.ids_size] at this
  omega
end Go.Cod

namespace Go.Cod
open Go Go.Proofs
set_option maxRecDepth 10000

set_option maxHeartbeats 4000000 in
theorem l4Do_even (t : T) (s : Stp) (ht : t.Small) (hz : t.size ≤ 10000) (hn : t.Even) (hs : s.node.Small) (hsz : s.node.size ≤ 1048577) (htx : s.text.length ≤ 1048576) :
    Pure Tryd.prog 33 [.agg t.cells, .agg s.cells] (· = doR t (doT t s)) := by
  have f1 := l2Find_pure t ht s.id
  have f2 := l4Bare_pure s
  have f3 := specTreeOk_pure s.node hs (by rw [T.ids_size]; exact hsz)
  have f4 : ∀ x : T, fT t s.id = some x → s.at_.toNat ≤ x.kids.length → Pure Tryd.prog 55 [.agg t.cells, .int .i64 s.id, .int .i64 s.at_.toNat, .agg s.node.cells] (· = .agg (t.mapAt s.id (putKidT s.at_.toNat s.node)).cells) := fun x h1 h2 => l4Put_pure t ht s.id s.at_.toNat s.node (hn s.id x s.at_.toNat h1 h2)
  have f5 := l4Cut_pure t ht s.id
  have f6 := l4Set_pure t ht s.id
  have f7 : ∀ y : T, y.Small → y.size ≤ 1048577 → Pure Tryd.prog 9 [.agg y.cells] (· = .bool (okT y)) := fun y h1 h2 => specTreeOk_pure y h1 (by rw [T.ids_size]; exact h2)
  have z1 : ∀ x, okT s.node = true → (t.mapAt s.id (putKidT x s.node)).Small ∧ (t.mapAt s.id (putKidT x s.node)).size ≤ 1048577 := fun x h => by
    have hk := okT_size h
    refine ⟨T.mapAt_small _ _ 1000000 (fun y h1 _ h2 => putKidT_small x s.node y h1 hs h2) t ht (by omega), ?_⟩
    have := T.mapAt_size s.id (putKidT x s.node) 20 (fun y => by rw [putKidT_size]; omega) t
    omega
  have z2 := T.cut_small s.id t ht
  have z3 : ∀ k w : List UInt8, k.length ≤ 1048576 → w.length ≤ 1048576 → (t.mapAt s.id (setT k w)).Small ∧ (t.mapAt s.id (setT k w)).size ≤ 1048577 := fun k w h1 h2 => by
    refine ⟨T.mapAt_small _ _ 1000000 (fun y h _ _ => setT_small k w y h h1 h2) t ht (by omega), ?_⟩
    have := T.mapAt_size s.id (setT k w) 0 (fun y => by rw [setT_size]; omega) t
    omega
  have hsm := fun x => fT_small t s.id ht x
  have hed : editT t s = match fT t s.id with
    | none => none
    | some x => if bareT s = false then none else
      if s.kind = 1 then (if 0 ≤ s.at_ ∧ s.at_ ≤ x.kids.length ∧ okT s.node = true then some (t.mapAt s.id (putKidT s.at_.toNat s.node)) else none)
      else if s.kind = 2 then (if s.id = t.id then none else some (t.cut s.id))
      else if s.kind = 3 then some (t.mapAt s.id (setT x.kind s.text))
      else if s.kind = 4 then some (t.mapAt s.id (setT s.text x.text))
      else none := rfl
  have d0 : editT t s = none → doT t s = none := doT_none
  have d1 : ∀ y, editT t s = some y → doT t s = okO y := fun y => doT_some
  generalize doT t s = d at *
  generalize editT t s = e at *
  generalize fT t s.id = f at *
  generalize bareT s = b at *
  cases s with
  | mk kind sid at_ node text =>
  simp only at f1 f3 f4 f5 f6 z1 z2 z3 hed hs hsz htx hsm
  generalize T.cut sid t = tc at *
  generalize hset : (fun k w => T.mapAt sid (setT k w) t) = ts at *
  have hset : ∀ k w, T.mapAt sid (setT k w) t = ts k w := fun k w => by rw [← hset]
  simp only [hset] at f6 z3 hed
  generalize hput : T.mapAt sid (putKidT at_.toNat node) t = tp at *
  have zp : okT node = true → tp.Small ∧ tp.size ≤ 1048577 := fun h => hput ▸ z1 at_.toNat h
  clear hset hput z1
  generalize okT node = okn at *
  have hend : ∀ y : T, e = some y → y.Small → y.size ≤ 1048577 → Pure Tryd.prog 9 [.agg y.cells] (· = .bool (okT y)) ∧ d = okO y := fun y h1 h2 h3 => ⟨f7 y h2 h3, d1 y h1⟩
  clear f7 d1
  have hok : ∀ y : T, e = some y → d = okO y → doR t d = if okT y = true then .tup [.agg y.cells, .bool true] else .tup [.agg t.cells, .bool false] := fun y _ h => by
    rw [h]; unfold okO
    split <;> rfl
  simp only [Stp.cells] at f2 ⊢
  have hbig : ∀ y : T, y.Small → y.size ≤ 1048577 → e = some y → d = okO y ∧ Pure Tryd.prog 9 [.agg y.cells] (· = .bool (okT y)) := fun y h1 h2 h3 => ⟨(hend y h3 h1 h2).2, (hend y h3 h1 h2).1⟩
  clear hend
  cases t with
  | mk tid tk tx tks =>
  cases node with
  | mk nid nk nx nks =>
  refine pure_of_awp good Tryd.func33 rfl (by kernel_rfl) (by decide) ?_
  conv => whnf
  refine .inl (f1.mono ?_)
  rintro r rfl
  cases f with
  | none =>
    conv => whnf
    rw [d0 hed]
    rfl
  | some x =>
    cases x with
    | mk xid xk xx xks =>
    conv => whnf
    refine .inl (f2.mono ?_)
    rintro r rfl
    cases b with
    | false =>
      conv => whnf
      rw [d0 hed]
      rfl
    | true =>
      simp only [Bool.true_eq_false, if_false] at hed
      conv => whnf
      by_cases k1 : kind = 1
      · rw [if_pos k1] at hed
        rw [eqB_t k1]
        conv => whnf
        refine .inl ((l1In_pure _ _ _).mono ?_)
        rintro r rfl
        by_cases hr : 0 ≤ at_ ∧ at_ ≤ (xks.length : Int)
        · rw [show (decide ((0 : Int) ≤ at_ ∧ at_ ≤ ((T.rows xks).length : Int))) = true by rw [Go.Cod.rows_len]; simpa using hr]
          conv => whnf
          refine .inl (f3.mono ?_)
          rintro r rfl
          cases okn with
          | false =>
            conv => whnf
            rw [d0 (by rw [hed, if_neg (by simp)])]
            rfl
          | true =>
            obtain ⟨n, rfl⟩ : ∃ n : Nat, at_ = n := ⟨at_.toNat, by omega⟩
            have hed : e = some tp := by rw [hed]; exact if_pos ⟨hr.1, hr.2, rfl⟩
            have f4 := f4 _ rfl (by simp only [T.kids]; omega)
            obtain ⟨q1, q2⟩ := zp rfl
            obtain ⟨q3, q4⟩ := hbig tp q1 q2 hed
            have hok := hok tp hed q3
            generalize okT tp = okp at *
            cases tp with
            | mk pid pk px pks =>
            conv => whnf
            refine .inl (f4.mono ?_)
            rintro r rfl
            conv => whnf
            refine .inl (q4.mono ?_)
            rintro r rfl
            rw [hok]
            cases okp <;> (conv => whnf) <;> rfl
        · rw [show (decide ((0 : Int) ≤ at_ ∧ at_ ≤ ((T.rows xks).length : Int))) = false by rw [Go.Cod.rows_len]; simpa using hr]
          conv => whnf
          rw [d0 (by rw [hed]; exact if_neg (fun h => hr ⟨h.1, h.2.1⟩))]
          rfl
      rw [if_neg k1] at hed
      rw [eqB_f k1]
      conv => whnf
      by_cases k2 : kind = 2
      · rw [if_pos k2] at hed
        rw [eqB_t k2]
        conv => whnf
        by_cases hi : sid = tid
        · rw [eqB_t hi]
          conv => whnf
          rw [d0 (by rw [hed]; exact if_pos hi)]
          rfl
        · rw [eqB_f hi]
          have hed : e = some tc := by rw [hed]; exact if_neg hi
          obtain ⟨q3, q4⟩ := hbig tc z2.1 (by have := z2.2; simp only [T.size] at this hz ⊢; omega) hed
          have hok := hok tc hed q3
          generalize okT tc = okp at *
          cases tc with
          | mk pid pk px pks =>
          conv => whnf
          refine .inl (f5.mono ?_)
          rintro r rfl
          conv => whnf
          refine .inl (q4.mono ?_)
          rintro r rfl
          rw [hok]
          cases okp <;> (conv => whnf) <;> rfl
      rw [if_neg k2] at hed
      rw [eqB_f k2]
      conv => whnf
      have hx := hsm _ rfl
      have hxk : xk.length ≤ 1048576 ∧ xx.length ≤ 1048576 := by
        cases hx with
        | mk g1 g2 g3 g4 g5 => exact ⟨g2, g3⟩
      by_cases k3 : kind = 3
      · rw [if_pos k3] at hed
        rw [eqB_t k3]
        have f6 := f6 xk text
        obtain ⟨q1, q2⟩ := z3 xk text hxk.1 htx
        have hed : e = some (ts xk text) := hed
        obtain ⟨q3, q4⟩ := hbig _ q1 q2 hed
        have hok := hok _ hed q3
        generalize ts xk text = tp at *
        generalize okT tp = okp at *
        cases tp with
        | mk pid pk px pks =>
        conv => whnf
        refine .inl (f6.mono ?_)
        rintro r rfl
        conv => whnf
        refine .inl (q4.mono ?_)
        rintro r rfl
        rw [hok]
        cases okp <;> (conv => whnf) <;> rfl
      rw [if_neg k3] at hed
      rw [eqB_f k3]
      conv => whnf
      by_cases k4 : kind = 4
      · rw [if_pos k4] at hed
        rw [eqB_t k4]
        have f6 := f6 text xx
        obtain ⟨q1, q2⟩ := z3 text xx htx hxk.2
        have hed : e = some (ts text xx) := hed
        obtain ⟨q3, q4⟩ := hbig _ q1 q2 hed
        have hok := hok _ hed q3
        generalize ts text xx = tp at *
        generalize okT tp = okp at *
        cases tp with
        | mk pid pk px pks =>
        conv => whnf
        refine .inl (f6.mono ?_)
        rintro r rfl
        conv => whnf
        refine .inl (q4.mono ?_)
        rintro r rfl
        rw [hok]
        cases okp <;> (conv => whnf) <;> rfl
      rw [if_neg k4] at hed
      rw [eqB_f k4]
      conv => whnf
      rw [d0 hed]
      rfl
end Go.Cod

namespace Go.Cod
open Go Go.Proofs Go.ChangeShapes Go.WideShapes Go.ChangeAt Go.RowKit
set_option maxRecDepth 10000

/-- A tree that steps may be tried on. -/
def T.Tried (x : T) : Prop := x.Small ∧ x.size ≤ 60 ∧ x.Even
theorem tried_do {x y : T} {s : Stp} (h : x.Tried) (hs : s.Dr) (hd : doT x s = some y) : y.Tried := by
  obtain ⟨h1, h2⟩ := doT_ok hd
  have := okT_size h2
  exact ⟨editT_small h.1 (by have := h.2.1; omega) hs.1 (by have := hs.2.2; omega) h1, by omega, even_nodup ((okT_iff' y).1 h2).2.1⟩

end Go.Cod

namespace Go.Cod
open Go Go.Proofs
set_option maxRecDepth 10000

mutual
def LT.fresh : LT → Int → LT
  | .mk _ kind text h kids, k => .mk k kind text h (LT.freshL kids (k + 1))
def LT.freshL : List LT → Int → List LT
  | [], _ => []
  | l :: ls, k => l.fresh k :: LT.freshL ls (k + l.size)
end
mutual
def T.fresh : T → Int → T
  | .mk _ kind text kids, k => .mk k kind text (T.freshL kids (k + 1))
def T.freshL : List T → Int → List T
  | [], _ => []
  | t :: ts, k => t.fresh k :: T.freshL ts (k + t.size)
end
theorem LT.freshL_len : ∀ (ls : List LT) (k : Int), (LT.freshL ls k).length = ls.length
  | [], _ => rfl
  | l :: ls, k => by simp [LT.freshL, LT.freshL_len ls]
theorem LT.freshL_append : ∀ (a b : List LT) (k : Int), LT.freshL (a ++ b) k = LT.freshL a k ++ LT.freshL b (k + LT.sizeL a)
  | [], b, k => by simp [LT.freshL, LT.sizeL]
  | l :: a, b, k => by
    simp only [List.cons_append, LT.freshL, LT.freshL_append a b, LT.sizeL]
    congr 3
    push_cast; omega
mutual
theorem LT.labs_fresh : ∀ (l : LT) (k : Int), (l.fresh k).labs = l.labs
  | .mk _ _ _ h kids, k => by simp only [LT.fresh, LT.labs, LT.labsL_fresh kids]
theorem LT.labsL_fresh : ∀ (ls : List LT) (k : Int), LT.labsL (LT.freshL ls k) = LT.labsL ls
  | [], _ => rfl
  | l :: ls, k => by simp only [LT.freshL, LT.labsL, LT.labs_fresh l, LT.labsL_fresh ls]
end
mutual
theorem LT.wf_fresh : ∀ (l : LT) (k : Int), l.Wf → (l.fresh k).Wf
  | .mk _ _ _ h kids, k, hw => by
    simp only [LT.fresh, LT.Wf] at hw ⊢
    refine ⟨fun e => by rw [hw.1 e]; rfl, LT.wfL_fresh kids _ hw.2⟩
theorem LT.wfL_fresh : ∀ (ls : List LT) (k : Int), LT.WfL ls → LT.WfL (LT.freshL ls k)
  | [], _, _ => trivial
  | l :: ls, k, hw => by
    simp only [LT.freshL, LT.WfL] at hw ⊢
    exact ⟨LT.wf_fresh l k hw.1, LT.wfL_fresh ls _ hw.2⟩
end
mutual
theorem LT.erase_fresh : ∀ (l : LT) (k : Int), (l.fresh k).erase = l.erase.fresh k
  | .mk _ _ _ _ kids, k => by simp only [LT.erase, LT.fresh, T.fresh, LT.eraseL_fresh kids]
theorem LT.eraseL_fresh : ∀ (ls : List LT) (k : Int), LT.eraseL (LT.freshL ls k) = T.freshL (LT.eraseL ls) k
  | [], _ => rfl
  | l :: ls, k => by simp only [LT.eraseL, LT.freshL, T.freshL, LT.erase_fresh l, LT.eraseL_fresh ls, LT.size_erase]
end
theorem LT.freshL_take (ls : List LT) (i : Nat) (h : i < ls.length) (k : Int) : LT.freshL (ls.take (i + 1)) k = LT.freshL (ls.take i) k ++ [ls[i].fresh (k + LT.sizeL (ls.take i))] := by
  rw [List.take_succ_eq_append_getElem h, LT.freshL_append]; rfl
def mixF (ls : List LT) (k : Int) (i : Nat) : List LT := LT.freshL (ls.take i) k ++ ls.drop i
theorem mixF_get (ls : List LT) (k : Int) (i : Nat) (h : i < ls.length) : (LT.rows (mixF ls k i))[i]? = some ls[i].cells := by
  unfold LT.rows mixF
  rw [List.map_append, List.getElem?_append_right (by simp [LT.freshL_len]; omega)]
  simp [LT.freshL_len, Nat.min_eq_left (Nat.le_of_lt h), h]
theorem mixF_set (ls : List LT) (k : Int) (i : Nat) (h : i < ls.length) : (LT.rows (mixF ls k i)).set i (ls[i].fresh (k + LT.sizeL (ls.take i))).cells = LT.rows (mixF ls k (i + 1)) := by
  unfold LT.rows mixF
  have hl : ((LT.freshL (ls.take i) k).map LT.cells).length = i := by simp [LT.freshL_len]; omega
  rw [List.map_append, List.set_append_right _ _ (by omega), hl, Nat.sub_self, List.drop_eq_getElem_cons h, List.map_cons, List.set_cons_zero, LT.freshL_take ls i h k]
  simp

def NumR (b c i : Nat) (rows : List (List V)) (l : LT) (k : Int) (es : List (List V)) (o : Out) (st' : St) : Prop :=
  ∃ es', o = .ret (.int .i64 (k + l.size)) ∧ st' = [poolO es'] ∧ ent b c 4 (rows.set i (l.fresh k).cells) ∈ es' ∧ (∀ e ∈ (l.fresh k).ents, e ∈ es') ∧ ∀ e ∈ es, labOf e ≠ b → labOf e ∉ l.ents.map labOf → e ∈ es'
/-- A thing in a pool, numbered. -/
def NumC (l : LT) : Prop := ∀ (b c i : Nat) (rows es : List (List V)) (k : Int), 0 ≤ k → k + l.size ≤ 1152921504606846976 → l.Wf → ent b c 4 rows ∈ es → rows[i]? = some l.cells → (∀ e ∈ l.ents, e ∈ es) → (l.ents.map labOf).Nodup → b ∉ l.ents.map labOf →
  Full Tryd.prog noY 19 [.dptr b 4 i 0, .int .i64 k] [poolO es] (NumR b c i rows l k es)

/-- What a round of numbering leaves. -/
structure NumI (b' c' : Nat) (kids : List LT) (k : Int) (es0 : List (List V)) (j : Nat) (es : List (List V)) : Prop where
  root : ent b' c' 4 (LT.rows (mixF kids k j)) ∈ es
  done : ∀ e ∈ LT.entsL (LT.freshL (kids.take j) k), e ∈ es
  rest : ∀ e ∈ LT.entsL (kids.drop j), e ∈ es
  other : ∀ e ∈ es0, labOf e ∉ (LT.entsL kids ++ [ent b' c' 4 (LT.rows kids)]).map labOf → e ∈ es

theorem NumI.next {b' c' : Nat} {kids : List LT} {k : Int} {es0 es es4 : List (List V)} {j : Nat} (I : NumI b' c' kids k es0 j es) (hlt : j < kids.length)
    (hn : ((LT.entsL kids ++ [ent b' c' 4 (LT.rows kids)]).map labOf).Nodup) (q0 : ent b' c' 4 ((LT.rows (mixF kids k j)).set j (kids[j].fresh (k + LT.sizeL (kids.take j))).cells) ∈ es4)
    (q1 : ∀ e ∈ (kids[j].fresh (k + LT.sizeL (kids.take j))).ents, e ∈ es4) (q2 : ∀ e ∈ es, labOf e ≠ b' → labOf e ∉ kids[j].ents.map labOf → e ∈ es4) : NumI b' c' kids k es0 (j + 1) es4 := by
  have hsplit : LT.entsL kids = LT.entsL (kids.take j) ++ (kids[j].ents ++ LT.entsL (kids.drop (j + 1))) := by
    rw [← LT.entsL_take kids j hlt, ← LT.entsL_append, List.take_append_drop]
  have hmem : ∀ e, e ∈ kids[j].ents → e ∈ LT.entsL kids := fun e he => by rw [hsplit]; simp [he]
  rw [List.map_append, List.nodup_append] at hn
  obtain ⟨n1, _, n3⟩ := hn
  have hb : ∀ e ∈ LT.entsL kids, labOf e ≠ b' := fun e he hb => n3 _ (List.mem_map_of_mem he) b' (by simp [ent, labOf]) hb
  have hlab : ∀ e ∈ LT.entsL (LT.freshL (kids.take j) k), ∃ e0 ∈ LT.entsL (kids.take j), labOf e0 = labOf e := fun e he => by
    have : labOf e ∈ (LT.entsL (kids.take j)).map labOf := by
      rw [LT.labsL_ents, ← LT.labsL_fresh (kids.take j) k, ← LT.labsL_ents]; exact List.mem_map_of_mem he
    exact List.mem_map.1 this
  rw [hsplit] at n1
  simp only [List.map_append, List.nodup_append] at n1
  refine ⟨by rw [mixF_set kids k j hlt] at q0; exact q0, fun e he => ?_, fun e he => ?_, fun e he hno => ?_⟩
  · rw [LT.freshL_take kids j hlt, LT.entsL_append] at he
    rcases List.mem_append.1 he with he | he
    · obtain ⟨e0, h1, h2⟩ := hlab e he
      refine q2 e (I.done e he) ?_ fun hm => ?_
      · rw [← h2]; exact hb e0 (by rw [hsplit]; simp [h1])
      · exact n1.2.2 _ (List.mem_map_of_mem h1) _ (List.mem_append_left _ hm) h2
    · exact q1 e (by simpa [LT.entsL] using he)
  · refine q2 e (I.rest e (by rw [LT.entsL_take kids j hlt]; exact List.mem_append_right _ he)) (hb e (by rw [hsplit]; simp [he])) fun hm => ?_
    exact n1.2.1.2.2 _ hm _ (List.mem_map_of_mem he) rfl
  · refine q2 e (I.other e he hno) (fun h => hno ?_) (fun hm => hno ?_)
    · rw [h]; simp [ent, labOf]
    · obtain ⟨e0, h1, h2⟩ := List.mem_map.1 hm
      rw [← h2]; exact List.mem_map_of_mem (List.mem_append_left _ (hmem e0 h1))

theorem treeNumber_in (l : LT) (hT : ∀ x ∈ l.kids, NumC x) : NumC l := by
  intro b c i rows es k h0 h1 hw hroot hget hin hnd hb
  cases l with
  | mk id kind text h kids =>
  simp only [LT.kids] at hT
  simp only [LT.size] at h1
  simp only [LT.cells] at hget
  simp only [LT.Wf] at hw
  simp only [LT.ents] at hin hnd hb
  have w1 : IntKind.i64.wrap (k + 1) = k + 1 := wrap64 (by omega) (by omega)
  refine full_of_awp good Tryd.func19 rfl (by kernel_rfl) (by decide) ?_
  conv => whnf
  obtain ⟨es1, hes1⟩ : ∃ x, x = putEnt b (rows.set i [.int .i64 k, .str kind, .str text, hdV h kids.length]) es := ⟨_, rfl⟩
  refine ⟨0, c, rows, [.int .i64 id, .str kind, .str text, hdV h kids.length], es1, hroot, hget, hes1, ?_⟩
  have hA1 : ent b c 4 _ ∈ es1 := hes1 ▸ putEnt_mem hroot
  have hk1 : ∀ e ∈ es, labOf e ≠ b → e ∈ es1 := fun e he hb => hes1 ▸ putEnt_other he hb
  have hg1 := set_get hget [.int .i64 k, .str kind, .str text, hdV h kids.length]
  clear hes1
  have hin1 : ∀ e ∈ LT.entsL kids ++ rootE h kids, e ∈ es1 := fun e he => hk1 e (hin e he) fun hh => hb (hh ▸ List.mem_map_of_mem he)
  conv => whnf
  rw [w1]
  refine ⟨0, c, _, [.int .i64 k, .str kind, .str text, hdV h kids.length], hA1, hg1, ?_⟩
  rcases h with _ | ⟨b', c'⟩
  · have hk0 := hw.1 rfl
    subst hk0
    conv => whnf
    refine loop_intro (fun n fr st => st = [poolO es1] ∧ Holds fr [(1, .int .i64 (k + 1)), (16, .int .i64 0), (17, .int .i64 0)]) 0 ⟨rfl, rfl, rfl, rfl, trivial⟩ ?_
    rintro n fr st ⟨rfl, hh⟩
    obtain ⟨fr, rfl⟩ := hh.split
    clear hh
    conv => whnf
    rw [ltB_f (by simp)]
    conv => whnf
    refine ⟨[], true, ?_⟩
    conv => whnf
    exact ⟨es1, by simp [LT.size, LT.sizeL], rfl, hA1, by simp [LT.fresh, LT.freshL, LT.ents, LT.entsL, rootE], fun e he h2 _ => hk1 e he h2⟩
  · conv => whnf
    have hsz := LT.sizeL_le kids
    have hlen := LT.len_sizeL kids
    have hbb : b ≠ b' := fun e => hb (by rw [e]; simp [rootE, ent, labOf])
    have hI0 : NumI b' c' kids (k + 1) es1 0 es1 := ⟨by simpa [mixF, LT.freshL] using hin1 _ (List.mem_append_right _ (by simp [rootE])), by simp [LT.freshL, LT.entsL], fun e he => hin1 e (List.mem_append_left _ (by simpa using he)), fun e he _ => he⟩
    have hnd' : ((LT.entsL kids ++ [ent b' c' 4 (LT.rows kids)]).map labOf).Nodup := by simpa only [rootE] using hnd
    refine loop_drop (fun n fr st => ∃ (j : Nat) (es' : List (List V)), n + j = kids.length ∧ st = [poolO es'] ∧ Holds fr [(0, .dptr b 4 i 0), (1, .int .i64 (k + 1 + LT.sizeL (kids.take j))), (16, .int .i64 kids.length), (17, .int .i64 j)] ∧
        ent b c 4 (rows.set i [.int .i64 k, .str kind, .str text, .dref b' kids.length c']) ∈ es' ∧ NumI b' c' kids (k + 1) es1 j es') kids.length none
      ⟨0, es1, by omega, rfl, ⟨rfl, by simp [LT.sizeL]; rfl, rfl, rfl, trivial⟩, hA1, hI0⟩ ?_
    rintro n fr st ⟨j, es', hj, rfl, hh, hR, hI⟩
    obtain ⟨fr, rfl⟩ := hh.split
    clear hh
    conv => whnf
    by_cases hlt : j < kids.length
    · rw [ltB_t (by omega)]
      conv => whnf
      refine ⟨0, c, _, [.int .i64 k, .str kind, .str text, .dref b' kids.length c'], hR, hg1, ?_⟩
      conv => whnf
      refine ⟨by omega, by omega, ?_⟩
      conv => whnf
      have hg := mixF_get kids (k + 1) j hlt
      have hst := LT.sizeL_take kids j hlt
      have hs1 := hsz (j + 1)
      have hnext := fun es4 => NumI.next (es4 := es4) hI hlt hnd'
      have hsplit : LT.entsL kids = LT.entsL (kids.take j) ++ (kids[j].ents ++ LT.entsL (kids.drop (j + 1))) := by
        rw [← LT.entsL_take kids j hlt, ← LT.entsL_append, List.take_append_drop]
      have hmem : ∀ e, e ∈ kids[j].ents → e ∈ LT.entsL kids := fun e he => by rw [hsplit]; simp [he]
      have hndk : (kids[j].ents.map labOf).Nodup := by
        rw [List.map_append, List.nodup_append, hsplit, List.map_append, List.map_append, List.nodup_append, List.nodup_append] at hnd'
        exact hnd'.1.2.1.1
      have hbk : b' ∉ kids[j].ents.map labOf := fun hm => by
        obtain ⟨e, he, hl⟩ := List.mem_map.1 hm
        rw [List.map_append, List.nodup_append] at hnd'
        exact hnd'.2.2 _ (List.mem_map_of_mem (hmem e he)) b' (by simp [ent, labOf]) hl
      have hbo : b ∉ kids[j].ents.map labOf := fun hm => by
        obtain ⟨e, he, hl⟩ := List.mem_map.1 hm
        exact hb (by rw [← hl, List.map_append]; exact List.mem_append_left _ (List.mem_map_of_mem (hmem e he)))
      have hc := hT kids[j] (List.getElem_mem _) b' c' j _ es' (k + 1 + LT.sizeL (kids.take j)) (by omega) (by rw [hst] at hs1; omega) ((LT.WfL_iff kids).1 hw.2 _ (List.getElem_mem _)) hI.root hg (fun e he => hI.rest e (by rw [LT.entsL_take kids j hlt]; exact List.mem_append_left _ he)) hndk hbk
      refine .inr (.inl ⟨[0], true, ?_⟩)
      conv => whnf
      refine hc.mono ?_
      rintro o st' ⟨es4, rfl, rfl, q0, q1, q2⟩
      have hI4 := hnext es4 q0 q1 q2
      have hR4 := q2 _ hR hbb hbo
      conv => whnf
      refine ⟨n - 1, by omega, none, j + 1, es4, by omega, rfl, ⟨rfl, ?_, rfl, ?_, trivial⟩, hR4, hI4⟩
      · show V.int .i64 _ = V.int .i64 _
        congr 1
        rw [hst]; push_cast; omega
      · show V.int .i64 (IntKind.i64.wrap (j + 1)) = _
        rw [wrap64 (by omega) (by omega)]; simp
    · rw [ltB_f (by omega)]
      conv => whnf
      have hjl : j = kids.length := by omega
      subst hjl
      refine ⟨[], true, ?_⟩
      conv => whnf
      refine ⟨es', ?_, rfl, ?_, ?_, ?_⟩
      · rw [List.take_length]; simp only [LT.size]; push_cast; congr 2; omega
      · simp only [LT.fresh, LT.cells, hdV, LT.freshL_len]; exact hR
      · intro e he
        simp only [LT.fresh, LT.ents, rootE, List.mem_append, List.mem_singleton] at he
        rcases he with he | he
        · exact hI.done e (by rw [List.take_length]; exact he)
        · subst he
          simpa [mixF] using hI.root
      · intro e he h2 h3
        refine hI.other e (hk1 e he h2) ?_
        simpa only [LT.ents, rootE] using h3
mutual
theorem treeNumber_all : ∀ l : LT, NumC l
  | .mk _ _ _ _ kids => treeNumber_in _ (treeNumber_allL kids)
theorem treeNumber_allL : ∀ ls : List LT, ∀ x ∈ ls, NumC x
  | [], x, hx => by simp at hx
  | l :: ls, x, hx => by
    have h0 := treeNumber_all l
    rcases List.mem_cons.1 hx with hx | hx
    · rw [hx]; exact h0
    · exact treeNumber_allL ls x hx
end
end Go.Cod

namespace Go.Cod
open Go Go.Proofs
set_option maxRecDepth 10000

/-- The outermost, in a box, numbered. -/
theorem treeNumber_root (l : LT) (es : List (List V)) (k : Int) (h0 : 0 ≤ k) (h1 : k + l.size ≤ 1152921504606846976) (hw : l.Wf) (hin : ∀ e ∈ l.ents, e ∈ es) (hnd : (l.ents.map labOf).Nodup) :
    Full Tryd.prog noY 19 [.ptr 0 0 0, .int .i64 k] [⟨[l.cells], 4, true, true, true, .cell⟩, poolO es] fun o st' => ∃ es', o = .ret (.int .i64 (k + l.size)) ∧ st' = [⟨[(l.fresh k).cells], 4, true, true, true, .cell⟩, poolO es'] ∧ ∀ e ∈ (l.fresh k).ents, e ∈ es' := by
  have hT := treeNumber_allL l.kids
  cases l with
  | mk id kind text h kids =>
  simp only [LT.kids] at hT
  simp only [LT.size] at h1
  simp only [LT.Wf] at hw
  simp only [LT.ents] at hin hnd
  have w1 : IntKind.i64.wrap (k + 1) = k + 1 := wrap64 (by omega) (by omega)
  refine full_of_awp good Tryd.func19 rfl (by kernel_rfl) (by decide) ?_
  rcases h with _ | ⟨b', c'⟩
  · have hk0 := hw.1 rfl
    subst hk0
    conv => whnf
    rw [w1]
    refine loop_intro (fun n fr st => st = [⟨[[.int .i64 k, .str kind, .str text, .nils]], 4, true, true, true, .cell⟩, poolO es] ∧ Holds fr [(1, .int .i64 (k + 1)), (16, .int .i64 0), (17, .int .i64 0)]) 0 ⟨rfl, rfl, rfl, rfl, trivial⟩ ?_
    rintro n fr st ⟨rfl, hh⟩
    obtain ⟨fr, rfl⟩ := hh.split
    clear hh
    conv => whnf
    rw [ltB_f (by simp)]
    conv => whnf
    refine ⟨[], true, ?_⟩
    conv => whnf
    exact ⟨es, by simp [LT.size, LT.sizeL], rfl, by simp [LT.fresh, LT.freshL, LT.ents, LT.entsL, rootE]⟩
  · conv => whnf
    rw [w1]
    have hsz := LT.sizeL_le kids
    have hlen := LT.len_sizeL kids
    have hI0 : NumI b' c' kids (k + 1) es 0 es := ⟨by simpa [mixF, LT.freshL] using hin _ (List.mem_append_right _ (by simp [rootE])), by simp [LT.freshL, LT.entsL], fun e he => hin e (List.mem_append_left _ (by simpa using he)), fun e he _ => he⟩
    have hnd' : ((LT.entsL kids ++ [ent b' c' 4 (LT.rows kids)]).map labOf).Nodup := by simpa only [rootE] using hnd
    refine loop_drop (fun n fr st => ∃ (j : Nat) (es' : List (List V)), n + j = kids.length ∧ st = [⟨[[.int .i64 k, .str kind, .str text, .dref b' kids.length c']], 4, true, true, true, .cell⟩, poolO es'] ∧ Holds fr [(0, .ptr 0 0 0), (1, .int .i64 (k + 1 + LT.sizeL (kids.take j))), (16, .int .i64 kids.length), (17, .int .i64 j)] ∧ NumI b' c' kids (k + 1) es j es') kids.length none
      ⟨0, es, by omega, rfl, ⟨rfl, by simp [LT.sizeL]; rfl, rfl, rfl, trivial⟩, hI0⟩ ?_
    rintro n fr st ⟨j, es', hj, rfl, hh, hI⟩
    obtain ⟨fr, rfl⟩ := hh.split
    clear hh
    conv => whnf
    by_cases hlt : j < kids.length
    · rw [ltB_t (by omega)]
      conv => whnf
      refine ⟨by omega, by omega, ?_⟩
      conv => whnf
      have hg := mixF_get kids (k + 1) j hlt
      have hst := LT.sizeL_take kids j hlt
      have hs1 := hsz (j + 1)
      have hnext := fun es4 => NumI.next (es4 := es4) hI hlt hnd'
      have hsplit : LT.entsL kids = LT.entsL (kids.take j) ++ (kids[j].ents ++ LT.entsL (kids.drop (j + 1))) := by
        rw [← LT.entsL_take kids j hlt, ← LT.entsL_append, List.take_append_drop]
      have hmem : ∀ e, e ∈ kids[j].ents → e ∈ LT.entsL kids := fun e he => by rw [hsplit]; simp [he]
      have hndk : (kids[j].ents.map labOf).Nodup := by
        rw [List.map_append, List.nodup_append, hsplit, List.map_append, List.map_append, List.nodup_append, List.nodup_append] at hnd'
        exact hnd'.1.2.1.1
      have hbk : b' ∉ kids[j].ents.map labOf := fun hm => by
        obtain ⟨e, he, hl⟩ := List.mem_map.1 hm
        rw [List.map_append, List.nodup_append] at hnd'
        exact hnd'.2.2 _ (List.mem_map_of_mem (hmem e he)) b' (by simp [ent, labOf]) hl
      have hc := hT kids[j] (List.getElem_mem _) b' c' j _ es' (k + 1 + LT.sizeL (kids.take j)) (by omega) (by rw [hst] at hs1; omega) ((LT.WfL_iff kids).1 hw.2 _ (List.getElem_mem _)) hI.root hg (fun e he => hI.rest e (by rw [LT.entsL_take kids j hlt]; exact List.mem_append_left _ he)) hndk hbk
      refine .inr (.inl ⟨[1], true, ?_⟩)
      conv => whnf
      refine hc.mono ?_
      rintro o st' ⟨es4, rfl, rfl, q0, q1, q2⟩
      have hI4 := hnext es4 q0 q1 q2
      conv => whnf
      refine ⟨n - 1, by omega, none, j + 1, es4, by omega, rfl, ⟨rfl, ?_, rfl, ?_, trivial⟩, hI4⟩
      · show V.int .i64 _ = V.int .i64 _
        congr 1
        rw [hst]; push_cast; omega
      · show V.int .i64 (IntKind.i64.wrap (j + 1)) = _
        rw [wrap64 (by omega) (by omega)]; simp
    · rw [ltB_f (by omega)]
      conv => whnf
      have hjl : j = kids.length := by omega
      subst hjl
      refine ⟨[], true, ?_⟩
      conv => whnf
      refine ⟨es', ?_, ?_, ?_⟩
      · rw [List.take_length]; simp only [LT.size]; push_cast; congr 2; omega
      · simp only [LT.fresh, LT.cells, hdV, LT.freshL_len]; rfl
      · intro e he
        simp only [LT.fresh, LT.ents, rootE, List.mem_append, List.mem_singleton] at he
        rcases he with he | he
        · exact hI.done e (by rw [List.take_length]; exact he)
        · subst he
          simpa [mixF] using hI.root

def freshOf (t : T) : T := if okT t then t.fresh 1 else TZ
theorem implTreeFresh_acc (t : T) (hs : t.Small) (hz : t.size ≤ 1048577) : Full Tryd.prog noY 5 [.agg t.cells] [poolO []] fun o st' => ∃ (l : LT) (es : List (List V)), l.erase = freshOf t ∧ l.Wf ∧ (∀ e ∈ l.ents, e ∈ es) ∧ (l.ents.map labOf).Nodup ∧ o = .ret (.agg l.cells) ∧ st' = [poolO es] := by
  have hio := implTreeOk t hs
  have hcp := (treeCopy_acc t hs []).givenEnd
  have hfo : freshOf t = if okT t then t.fresh 1 else TZ := rfl
  generalize freshOf t = ft at *
  generalize okT t = okt at *
  cases t with
  | mk id kind text kids =>
  refine full_of_awp good Tryd.func5 rfl (by kernel_rfl) (by decide) ?_
  conv => whnf
  refine .inl (hio.mono ?_)
  rintro r rfl
  cases okt
  · conv => whnf
    refine ⟨[], true, ?_⟩
    conv => whnf
    exact ⟨.mk 0 [] [] none [], [], by rw [hfo]; rfl, ⟨fun _ => rfl, trivial⟩, by simp [LT.ents, LT.entsL, rootE], by simp [LT.ents, LT.entsL, rootE], rfl, rfl⟩
  conv => whnf
  refine .inr (.inl ⟨[0], true, ?_⟩)
  conv => whnf
  refine hcp.mono ?_
  rintro o st' ⟨⟨l, h1, h2, rfl, rfl⟩, hl⟩
  have hn := hl.nodup (k := 0) rfl
  rw [List.nil_append] at hn
  have hsz : l.size ≤ 1048577 := by rw [← LT.size_erase, h1]; exact hz
  have hnum := treeNumber_root l l.ents 1 (by omega) (by omega) h2 (fun _ h => h) hn
  have hfr : (l.fresh 1).erase = ft := by rw [LT.erase_fresh, h1, hfo, if_pos rfl]
  have hwf := LT.wf_fresh l 1 h2
  have hnf : ((l.fresh 1).ents.map labOf).Nodup := by rw [LT.labs_ents, LT.labs_fresh, ← LT.labs_ents]; exact hn
  rw [List.nil_append]
  generalize l.ents = esl at *
  cases l with
  | mk lid lk lt lh lks =>
  rcases lh with _ | ⟨lb, lc⟩
  all_goals
    conv => whnf
    refine ⟨[3, 0], true, ?_⟩
    conv => whnf
    refine hnum.mono ?_
    rintro o st' ⟨es', rfl, rfl, hE⟩
    conv => whnf
    refine ⟨[], true, ?_⟩
    conv => whnf
    exact ⟨_, es', hfr, hwf, hE, hnf, rfl, rfl⟩
/-- .. just made. -/
def NewL (t : T) (o : Out) (st' : St) : Prop := ∃ l : LT, l.erase = t ∧ l.Wf ∧ (l.ents.map labOf).Nodup ∧ o = .ret (.agg l.cells) ∧ st' = [poolO l.ents]
theorem implTreeFresh_new (t : T) (hs : t.Small) (hz : t.size ≤ 1048577) : Full Tryd.prog noY 5 [.agg t.cells] [] (NewL (freshOf t)) := by
  refine Full.start (Full.shrink (implTreeFresh_acc t hs hz) ?_)
  rintro o st' ⟨l, es, h1, h2, h3, h4, rfl, rfl⟩
  exact ⟨es, l.ents, rfl, h3, h4, l, h1, h2, h4, rfl, rfl⟩
theorem implTreeFresh_pure (t : T) (ht : t.Small) (hz : t.size ≤ 1048577) : Pure Tryd.prog 5 [.agg t.cells] (· = .agg (freshOf t).cells) := by
  refine Full.freeze (implTreeFresh_new t ht hz) ?_
  rintro o st' ⟨l, h1, h2, h3, rfl, rfl⟩
  refine ⟨_, _, .agg l.erase.cells, rfl, rfl, l.viewA h2 (fun e he => he), ?_, by rw [h1]⟩
  cases l with
  | mk id kind text h kids => rcases h with _ | ⟨b, c⟩ <;> rfl
end Go.Cod

namespace Go.Cod
open Go Go.Proofs
set_option maxRecDepth 10000

mutual
theorem T.fresh_size : ∀ (t : T) (k : Int), (t.fresh k).size = t.size
  | .mk _ _ _ kids, k => by simp only [T.fresh, T.size, T.freshL_size kids]
theorem T.freshL_size : ∀ (ts : List T) (k : Int), T.sizeL (T.freshL ts k) = T.sizeL ts
  | [], _ => rfl
  | t :: ts, k => by simp only [T.freshL, T.sizeL, T.fresh_size t, T.freshL_size ts]
end
theorem T.freshL_len : ∀ (ts : List T) (k : Int), (T.freshL ts k).length = ts.length
  | [], _ => rfl
  | t :: ts, k => by simp [T.freshL, T.freshL_len ts]
theorem T.freshL_append : ∀ (a b : List T) (k : Int), T.freshL (a ++ b) k = T.freshL a k ++ T.freshL b (k + T.sizeL a)
  | [], b, k => by simp [T.freshL, T.sizeL]
  | l :: a, b, k => by
    simp only [List.cons_append, T.freshL, T.freshL_append a b, T.sizeL]
    congr 3
    push_cast; omega
theorem T.freshL_take (ls : List T) (i : Nat) (h : i < ls.length) (k : Int) : T.freshL (ls.take (i + 1)) k = T.freshL (ls.take i) k ++ [ls[i].fresh (k + T.sizeL (ls.take i))] := by
  rw [List.take_succ_eq_append_getElem h, T.freshL_append]; rfl
mutual
theorem T.fresh_small : ∀ (t : T) (k : Int), t.Small → 0 ≤ k → k + t.size ≤ 1152921504606846976 → (t.fresh k).Small
  | .mk id kind text kids, k, h, h0, h1 => by
    cases h with
    | mk g1 g2 g3 g4 g5 =>
      simp only [T.size] at h1
      simp only [T.fresh]
      exact .mk (by omega) g2 g3 (by rw [T.freshL_len]; exact g4) (T.freshL_small kids (k + 1) g5 (by omega) (by omega))
theorem T.freshL_small : ∀ (ts : List T) (k : Int), (∀ t ∈ ts, t.Small) → 0 ≤ k → k + T.sizeL ts ≤ 1152921504606846976 → ∀ t ∈ T.freshL ts k, t.Small
  | [], _, _, _, _, t, h => by simp [T.freshL] at h
  | t :: ts, k, h, h0, h1, x, hx => by
    simp only [T.sizeL] at h1
    have a := T.fresh_small t k (h t (by simp)) h0 (by omega)
    simp only [T.freshL, List.mem_cons] at hx
    rcases hx with hx | hx
    · rw [hx]; exact a
    · exact T.freshL_small ts (k + t.size) (fun y hy => h y (by simp [hy])) (by omega) (by push_cast at h1; omega) x hx
end
theorem l12Fresh_pure1 (t : T) (ht : t.Small) (k : Int) (h0 : 0 ≤ k) (h1 : k + t.size ≤ 1152921504606846976) (hT : ∀ t' ∈ t.kids, ∀ k : Int, 0 ≤ k → k + t'.size ≤ 1152921504606846976 → Pure Tryd.prog 20 [.agg t'.cells, .int .i64 k] (· = .tup [.agg (t'.fresh k).cells, .int .i64 (k + t'.size)])) :
    Pure Tryd.prog 20 [.agg t.cells, .int .i64 k] (· = .tup [.agg (t.fresh k).cells, .int .i64 (k + t.size)]) := by
  cases ht with
  | @mk id kind text kids g1 g2 g3 g4 g5 =>
  simp only [T.kids] at hT
  simp only [T.size] at h1
  have hlr := Go.Cod.rows_len kids
  have hsz := T.sizeL_le kids
  have w1 : IntKind.i64.wrap (k + 1) = k + 1 := wrap64 (by omega) (by omega)
  refine pure_of_awp good Tryd.func20 rfl (by kernel_rfl) (by decide) ?_
  conv => whnf
  rw [w1]
  refine loop_drop (fun n fr st => ∃ i : Nat, n + i = kids.length ∧ Holds fr [(2, .ptr 0 0 0), (4, .ptr 1 0 0), (6, .ptr 2 0 0), (7, .int .i64 (k + 1 + T.sizeL (kids.take i))), (8, .int .i64 i)] ∧
      ((i = 0 ∧ st = [⟨[[.int .i64 id, .str kind, .str text, .sl (T.rows kids)]], 4, true, true, true, .cell⟩, ⟨[zrow], 4, true, true, true, .cell⟩, ⟨[[.int .i64 k, .str kind, .str text, .nils]], 4, true, true, true, .cell⟩]) ∨
       (0 < i ∧ st = [⟨[[.int .i64 id, .str kind, .str text, .sl (T.rows kids)]], 4, true, true, true, .cell⟩, ⟨[zrow], 4, true, true, true, .cell⟩, ⟨[[.int .i64 k, .str kind, .str text, .own 3]], 4, true, true, true, .cell⟩, ⟨T.rows (T.freshL (kids.take i) (k + 1)), 4, true, true, false, .cell⟩]))) kids.length none
    ⟨0, rfl, ⟨rfl, rfl, rfl, by simp [T.sizeL]; rfl, rfl, trivial⟩, .inl ⟨rfl, rfl⟩⟩ ?_
  rintro n fr st ⟨i, hi, hh, hst⟩
  obtain ⟨fr, rfl⟩ := hh.split
  clear hh
  by_cases hlt : i < kids.length
  · have hg := Go.Cod.rows_get kids i hlt
    have hs1 := hsz (i + 1)
    have hss := T.sizeL_take kids i hlt
    have hc := hT kids[i] (List.getElem_mem _) (k + 1 + T.sizeL (kids.take i)) (by omega) (by omega)
    have hfk := T.freshL_take kids i hlt (k + 1)
    have hrow : T.rows (T.freshL (kids.take (i + 1)) (k + 1)) = T.rows (T.freshL (kids.take i) (k + 1)) ++ [(kids[i].fresh (k + 1 + T.sizeL (kids.take i))).cells] := by
      rw [hfk, T.rows_eq, T.rows_eq, List.map_append]; rfl
    have hsum : k + 1 + (T.sizeL (kids.take i) : Int) + kids[i].size = k + 1 + (T.sizeL (kids.take (i + 1)) : Int) := by rw [hss]; push_cast; omega
    rw [hsum] at hc
    have hlen : (T.rows (T.freshL (kids.take i) (k + 1))).length = i := by rw [Go.Cod.rows_len, T.freshL_len, List.length_take]; omega
    have hwi : IntKind.i64.wrap (i + 1) = (i + 1 : Nat) := by rw [wrap64 (by omega) (by omega)]; simp
    clear hsum hfk hs1 hss
    generalize kids[i] = t at hc hg hrow
    generalize (k + 1 + (T.sizeL (kids.take i) : Int)) = kk at hc hrow ⊢
    generalize t.fresh kk = tf at hc hrow
    cases t with
    | mk id' kind' text' kids' =>
    cases tf with
    | mk fid fk ft fks =>
    rcases hst with ⟨rfl, rfl⟩ | ⟨hi0, rfl⟩
    · conv => whnf
      rw [hlr, ltB_t (by omega)]
      conv => whnf
      refine ⟨by omega, T.rows kids, _, 4, rfl, hg, rfl, rfl, ?_⟩
      conv => whnf
      refine .inl (hc.mono ?_)
      rintro r rfl
      conv => whnf
      refine ⟨fun m hm => by rw [List.mem_singleton.1 hm]; rfl, ?_⟩
      conv => whnf
      refine ⟨by show 1 * 64 ≤ _; omega, .inr ⟨(by intro e; cases e), ?_⟩⟩
      conv => whnf
      refine ⟨n - 1, by omega, some [0, 1, 2, 5], ?_⟩
      conv => whnf
      refine ⟨1, by omega, ⟨rfl, rfl, rfl, rfl, rfl, trivial⟩, .inr ⟨by omega, ?_⟩⟩
      rw [hrow]
      rfl
    · conv => whnf
      rw [hlr, ltB_t (by omega)]
      conv => whnf
      refine ⟨by omega, T.rows kids, _, 4, rfl, hg, rfl, rfl, ?_⟩
      conv => whnf
      refine .inl (hc.mono ?_)
      rintro r rfl
      conv => whnf
      refine ⟨fun m hm => by rw [List.mem_singleton.1 hm]; rfl, ?_⟩
      conv => whnf
      refine ⟨by
        show ((T.rows (T.freshL (kids.take i) (k + 1))).length + 1) * 64 ≤ _
        rw [hlen]; omega, ?_⟩
      conv => whnf
      refine ⟨n - 1, by omega, some [0, 1, 2, 6], ?_⟩
      conv => whnf
      refine ⟨i + 1, by omega, ⟨rfl, rfl, rfl, rfl, ?_, trivial⟩, .inr ⟨by omega, ?_⟩⟩
      · show V.int .i64 (IntKind.i64.wrap (i + 1)) = _
        rw [hwi]
      · rw [hrow]
        rfl
  · have hil : i = kids.length := by omega
    subst hil
    rw [List.take_length] at hst ⊢
    have hkk : k + ((T.mk id kind text kids).size : Int) = k + 1 + (T.sizeL kids : Int) := by simp only [T.size]; push_cast; omega
    rw [hkk]
    generalize (k + 1 + (T.sizeL kids : Int)) = kk
    rcases hst with ⟨hk0, rfl⟩ | ⟨hi0, rfl⟩
    · have : kids = [] := List.eq_nil_of_length_eq_zero hk0
      subst this
      conv => whnf
      rw [ltB_f (by simp [T.rows_eq])]
      conv => whnf
      rfl
    · conv => whnf
      rw [hlr, ltB_f (by omega)]
      conv => whnf
      rfl
theorem l12Fresh_pure (t : T) (ht : t.Small) : ∀ k : Int, 0 ≤ k → k + t.size ≤ 1152921504606846976 → Pure Tryd.prog 20 [.agg t.cells, .int .i64 k] (· = .tup [.agg (t.fresh k).cells, .int .i64 (k + t.size)]) := by
  induction ht with
  | @mk id kind text kids g1 g2 g3 g4 g5 ih => exact fun k h0 h1 => l12Fresh_pure1 _ (.mk g1 g2 g3 g4 g5) k h0 h1 ih
theorem specTreeFresh_pure (t : T) (hs : t.Small) (hn : t.ids.length ≤ 1048577) : Pure Tryd.prog 7 [.agg t.cells] (· = .agg (freshOf t).cells) := by
  have hok := specTreeOk_pure t hs hn
  have hf := l12Fresh_pure t hs 1 (by omega) (by rw [T.ids_size] at hn; omega)
  have hd : freshOf t = if okT t then t.fresh 1 else TZ := rfl
  generalize okT t = okt at *
  generalize freshOf t = fo at *
  generalize t.fresh 1 = tf at *
  generalize (1 + (t.size : Int)) = kk at *
  cases t with
  | mk id kind text kids =>
  cases tf with
  | mk fid fk ft fks =>
  refine pure_of_awp good Tryd.func7 rfl (by kernel_rfl) (by decide) ?_
  conv => whnf
  refine .inl (hok.mono ?_)
  rintro r rfl
  cases okt
  · conv => whnf
    rw [hd]; rfl
  conv => whnf
  refine .inl (hf.mono ?_)
  rintro r rfl
  conv => whnf
  rw [hd, if_pos rfl]
  rfl
end Go.Cod

namespace Go.Cod
open Go Go.Proofs
set_option maxRecDepth 10000

set_option maxHeartbeats 8000000 in
theorem l11Edits_full (bs : List UInt8) (hb : bs.length ≤ 2000) (t : T) (ht : t.Tried) (p : Int) (p0 : 0 ≤ p) (p1 : p ≤ 2000000) (m : Nat) (hm : m ≤ 10) :
    Full Tryd.prog noY 15 [.ptr 0 0 0, .agg t.cells, .int .i64 m, .int .i64 100, .bool false] [rdO bs p] fun o st' => ∃ (x : T) (p' : Int), x.Tried ∧ p ≤ p' ∧ p' ≤ p + 10000 ∧ o = .ret (.agg x.cells) ∧ st' = [rdO bs p'] := by
  have ht' := ht
  obtain ⟨ti, tk, tx, tks⟩ := t
  refine full_of_awp good Tryd.func15 rfl (by kernel_rfl) (by decide) ?_
  conv => whnf
  refine loop_drop (fun n fr st => ∃ (i : Nat) (x : T) (p' k' : Int), n + i = m ∧ x.Tried ∧ (p ≤ p' ∧ p' + 1000 * n ≤ p + 1000 * m) ∧ (0 ≤ k' ∧ k' + 1000 * n ≤ 100 + 1000 * m) ∧
      Holds fr [(0, .ptr 0 0 0), (2, .int .i64 m), (4, .bool false), (6, .ptr 1 0 0), (10, .ptr 2 0 0), (11, .ptr 3 0 0), (12, .int .i64 i)] ∧
      st = [rdO bs p', bxO x.cells 4, bxO zrow 4, nxO k']) m none
    (by
      conv => whnf
      exact ⟨0, .mk ti tk tx tks, p, 100, by omega, ht', by omega, by omega, ⟨rfl, rfl, rfl, rfl, rfl, rfl, rfl, trivial⟩, rfl⟩) ?_
  rintro n fr st ⟨i, x, p', k', b1, b2, b3, b4, hh, rfl⟩
  obtain ⟨fr, rfl⟩ := hh.split
  clear hh
  have f4 := l2Copy_pure x b2.1
  by_cases hlt : i < m
  · have hed := l11Edit_full bs hb p' k' (by omega) (by omega) (by omega) (by omega) x b2.1 (by have := b2.2.1; omega)
    have hdo := fun s (h : s.Dr) => l4Do_even x s b2.1 (by have := b2.2.1; omega) b2.2.2 h.1 (by have := h.2.1; omega) (by have := h.2.2; omega)
    have htd := fun s y (h : s.Dr) (hd : doT x s = some y) => tried_do b2 h hd
    have hw : V.int .i64 (IntKind.i64.wrap ((i : Int) + 1)) = .int .i64 ((i + 1 : Nat) : Int) := by rw [wrap64 (by omega) (by omega)]; simp
    obtain ⟨xi, xk, xx, xks⟩ := x
    conv => whnf
    rw [ltB_t (by omega)]
    conv => whnf
    repeat' (first
      | (refine ⟨[0, 3], false, ?_⟩
         conv => whnf
         refine hed.mono ?_
         rintro o st' ⟨⟨ek, ei, ea, ⟨ni, nk, nx, nks⟩, ex⟩, p2, k2, d1, d2, d3, d4, d5, rfl, rfl⟩
         have hdo := hdo _ d1
         have htd := fun y => htd _ y d1
         generalize hdoo : doT (T.mk xi xk xx xks) _ = dd at hdo htd
         rcases dd with _ | ⟨yi, yk, yx, yks⟩
         case' none => have hdo : Pure Tryd.prog 33 _ (· = .tup [.agg (T.mk xi xk xx xks).cells, .bool false]) := hdo
         case' some =>
           have hdo : Pure Tryd.prog 33 _ (· = .tup [.agg (T.mk yi yk yx yks).cells, .bool true]) := hdo
           have htd := htd _ rfl
         all_goals conv => whnf)
      | (refine ⟨_, .inl hdo, ?_⟩
         conv => whnf)
      | (refine .inl (hdo.mono ?_)
         rintro r rfl
         conv => whnf)
      | (refine ⟨n - 1, by omega, some [0, 1, 2, 3], ?_⟩
         conv => whnf
         first
           | exact ⟨i + 1, .mk yi yk yx yks, p2, k2, by omega, htd, by omega, by omega, ⟨rfl, rfl, rfl, rfl, rfl, rfl, hw, trivial⟩, rfl⟩
           | exact ⟨i + 1, .mk xi xk xx xks, p2, k2, by omega, b2, by omega, by omega, ⟨rfl, rfl, rfl, rfl, rfl, rfl, hw, trivial⟩, rfl⟩)
      | (refine And.intro ?_ ?_ <;> (conv => whnf)))
    all_goals rfl
  · obtain ⟨xi, xk, xx, xks⟩ := x
    conv => whnf
    rw [ltB_f (by omega)]
    conv => whnf
    refine .inl (f4.mono ?_)
    rintro r rfl
    conv => whnf
    refine ⟨[], false, ?_⟩
    conv => whnf
    exact ⟨.mk xi xk xx xks, p', b2, by omega, by omega, rfl, rfl⟩
def DrawTF (r : V) : Prop := ∃ t : T, t.Small ∧ t.size ≤ 1000 ∧ r = .agg t.cells
set_option maxHeartbeats 8000000 in
theorem drawTreeFresh_pure (bs : List UInt8) (hb : bs.length ≤ 1048576) : Pure Tryd.prog 4 [.sl (brows bs)] DrawTF := by
  have ho := l1Open_full bs hb
  refine pure_of_awp good Tryd.func4 rfl (by kernel_rfl) (by decide) ?_
  conv => whnf
  refine .inr (.inl ⟨[], false, ?_⟩)
  conv => whnf
  refine ho.mono ?_
  rintro o st' ⟨rfl, bs', hb', rfl⟩
  conv => whnf
  refine ⟨[1], false, ?_⟩
  conv => whnf
  refine (l11AnyTree_full bs' hb' 0 (by omega) (by omega)).mono ?_
  rintro o st' ⟨t, p, s1, ⟨s2, s5, s6, s7⟩, s3, s4, rfl, rfl⟩
  have hdr : Drawn t := ⟨t, s5, s6, s7, by omega, .inl rfl⟩
  have htr : t.Tried := ⟨s1, drawn_size hdr, drawn_even hdr⟩
  have hpk := pick_full bs' p 4 hb' (by omega) (by omega)
  have hed := fun (c : Nat) (h : c ≤ 10) => l11Edits_full bs' hb' t htr (p + 1) (by omega) (by omega) c h
  rcases t with ⟨ti, tk, tx, tks⟩
  conv => whnf
  refine ⟨[1], false, ?_⟩
  conv => whnf
  refine hpk.mono ?_
  rintro o st' ⟨c, c0, c1, rfl, rfl⟩
  have c1 := c1 (by omega)
  obtain ⟨c, rfl⟩ : ∃ n : Nat, c = n := ⟨c.toNat, by omega⟩
  have hed := hed c (by omega)
  conv => whnf
  repeat (refine And.intro (by
            (conv => whnf)
            rfl) ?_
          conv => whnf)
  refine ⟨[1], false, ?_⟩
  conv => whnf
  refine hed.mono ?_
  rintro o st' ⟨x, p2, x1, x2, x3, rfl, rfl⟩
  have hpk2 := pick_full bs' p2 12 hb' (by omega) (by omega)
  have hsp := spoil_full bs' hb' x x1.1 (p2 + 1) (by omega) (by have := x1.2.1; omega) (by have := x1.2.1; omega)
  rcases x with ⟨xi, xk, xx, xks⟩
  conv => whnf
  repeat (refine And.intro (by
            (conv => whnf)
            rfl) ?_
          conv => whnf)
  refine ⟨[1], false, ?_⟩
  conv => whnf
  refine hpk2.mono ?_
  rintro o st' ⟨d, d0, d1, rfl, rfl⟩
  conv => whnf
  by_cases hd : d = 0
  · rw [eqB_t hd]
    conv => whnf
    refine ⟨[1], false, ?_⟩
    conv => whnf
    refine hsp.mono ?_
    rintro o st' ⟨y, p3, y1, ⟨y2, y3⟩, y4, y5, rfl, rfl⟩
    rcases y with ⟨yi, yk, yx, yks⟩
    conv => whnf
    exact ⟨.mk yi yk yx yks, y1, by have := x1.2.1; omega, rfl⟩
  · rw [eqB_f hd]
    conv => whnf
    exact ⟨.mk xi xk xx xks, x1.1, by have := x1.2.1; omega, rfl⟩
end Go.Cod

namespace Go.Cod
open Go Go.Proofs
variable [Lam]

/- A long region in pieces. -/
end Go.Cod

namespace Go.Cod
open Go Go.Proofs
variable [Lam]

/- The walk of a region, sealed for the kernel too. -/
variable {A : Program → OkY → Tau → Array Oper → List Oper → (Nat → V) → St → ((Nat → V) → St → Prop) → (V → (Nat → V) → St → Prop) → Prop}
variable {P : Program} {ok : OkY} {τ : Tau} {ops : Array Oper} {l : List Oper} {fr : Nat → V} {st : St} {K : (Nat → V) → St → Prop} {Z : V → (Nat → V) → St → Prop}
end Go.Cod

namespace Go.Cod
open Go Go.Proofs Go.ChangeShapes Go.WideShapes Go.ChangeAt Go.RowKit
set_option maxRecDepth 10000

theorem ownK : ownKnob Tryd.prog.godebug = none := by kernel_rfl
def byteOf : List V → UInt8
  | [.int _ i] => UInt8.ofNat i.toNat
  | _ => 0
theorem argBytes {H : Type} {enc : TypeId × Value → H} {W : World} : ReadsA enc Tryd.prog W 22 fun x => ∃ bs : List UInt8, x = .sl (brows bs) := by
  intro base v d p hv h
  obtain ⟨x, ⟨es, hx, _, hr⟩, hrep⟩ := readsA_slice (S := fun vs => ∃ es, vs = [.sl es] ∧ es.length ≤ maxLen ∧ ∀ r ∈ es, (∃ i, r = [.int .u8 i] ∧ IntKind.u8.min ≤ i ∧ i ≤ IntKind.u8.max) ∧ r.length = Tryd.prog.cellsOf 5 ∧ (∀ v ∈ r, v.leaf = true) ∧ V.clean.cleanL 0 r = true)
    Tryd.underlying22 (fun n => reads_slice Tryd.underlying22 (by decide +kernel) fun m _ => reads_int Tryd.underlying5) base v d p hv h
  cases hx
  refine ⟨_, ⟨es.map byteOf, ?_⟩, hrep⟩
  congr 1
  rw [brows, List.map_map]
  refine (List.map_id es).symm.trans (List.map_congr_left fun r hr' => ?_)
  obtain ⟨⟨i, rfl, h1, h2⟩, _⟩ := hr r hr'
  have h1 : 0 ≤ i := h1
  have h2 : i ≤ 255 := h2
  simp only [id_eq, Function.comp, byteOf, cellB]
  congr 2
  simp only [UInt8.toNat_ofNat']
  omega
end Go.Cod

namespace Go.Cod
open Go Go.Proofs
set_option linter.all false
variable [Lam]

/-- What a function leaves as its own is shared for good. -/
theorem Full.own_pure {P : Program} {f : FuncId} {args : List V} {rows : List (List V)} {w : Nat} (h : Full P noY f args [] fun o st' => o = .ret (.own 0) ∧ st' = [⟨rows, w, true, true, false, .cell⟩])
    (hcl : V.clean.cleanLL 0 rows = true) (hlf : ∀ e ∈ rows, ∀ x ∈ e, x.leaf = true) (hfl : ∀ e ∈ rows, ∀ x ∈ e, x.flat = true) (ha : V.clean.cleanL 0 args = true) : Pure P f args (· = .sl rows) := by
  have h1 := Full.lent (ok := noY) (ps := [[]]) (vs := args) h ⟨rfl, fun i x y p q => by rw [p] at q; cases q; exact .same _⟩ ha (by
    rintro o st1 ⟨rfl, rfl⟩
    exact ⟨_, rfl, rfl, fun p hp => by rw [List.mem_singleton.1 hp]; exact ⟨rfl, .inl ⟨rfl, hfl⟩⟩⟩)
  have h2 := Full.absorb (R' := fun o st' => ∃ b c, o = .ret (.dref b rows.length c) ∧ st' = [poolO [ent b c w rows]]) h1 (by
    rintro o st' ⟨v, st1, ⟨hv, rfl⟩, rfl, rfl⟩
    cases hv
    exact ⟨.own 1, [poolO []], 0, [], rows, w, rfl, rfl, rfl, Nat.le_refl _, by simp [poolO], fun b c => ⟨rfl, b, c, rfl, rfl⟩⟩)
  refine Full.freeze (Full.start (st0 := []) h2) ?_
  rintro o st' ⟨b, c, rfl, rfl⟩
  refine ⟨_, _, .sl rows, rfl, rfl, ?_, rfl, rfl⟩
  refine .dref (sz := w) (rows := rows) (by simp) rfl rfl hcl hlf (fun i r r' p q => ?_) (fun i r r' j x y p q u v => ?_)
  · rw [p] at q; cases q; rfl
  · rw [p] at q; cases q; rw [u] at v; cases v; exact .same _
end Go.Cod

namespace Go.Cod
set_option linter.all false

/-! The least cost to make one forest another, by places: p and q tell where what is in a thing begins, u what it costs that one becomes the other. -/
def dist (p q : Nat → Nat) (u : Nat → Nat → Nat) (l1 h1 l2 h2 : Nat) : Nat :=
  if h1 ≤ l1 then h2 - l2 else if h2 ≤ l2 then h1 - l1 else
    min (min (dist p q u l1 (h1 - 1) l2 h2 + 1) (dist p q u l1 h1 l2 (h2 - 1) + 1))
      (dist p q u l1 (max l1 (min (p (h1 - 1)) (h1 - 1))) l2 (max l2 (min (q (h2 - 1)) (h2 - 1))) + dist p q u (max l1 (min (p (h1 - 1)) (h1 - 1))) (h1 - 1) (max l2 (min (q (h2 - 1)) (h2 - 1))) (h2 - 1) + u (h1 - 1) (h2 - 1))
termination_by (h1 - l1) + (h2 - l2)
decreasing_by all_goals omega

def Closed (p : Nat → Nat) (l h : Nat) : Prop := ∀ x, l ≤ x → x < h → l ≤ p x
structure Lamin (p : Nat → Nat) (n : Nat) : Prop where
  le : ∀ x, x < n → p x ≤ x
  nest : ∀ x y, x < y → y < n → x < p y ∨ p y ≤ p x
theorem Closed.le {p l h h'} (H : Closed p l h) (hh : h' ≤ h) : Closed p l h' := fun x a b => H x a (by omega)
theorem Closed.from {p l h m} (H : Closed p m h) (hh : l ≤ m) : ∀ x, m ≤ x → x < h → l ≤ p x := fun x a b => Nat.le_trans hh (H x a b)
theorem Lamin.closed {p n} (H : Lamin p n) {a : Nat} (ha : a < n) : Closed p (p a) (a + 1) := fun x h1 h2 => by
  rcases Nat.lt_or_ge x a with h | h
  · rcases H.nest x a h ha with h3 | h3
    · omega
    · exact h3
  · have : x = a := by omega
    subst this; exact Nat.le_refl _

variable {p q : Nat → Nat} {u : Nat → Nat → Nat}
theorem dist_l {l1 h1 l2 h2 : Nat} (h : h1 ≤ l1) : dist p q u l1 h1 l2 h2 = h2 - l2 := by
  rw [dist, if_pos h]
theorem dist_r {l1 h1 l2 h2 : Nat} (h : h2 ≤ l2) : dist p q u l1 h1 l2 h2 = h1 - l1 := by
  rw [dist]
  by_cases h' : h1 ≤ l1
  · rw [if_pos h']; omega
  · rw [if_neg h', if_pos h]
theorem dist_succ {l1 a l2 b : Nat} (h1 : l1 ≤ a) (h2 : l2 ≤ b) : dist p q u l1 (a + 1) l2 (b + 1) =
    min (min (dist p q u l1 a l2 (b + 1) + 1) (dist p q u l1 (a + 1) l2 b + 1))
      (dist p q u l1 (max l1 (min (p a) a)) l2 (max l2 (min (q b) b)) + dist p q u (max l1 (min (p a) a)) a (max l2 (min (q b) b)) b + u a b) := by
  rw [dist, if_neg (by omega), if_neg (by omega)]
  simp only [Nat.add_sub_cancel]
theorem dist_step {l1 a l2 b : Nat} (h1 : l1 ≤ p a) (h1' : p a ≤ a) (h2 : l2 ≤ q b) (h2' : q b ≤ b) : dist p q u l1 (a + 1) l2 (b + 1) =
    min (min (dist p q u l1 a l2 (b + 1) + 1) (dist p q u l1 (a + 1) l2 b + 1)) (dist p q u l1 (p a) l2 (q b) + dist p q u (p a) a (q b) b + u a b) := by
  rw [dist_succ (by omega) (by omega), show max l1 (min (p a) a) = p a by omega, show max l2 (min (q b) b) = q b by omega]
theorem dist_del {l1 a l2 h2 : Nat} (h : l1 ≤ a) : dist p q u l1 (a + 1) l2 h2 ≤ dist p q u l1 a l2 h2 + 1 := by
  by_cases h' : h2 ≤ l2
  · rw [dist_r h', dist_r h']; omega
  · obtain ⟨b, rfl⟩ : ∃ b, h2 = b + 1 := ⟨h2 - 1, by omega⟩
    rw [dist_succ h (by omega)]; omega
theorem dist_ins {l1 h1 l2 b : Nat} (h : l2 ≤ b) : dist p q u l1 h1 l2 (b + 1) ≤ dist p q u l1 h1 l2 b + 1 := by
  by_cases h' : h1 ≤ l1
  · rw [dist_l h', dist_l h']; omega
  · obtain ⟨a, rfl⟩ : ∃ a, h1 = a + 1 := ⟨h1 - 1, by omega⟩
    rw [dist_succ (by omega) h]; omega
theorem dist_mat {l1 a l2 b : Nat} (h1 : l1 ≤ p a) (h1' : p a ≤ a) (h2 : l2 ≤ q b) (h2' : q b ≤ b) : dist p q u l1 (a + 1) l2 (b + 1) ≤ dist p q u l1 (p a) l2 (q b) + dist p q u (p a) a (q b) b + u a b := by
  rw [dist_step h1 h1' h2 h2']; omega
theorem dist_dels {l1 m1 l2 h2 : Nat} (h : l1 ≤ m1) : ∀ k, dist p q u l1 (m1 + k) l2 h2 ≤ dist p q u l1 m1 l2 h2 + k
  | 0 => by simp
  | k + 1 => by
    have := dist_dels (l2 := l2) (h2 := h2) h k
    have := dist_del (p := p) (q := q) (u := u) (l1 := l1) (a := m1 + k) (l2 := l2) (h2 := h2) (by omega)
    rw [← Nat.add_assoc]; omega
theorem dist_inss {l1 h1 l2 m2 : Nat} (h : l2 ≤ m2) : ∀ k, dist p q u l1 h1 l2 (m2 + k) ≤ dist p q u l1 h1 l2 m2 + k
  | 0 => by simp
  | k + 1 => by
    have := dist_inss (l1 := l1) (h1 := h1) h k
    have := dist_ins (p := p) (q := q) (u := u) (l1 := l1) (h1 := h1) (l2 := l2) (b := m2 + k) (by omega)
    rw [← Nat.add_assoc]; omega
/-- Side by side it costs no more. -/
theorem dist_app : ∀ (n : Nat) {l1 m1 h1 l2 m2 h2 : Nat}, (h1 - m1) + (h2 - m2) ≤ n → l1 ≤ m1 → m1 ≤ h1 → l2 ≤ m2 → m2 ≤ h2 → (∀ x, x < h1 → p x ≤ x) → (∀ x, x < h2 → q x ≤ x) → Closed p m1 h1 → Closed q m2 h2 →
    dist p q u l1 h1 l2 h2 ≤ dist p q u l1 m1 l2 m2 + dist p q u m1 h1 m2 h2 := by
  intro n
  induction n with
  | zero =>
    intro l1 m1 h1 l2 m2 h2 hn a1 a2 b1 b2 _ _ _ _
    obtain rfl : h1 = m1 := by omega
    obtain rfl : h2 = m2 := by omega
    omega
  | succ n ih =>
    intro l1 m1 h1 l2 m2 h2 hn a1 a2 b1 b2 lp lq cp cq
    by_cases e1 : h1 ≤ m1
    · obtain rfl : h1 = m1 := by omega
      rw [dist_l (l1 := h1) (Nat.le_refl _)]
      obtain ⟨k, rfl⟩ : ∃ k, h2 = m2 + k := ⟨h2 - m2, by omega⟩
      have := dist_inss (p := p) (q := q) (u := u) (l1 := l1) (h1 := h1) b1 k
      omega
    by_cases e2 : h2 ≤ m2
    · obtain rfl : h2 = m2 := by omega
      rw [dist_r (l2 := h2) (Nat.le_refl _)]
      obtain ⟨k, rfl⟩ : ∃ k, h1 = m1 + k := ⟨h1 - m1, by omega⟩
      have := dist_dels (p := p) (q := q) (u := u) (l2 := l2) (h2 := h2) a1 k
      omega
    obtain ⟨a, rfl⟩ : ∃ a, h1 = a + 1 := ⟨h1 - 1, by omega⟩
    obtain ⟨b, rfl⟩ : ∃ b, h2 = b + 1 := ⟨h2 - 1, by omega⟩
    have ca := cp a (by omega) (by omega)
    have cb := cq b (by omega) (by omega)
    have la := lp a (by omega)
    have lb := lq b (by omega)
    have i1 := ih (l1 := l1) (m1 := m1) (h1 := a) (l2 := l2) (m2 := m2) (h2 := b + 1) (by omega) a1 (by omega) b1 b2 (fun x h => lp x (by omega)) lq (cp.le (by omega)) cq
    have i2 := ih (l1 := l1) (m1 := m1) (h1 := a + 1) (l2 := l2) (m2 := m2) (h2 := b) (by omega) a1 (by omega) b1 (by omega) lp (fun x h => lq x (by omega)) cp (cq.le (by omega))
    have i3 := ih (l1 := l1) (m1 := m1) (h1 := p a) (l2 := l2) (m2 := m2) (h2 := q b) (by omega) a1 (by omega) b1 (by omega) (fun x h => lp x (by omega)) (fun x h => lq x (by omega)) (cp.le (by omega)) (cq.le (by omega))
    rw [dist_step (l1 := l1) (by omega) la (by omega) lb, dist_step (l1 := m1) ca la cb lb]
    omega
/-- .. by the cost of the last trees as wholes. -/
theorem dist_tree {n m l1 a l2 b : Nat} (hp : Lamin p n) (hq : Lamin q m) (ha : a < n) (hb : b < m) (h1 : l1 ≤ p a) (h2 : l2 ≤ q b) : dist p q u l1 (a + 1) l2 (b + 1) =
    min (min (dist p q u l1 a l2 (b + 1) + 1) (dist p q u l1 (a + 1) l2 b + 1)) (dist p q u l1 (p a) l2 (q b) + dist p q u (p a) (a + 1) (q b) (b + 1)) := by
  have la := hp.le a ha
  have lb := hq.le b hb
  have e1 := dist_app (p := p) (q := q) (u := u) _ (l1 := l1) (m1 := p a) (h1 := a + 1) (l2 := l2) (m2 := q b) (h2 := b + 1) (Nat.le_refl _) h1 (by omega) h2 (by omega) (fun x h => hp.le x (by omega)) (fun x h => hq.le x (by omega)) (hp.closed ha) (hq.closed hb)
  have e2 := dist_mat (p := p) (q := q) (u := u) (l1 := p a) (a := a) (l2 := q b) (b := b) (Nat.le_refl _) la (Nat.le_refl _) lb
  rw [dist_l (l1 := p a) (h1 := p a) (Nat.le_refl _)] at e2
  have e3 := dist_step (p := p) (q := q) (u := u) (l1 := l1) (a := a) (l2 := l2) (b := b) h1 la h2 lb
  have e4 := dist_del (p := p) (q := q) (u := u) (l1 := l1) (a := a) (l2 := l2) (h2 := b + 1) (by omega)
  have e5 := dist_ins (p := p) (q := q) (u := u) (l1 := l1) (h1 := a + 1) (l2 := l2) (b := b) (by omega)
  omega
theorem dist_le : ∀ (n : Nat) {l1 h1 l2 h2 : Nat}, (h1 - l1) + (h2 - l2) ≤ n → dist p q u l1 h1 l2 h2 ≤ (h1 - l1) + (h2 - l2) ∧ h1 - l1 ≤ dist p q u l1 h1 l2 h2 + (h2 - l2) ∧ h2 - l2 ≤ dist p q u l1 h1 l2 h2 + (h1 - l1) := by
  intro n
  induction n with
  | zero =>
    intro l1 h1 l2 h2 hn
    rw [dist_l (by omega)]; omega
  | succ n ih =>
    intro l1 h1 l2 h2 hn
    by_cases e1 : h1 ≤ l1
    · rw [dist_l e1]; omega
    by_cases e2 : h2 ≤ l2
    · rw [dist_r e2]; omega
    obtain ⟨a, rfl⟩ : ∃ a, h1 = a + 1 := ⟨h1 - 1, by omega⟩
    obtain ⟨b, rfl⟩ : ∃ b, h2 = b + 1 := ⟨h2 - 1, by omega⟩
    have i1 := ih (l1 := l1) (h1 := a) (l2 := l2) (h2 := b + 1) (by omega)
    have i2 := ih (l1 := l1) (h1 := a + 1) (l2 := l2) (h2 := b) (by omega)
    rw [dist_succ (by omega) (by omega)]
    generalize hP : max l1 (min (p a) a) = P
    generalize hQ : max l2 (min (q b) b) = Q
    have i3 := ih (l1 := l1) (h1 := P) (l2 := l2) (h2 := Q) (by omega)
    have i4 := ih (l1 := P) (h1 := a) (l2 := Q) (h2 := b) (by omega)
    omega
/-- Places that are shifted. -/
theorem dist_shift {p q p' q' : Nat → Nat} {u u' : Nat → Nat → Nat} {s1 s2 : Nat} : ∀ (n : Nat) {l1 h1 l2 h2 : Nat}, (h1 - l1) + (h2 - l2) ≤ n → (∀ x, l1 ≤ x → x < h1 → p' (x + s1) = p x + s1) → (∀ x, l2 ≤ x → x < h2 → q' (x + s2) = q x + s2) →
    (∀ x y, l1 ≤ x → x < h1 → l2 ≤ y → y < h2 → u' (x + s1) (y + s2) = u x y) → dist p' q' u' (l1 + s1) (h1 + s1) (l2 + s2) (h2 + s2) = dist p q u l1 h1 l2 h2 := by
  intro n
  induction n with
  | zero =>
    intro l1 h1 l2 h2 hn _ _ _
    rw [dist_l (by omega), dist_l (by omega)]; omega
  | succ n ih =>
    intro l1 h1 l2 h2 hn ep eq eu
    by_cases e1 : h1 ≤ l1
    · rw [dist_l e1, dist_l (by omega)]; omega
    by_cases e2 : h2 ≤ l2
    · rw [dist_r e2, dist_r (by omega)]; omega
    obtain ⟨a, rfl⟩ : ∃ a, h1 = a + 1 := ⟨h1 - 1, by omega⟩
    obtain ⟨b, rfl⟩ : ∃ b, h2 = b + 1 := ⟨h2 - 1, by omega⟩
    have i1 := ih (l1 := l1) (h1 := a) (l2 := l2) (h2 := b + 1) (by omega) (fun x h h' => ep x h (by omega)) eq (fun x y h h' => eu x y h (by omega))
    have i2 := ih (l1 := l1) (h1 := a + 1) (l2 := l2) (h2 := b) (by omega) ep (fun x h h' => eq x h (by omega)) (fun x y h h' g g' => eu x y h h' g (by omega))
    rw [show a + 1 + s1 = a + s1 + 1 by omega, show b + 1 + s2 = b + s2 + 1 by omega] at *
    rw [dist_succ (p := p) (by omega) (by omega), dist_succ (p := p') (by omega) (by omega)]
    have ea := ep a (by omega) (by omega)
    have eb := eq b (by omega) (by omega)
    have hP' : max (l1 + s1) (min (p' (a + s1)) (a + s1)) = max l1 (min (p a) a) + s1 := by rw [ea]; omega
    have hQ' : max (l2 + s2) (min (q' (b + s2)) (b + s2)) = max l2 (min (q b) b) + s2 := by rw [eb]; omega
    rw [hP', hQ']
    generalize hP : max l1 (min (p a) a) = P
    generalize hQ : max l2 (min (q b) b) = Q
    have i3 := ih (l1 := l1) (h1 := P) (l2 := l2) (h2 := Q) (by omega) (fun x h h' => ep x h (by omega)) (fun x h h' => eq x h (by omega)) (fun x y h h' g g' => eu x y h (by omega) g (by omega))
    have i4 := ih (l1 := P) (h1 := a) (l2 := Q) (h2 := b) (by omega) (fun x h h' => ep x (by omega) (by omega)) (fun x h h' => eq x (by omega) (by omega)) (fun x y h h' g g' => eu x y (by omega) (by omega) (by omega) (by omega))
    rw [i1, i2, i3, i4, eu a b (by omega) (by omega) (by omega) (by omega)]
end Go.Cod

namespace Go.Cod
set_option linter.all false

/-! The things of a tree, each behind what is in it. -/
structure Th where
  k : List UInt8
  t : List UInt8
  f : Nat
mutual
def nT : T → Nat
  | .mk _ _ _ ks => nL ks + 1
def nL : List T → Nat
  | [] => 0
  | t :: ts => nT t + nL ts
end
mutual
def postT (n : Nat) : T → List Th
  | .mk _ k x ks => postL n ks ++ [⟨k, x, n⟩]
def postL (n : Nat) : List T → List Th
  | [] => []
  | t :: ts => postT n t ++ postL (n + nT t) ts
end
mutual
theorem postT_len : ∀ (n : Nat) (t : T), (postT n t).length = nT t
  | n, .mk _ k x ks => by simp [postT, nT, postL_len n ks]
theorem postL_len : ∀ (n : Nat) (ts : List T), (postL n ts).length = nL ts
  | n, [] => rfl
  | n, t :: ts => by simp [postL, nL, postT_len n t, postL_len _ ts]
end
theorem postL_append (n : Nat) (F G : List T) : postL n (F ++ G) = postL n F ++ postL (n + nL F) G := by
  induction F generalizing n with
  | nil => simp [postL, nL]
  | cons t F ih => simp only [List.cons_append, postL, ih, nL, List.append_assoc, Nat.add_assoc]
theorem nL_append (F G : List T) : nL (F ++ G) = nL F + nL G := by
  induction F with
  | nil => simp [nL]
  | cons t F ih => simp only [List.cons_append, nL, ih]; omega
theorem postL_one (n : Nat) (t : T) : postL n [t] = postT n t := by simp [postL]
def Th.add (s : Nat) (h : Th) : Th := ⟨h.k, h.t, h.f + s⟩
mutual
theorem postT_shift : ∀ (n s : Nat) (t : T), postT (n + s) t = (postT n t).map (Th.add s)
  | n, s, .mk _ k x ks => by simp [postT, postL_shift n s ks, Th.add]
theorem postL_shift : ∀ (n s : Nat) (ts : List T), postL (n + s) ts = (postL n ts).map (Th.add s)
  | n, s, [] => rfl
  | n, s, t :: ts => by
    simp only [postL, List.map_append, postT_shift n s t]
    rw [show n + s + nT t = n + nT t + s by omega, postL_shift _ s ts]
end
/-- What is in a thing stands side by side, or one in the other. -/
structure Nest (n : Nat) (L : List Th) : Prop where
  le : ∀ (x : Nat) e, L[x]? = some e → n ≤ e.f ∧ e.f ≤ n + x
  nest : ∀ (x y : Nat) e e', x < y → L[x]? = some e → L[y]? = some e' → n + x < e'.f ∨ e'.f ≤ e.f
theorem Nest.app {n : Nat} {L M : List Th} (h1 : Nest n L) (h2 : Nest (n + L.length) M) : Nest n (L ++ M) := by
  refine ⟨fun x e h => ?_, fun x y e e' hxy h h' => ?_⟩
  · by_cases hx : x < L.length
    · rw [List.getElem?_append_left hx] at h; exact h1.le x e h
    · rw [List.getElem?_append_right (by omega)] at h
      have := h2.le _ e h; omega
  · by_cases hy : y < L.length
    · rw [List.getElem?_append_left hy] at h'
      rw [List.getElem?_append_left (by omega)] at h
      exact h1.nest x y e e' hxy h h'
    · rw [List.getElem?_append_right (by omega)] at h'
      by_cases hx : x < L.length
      · have := h2.le _ e' h'; omega
      · rw [List.getElem?_append_right (by omega)] at h
        have := h2.nest _ _ e e' (by omega) h h'; omega
theorem Nest.root {n : Nat} {L : List Th} (h1 : Nest n L) (e0 : Th) (h0 : e0.f = n) : Nest n (L ++ [e0]) := by
  refine ⟨fun x e h => ?_, fun x y e e' hxy h h' => ?_⟩
  · by_cases hx : x < L.length
    · rw [List.getElem?_append_left hx] at h; exact h1.le x e h
    · rw [List.getElem?_append_right (by omega), List.getElem?_singleton] at h
      split at h
      · cases h; omega
      · cases h
  · by_cases hy : y < L.length
    · rw [List.getElem?_append_left hy] at h'
      rw [List.getElem?_append_left (by omega)] at h
      exact h1.nest x y e e' hxy h h'
    · rw [List.getElem?_append_right (by omega), List.getElem?_singleton] at h'
      split at h'
      · cases h'
        by_cases hx : x < L.length
        · rw [List.getElem?_append_left hx] at h
          have := h1.le x e h; omega
        · omega
      · cases h'
mutual
theorem postT_nest : ∀ (n : Nat) (t : T), Nest n (postT n t)
  | n, .mk _ k x ks => by simp only [postT]; exact (postL_nest n ks).root _ rfl
theorem postL_nest : ∀ (n : Nat) (ts : List T), Nest n (postL n ts)
  | n, [] => ⟨fun x e h => by simp [postL] at h, fun x y e e' _ h => by simp [postL] at h⟩
  | n, t :: ts => by
    simp only [postL]
    refine (postT_nest n t).app ?_
    rw [postT_len]; exact postL_nest _ ts
end
def fstOf (L : List Th) (x : Nat) : Nat := match L[x]? with
  | some e => e.f
  | none => 0
def labAt (L : List Th) (x : Nat) : Option (List UInt8 × List UInt8) := (L[x]?).map fun e => (e.k, e.t)
def unl (L M : List Th) (a b : Nat) : Nat := if labAt L a = labAt M b then 0 else 1
theorem fstOf_get {L : List Th} {x : Nat} {e : Th} (h : L[x]? = some e) : fstOf L x = e.f := by simp [fstOf, h]
theorem Nest.lamin {L : List Th} (h : Nest 0 L) : Lamin (fstOf L) L.length := by
  refine ⟨fun x hx => ?_, fun x y hxy hy => ?_⟩
  · have e := List.getElem?_eq_getElem hx
    rw [fstOf_get e]
    have := h.le x _ e; omega
  · have e := List.getElem?_eq_getElem (l := L) (i := x) (by omega)
    have e' := List.getElem?_eq_getElem hy
    rw [fstOf_get e, fstOf_get e']
    have := h.nest x y _ _ hxy e e'; omega
theorem Nest.closed {n : Nat} {L : List Th} (h : Nest 0 L) : Closed (fstOf L) 0 n := fun x _ _ => Nat.zero_le _
/-- What it costs to make one list of trees another. -/
def fd (F G : List T) : Nat := dist (fstOf (postL 0 F)) (fstOf (postL 0 G)) (unl (postL 0 F) (postL 0 G)) 0 (nL F) 0 (nL G)
theorem fstOf_left {L M : List Th} {x : Nat} (h : x < L.length) : fstOf (L ++ M) x = fstOf L x := by
  unfold fstOf; rw [List.getElem?_append_left h]
theorem labAt_left {L M : List Th} {x : Nat} (h : x < L.length) : labAt (L ++ M) x = labAt L x := by
  unfold labAt; rw [List.getElem?_append_left h]
theorem fstOf_shift {L M : List Th} {x : Nat} (h : x < M.length) : fstOf (L ++ M.map (Th.add L.length)) (x + L.length) = fstOf M x + L.length := by
  unfold fstOf
  rw [List.getElem?_append_right (by omega), Nat.add_sub_cancel, List.getElem?_map, List.getElem?_eq_getElem h]
  rfl
theorem labAt_shift {L M : List Th} {x : Nat} : labAt (L ++ M.map (Th.add L.length)) (x + L.length) = labAt M x := by
  unfold labAt
  rw [List.getElem?_append_right (by omega), Nat.add_sub_cancel, List.getElem?_map, Option.map_map]
  rfl
theorem unl_left {L M L' M' : List Th} {x y : Nat} (h : x < L.length) (h' : y < L'.length) : unl (L ++ M) (L' ++ M') x y = unl L L' x y := by
  unfold unl; rw [labAt_left h, labAt_left h']
theorem postL_app0 (F G : List T) : postL 0 (F ++ G) = postL 0 F ++ (postL 0 G).map (Th.add (postL 0 F).length) := by
  rw [postL_append, postL_len, ← postL_shift]
/-- The first trees alone, and the last. -/
theorem dist_left (F1 F2 G1 G2 : List Th) : dist (fstOf (F1 ++ F2)) (fstOf (G1 ++ G2)) (unl (F1 ++ F2) (G1 ++ G2)) 0 F1.length 0 G1.length = dist (fstOf F1) (fstOf G1) (unl F1 G1) 0 F1.length 0 G1.length :=
  dist_shift (s1 := 0) (s2 := 0) _ (Nat.le_refl _) (fun x _ h => fstOf_left h) (fun x _ h => fstOf_left h) (fun x y _ h _ h' => unl_left h h')
theorem dist_right (F1 F2 G1 G2 : List Th) : dist (fstOf (F1 ++ F2.map (Th.add F1.length))) (fstOf (G1 ++ G2.map (Th.add G1.length))) (unl (F1 ++ F2.map (Th.add F1.length)) (G1 ++ G2.map (Th.add G1.length))) (0 + F1.length) (F2.length + F1.length) (0 + G1.length) (G2.length + G1.length) = dist (fstOf F2) (fstOf G2) (unl F2 G2) 0 F2.length 0 G2.length :=
  dist_shift (s1 := F1.length) (s2 := G1.length) _ (Nat.le_refl _) (fun x _ h => fstOf_shift h) (fun x _ h => fstOf_shift h) (fun x y _ h _ h' => by unfold unl; rw [labAt_shift, labAt_shift])
theorem fd_append (F1 F2 G1 G2 : List T) : fd (F1 ++ F2) (G1 ++ G2) ≤ fd F1 G1 + fd F2 G2 := by
  have N1 := postL_nest 0 (F1 ++ F2)
  have N2 := postL_nest 0 (G1 ++ G2)
  have a := dist_app (p := fstOf (postL 0 (F1 ++ F2))) (q := fstOf (postL 0 (G1 ++ G2))) (u := unl (postL 0 (F1 ++ F2)) (postL 0 (G1 ++ G2))) _ (l1 := 0) (m1 := nL F1) (h1 := nL (F1 ++ F2)) (l2 := 0) (m2 := nL G1) (h2 := nL (G1 ++ G2)) (Nat.le_refl _) (Nat.zero_le _) (by rw [nL_append]; omega) (Nat.zero_le _) (by rw [nL_append]; omega)
    (fun x h => N1.lamin.le x (by rw [postL_len]; exact h)) (fun x h => N2.lamin.le x (by rw [postL_len]; exact h)) ?_ ?_
  · have e1 := dist_left (postL 0 F1) ((postL 0 F2).map (Th.add (postL 0 F1).length)) (postL 0 G1) ((postL 0 G2).map (Th.add (postL 0 G1).length))
    have e2 := dist_right (postL 0 F1) (postL 0 F2) (postL 0 G1) (postL 0 G2)
    rw [← postL_app0, ← postL_app0] at e1 e2
    simp only [postL_len, Nat.zero_add] at e1 e2
    unfold fd
    rw [← e1, ← e2, Nat.add_comm (nL F2), Nat.add_comm (nL G2), ← nL_append, ← nL_append]
    exact a
  · intro x h1 h2
    obtain ⟨d, rfl⟩ : ∃ d, x = d + (postL 0 F1).length := ⟨x - nL F1, by rw [postL_len]; omega⟩
    rw [postL_app0, fstOf_shift (by rw [postL_len] at *; rw [nL_append] at h2; omega), postL_len]; omega
  · intro x h1 h2
    obtain ⟨d, rfl⟩ : ∃ d, x = d + (postL 0 G1).length := ⟨x - nL G1, by rw [postL_len]; omega⟩
    rw [postL_app0, fstOf_shift (by rw [postL_len] at *; rw [nL_append] at h2; omega), postL_len]; omega
theorem nil_fd (F : List T) : fd [] F = nL F := by unfold fd; rw [dist_l (by simp [nL])]; omega
theorem nL_one (t : T) : nL [t] = nT t := by simp [nL]
/-- A tree's last thing is itself. -/
theorem fd_snoc (F G : List T) (i j : Int) (k x k' x' : List UInt8) (ks ks' : List T) : ∃ A B, fd (F ++ [.mk i k x ks]) (G ++ [.mk j k' x' ks']) = min (min (A + 1) (B + 1)) (fd F G + fd ks ks' + (if k = k' ∧ x = x' then 0 else 1)) := by
  have e1 : postL 0 (F ++ [.mk i k x ks]) = postL 0 F ++ ((postL 0 ks).map (Th.add (postL 0 F).length) ++ [⟨k, x, nL F⟩]) := by
    rw [postL_append, postL_one, postT, postL_len, ← postL_shift]; simp
  have e2 : postL 0 (G ++ [.mk j k' x' ks']) = postL 0 G ++ ((postL 0 ks').map (Th.add (postL 0 G).length) ++ [⟨k', x', nL G⟩]) := by
    rw [postL_append, postL_one, postT, postL_len, ← postL_shift]; simp
  have n1 : nL (F ++ [.mk i k x ks]) = (nL F + nL ks) + 1 := by rw [nL_append, nL_one, nT]; omega
  have n2 : nL (G ++ [.mk j k' x' ks']) = (nL G + nL ks') + 1 := by rw [nL_append, nL_one, nT]; omega
  have l1 : (postL 0 F ++ (postL 0 ks).map (Th.add (postL 0 F).length)).length = nL F + nL ks := by simp [postL_len]
  have l2 : (postL 0 G ++ (postL 0 ks').map (Th.add (postL 0 G).length)).length = nL G + nL ks' := by simp [postL_len]
  unfold fd
  rw [e1, e2, n1, n2]
  have g1 : (postL 0 F ++ ((postL 0 ks).map (Th.add (postL 0 F).length) ++ [⟨k, x, nL F⟩]))[nL F + nL ks]? = some ⟨k, x, nL F⟩ := by
    rw [← List.append_assoc, List.getElem?_append_right (by omega), l1]; simp
  have g2 : (postL 0 G ++ ((postL 0 ks').map (Th.add (postL 0 G).length) ++ [⟨k', x', nL G⟩]))[nL G + nL ks']? = some ⟨k', x', nL G⟩ := by
    rw [← List.append_assoc, List.getElem?_append_right (by omega), l2]; simp
  have p1 := fstOf_get g1
  have p2 := fstOf_get g2
  simp only at p1 p2
  have u0 : unl (postL 0 F ++ ((postL 0 ks).map (Th.add (postL 0 F).length) ++ [⟨k, x, nL F⟩])) (postL 0 G ++ ((postL 0 ks').map (Th.add (postL 0 G).length) ++ [⟨k', x', nL G⟩])) (nL F + nL ks) (nL G + nL ks') = if k = k' ∧ x = x' then 0 else 1 := by
    unfold unl labAt; rw [g1, g2]; simp
  have s := dist_step (p := fstOf (postL 0 F ++ ((postL 0 ks).map (Th.add (postL 0 F).length) ++ [⟨k, x, nL F⟩]))) (q := fstOf (postL 0 G ++ ((postL 0 ks').map (Th.add (postL 0 G).length) ++ [⟨k', x', nL G⟩])))
    (u := unl (postL 0 F ++ ((postL 0 ks).map (Th.add (postL 0 F).length) ++ [⟨k, x, nL F⟩])) (postL 0 G ++ ((postL 0 ks').map (Th.add (postL 0 G).length) ++ [⟨k', x', nL G⟩])))
    (l1 := 0) (a := nL F + nL ks) (l2 := 0) (b := nL G + nL ks') (Nat.zero_le _) (by rw [p1]; omega) (Nat.zero_le _) (by rw [p2]; omega)
  rw [s, p1, p2, u0]
  have d1 := dist_left (postL 0 F) ((postL 0 ks).map (Th.add (postL 0 F).length) ++ [⟨k, x, nL F⟩]) (postL 0 G) ((postL 0 ks').map (Th.add (postL 0 G).length) ++ [⟨k', x', nL G⟩])
  have d2 : dist (fstOf (postL 0 F ++ ((postL 0 ks).map (Th.add (postL 0 F).length) ++ [⟨k, x, nL F⟩]))) (fstOf (postL 0 G ++ ((postL 0 ks').map (Th.add (postL 0 G).length) ++ [⟨k', x', nL G⟩])))
      (unl (postL 0 F ++ ((postL 0 ks).map (Th.add (postL 0 F).length) ++ [⟨k, x, nL F⟩])) (postL 0 G ++ ((postL 0 ks').map (Th.add (postL 0 G).length) ++ [⟨k', x', nL G⟩]))) (nL F) (nL F + nL ks) (nL G) (nL G + nL ks') = dist (fstOf (postL 0 ks)) (fstOf (postL 0 ks')) (unl (postL 0 ks) (postL 0 ks')) 0 (nL ks) 0 (nL ks') := by
    have := dist_shift (p := fstOf (postL 0 ks)) (q := fstOf (postL 0 ks')) (u := unl (postL 0 ks) (postL 0 ks')) (p' := fstOf (postL 0 F ++ ((postL 0 ks).map (Th.add (postL 0 F).length) ++ [⟨k, x, nL F⟩]))) (q' := fstOf (postL 0 G ++ ((postL 0 ks').map (Th.add (postL 0 G).length) ++ [⟨k', x', nL G⟩])))
      (u' := unl (postL 0 F ++ ((postL 0 ks).map (Th.add (postL 0 F).length) ++ [⟨k, x, nL F⟩])) (postL 0 G ++ ((postL 0 ks').map (Th.add (postL 0 G).length) ++ [⟨k', x', nL G⟩]))) (s1 := nL F) (s2 := nL G) _ (l1 := 0) (h1 := nL ks) (l2 := 0) (h2 := nL ks') (Nat.le_refl _) ?_ ?_ ?_
    · rw [← this]; congr 1 <;> omega
    · intro y _ hy
      rw [← List.append_assoc, fstOf_left (by rw [l1]; omega), show nL F = (postL 0 F).length by rw [postL_len], fstOf_shift (by rw [postL_len]; exact hy)]
    · intro y _ hy
      rw [← List.append_assoc, fstOf_left (by rw [l2]; omega), show nL G = (postL 0 G).length by rw [postL_len], fstOf_shift (by rw [postL_len]; exact hy)]
    · intro y z _ hy _ hz
      rw [← List.append_assoc, ← List.append_assoc, unl_left (by rw [l1]; omega) (by rw [l2]; omega)]
      unfold unl
      rw [show y + nL F = y + (postL 0 F).length by rw [postL_len], show z + nL G = z + (postL 0 G).length by rw [postL_len], labAt_shift, labAt_shift]
  simp only [postL_len] at d1
  simp only [postL_len] at d2 ⊢
  rw [d1, d2]
  exact ⟨_, _, rfl⟩
theorem fd_node (i j : Int) (k x k' x' : List UInt8) (ks ks' : List T) : fd [.mk i k x ks] [.mk j k' x' ks'] ≤ fd ks ks' + (if k = k' ∧ x = x' then 0 else 1) := by
  obtain ⟨A, B, h⟩ := fd_snoc [] [] i j k x k' x' ks ks'
  have e : fd [] [] = 0 := by rw [nil_fd]; rfl
  rw [e] at h
  simp only [List.nil_append] at h
  rw [h]; omega
/- Alike, but for numbers. -/
mutual
def likeT : T → T → Prop
  | .mk _ k x ks, .mk _ k' x' ks' => k = k' ∧ x = x' ∧ likeL ks ks'
def likeL : List T → List T → Prop
  | [], [] => True
  | t :: ts, t' :: ts' => likeT t t' ∧ likeL ts ts'
  | _, _ => False
end
mutual
theorem fd_likeT : ∀ t t' : T, likeT t t' → fd [t] [t'] = 0
  | .mk i k x ks, .mk j k' x' ks', h => by
    simp only [likeT] at h
    have := fd_node i j k x k' x' ks ks'
    rw [if_pos ⟨h.1, h.2.1⟩, fd_likeL ks ks' h.2.2] at this
    omega
theorem fd_likeL : ∀ ts ts' : List T, likeL ts ts' → fd ts ts' = 0
  | [], [], _ => by rw [nil_fd]; rfl
  | t :: ts, t' :: ts', h => by
    simp only [likeL] at h
    have := fd_append [t] ts [t'] ts'
    rw [fd_likeT t t' h.1, fd_likeL ts ts' h.2] at this
    simp only [List.singleton_append] at this
    omega
  | [], _ :: _, h => by simp [likeL] at h
  | _ :: _, [], h => by simp [likeL] at h
end
theorem nT_pos (t : T) : 0 < nT t := by cases t; simp [nT]
/-- What it costs to make one tree another. -/
def costT (a b : T) : Nat := fd [a] [b]
theorem costT_eq (a b : T) : costT a b = dist (fstOf (postT 0 a)) (fstOf (postT 0 b)) (unl (postT 0 a) (postT 0 b)) 0 (nT a) 0 (nT b) := by
  unfold costT fd; rw [postL_one, postL_one, nL_one, nL_one]
end Go.Cod

namespace Go.Cod
open Go Go.Proofs
set_option linter.all false
set_option maxRecDepth 10000

/-! Tables of numbers in a pool. -/
def numR (m : Nat) (g : Nat → Int) : List (List V) := (List.range m).map fun j => [V.int .i64 (g j)]
theorem numR_len (m : Nat) (g : Nat → Int) : (numR m g).length = m := by simp [numR]
theorem numR_get {m : Nat} (g : Nat → Int) {j : Nat} (h : j < m) : (numR m g)[j]? = some [.int .i64 (g j)] := by simp [numR, h]
theorem numR_zero {m : Nat} {g : Nat → Int} (h : ∀ j, g j = 0) : List.replicate m [V.int .i64 0] = numR m g := by
  apply List.ext_getElem?
  intro j
  by_cases hj : j < m
  · rw [numR_get g hj, List.getElem?_replicate, if_pos hj, h]
  · rw [List.getElem?_eq_none (by simp; omega), List.getElem?_eq_none (by rw [numR_len]; omega)]
def upd1 (g : Nat → Int) (j : Nat) (v : Int) : Nat → Int := fun y => if y = j then v else g y
def upd2 (f : Nat → Nat → Int) (i j : Nat) (v : Int) : Nat → Nat → Int := fun x y => if x = i ∧ y = j then v else f x y
theorem numR_set (m : Nat) (g : Nat → Int) (j : Nat) (v : Int) : (numR m g).set j [.int .i64 v] = numR m (upd1 g j v) := by
  apply List.ext_getElem?
  intro y
  rw [List.getElem?_set]
  by_cases hy : y < m
  · rw [numR_get (upd1 g j v) hy]
    by_cases e : j = y
    · subst e; rw [if_pos rfl, if_pos (by rw [numR_len]; exact hy)]; unfold upd1; rw [if_pos rfl]
    · rw [if_neg e, numR_get g hy]; unfold upd1; rw [if_neg (Ne.symm e)]
  · rw [List.getElem?_eq_none (l := numR m (upd1 g j v)) (by rw [numR_len]; omega)]
    split
    · rw [if_neg (by rw [numR_len]; omega)]
    · rw [List.getElem?_eq_none (by rw [numR_len]; omega)]
/-- A table's rows, as far as they are made. -/
def rootR (n : Nat) (bs : List Nat) (m : Nat) : List (List V) := bs.map (fun x => [V.dref x m m]) ++ List.replicate (n - bs.length) [.nils]
theorem rootR_get {n : Nat} {bs : List Nat} {m i x : Nat} (h : bs[i]? = some x) : (rootR n bs m)[i]? = some [.dref x m m] := by
  have hi := (List.getElem?_eq_some_iff.1 h).1
  unfold rootR
  rw [List.getElem?_append_left (by simpa using hi), List.getElem?_map, h]; rfl
theorem rootR_nil {n : Nat} {bs : List Nat} {m : Nat} (h : bs.length < n) : (rootR n bs m)[bs.length]? = some [.nils] := by
  unfold rootR
  rw [List.getElem?_append_right (by simp), List.length_map, Nat.sub_self, List.getElem?_replicate, if_pos (by omega)]
theorem rootR_set {n : Nat} {bs : List Nat} {m x : Nat} (h : bs.length < n) : (rootR n bs m).set bs.length [.dref x m m] = rootR n (bs ++ [x]) m := by
  unfold rootR
  obtain ⟨d, hd⟩ : ∃ d, n - bs.length = d + 1 := ⟨n - bs.length - 1, by omega⟩
  rw [List.set_append_right _ _ (by simp), hd, List.replicate_succ]
  simp only [List.length_map, Nat.sub_self, List.set_cons_zero, List.map_append, List.map_cons, List.map_nil, List.length_append, List.length_cons, List.length_nil, List.append_assoc, List.singleton_append]
  rw [show n - (bs.length + (0 + 1)) = d by omega]
structure Tab (es : List (List V)) (b n : Nat) (bs : List Nat) (m : Nat) (f : Nat → Nat → Int) : Prop where
  root : ent b n 1 (rootR n bs m) ∈ es
  row : ∀ (i x : Nat), bs[i]? = some x → ent x m 1 (numR m (f i)) ∈ es
  nd : (b :: bs).Nodup
  le : bs.length ≤ n
theorem lab_ent (b c s : Nat) (r : List (List V)) : labOf (ent b c s r) = b := rfl
theorem Tab.fresh {es b n bs m f} (h : Tab es b n bs m f) {x : Nat} (hx : ∀ e ∈ es, labOf e ≠ x) : x ∉ b :: bs := by
  intro hm
  rcases List.mem_cons.1 hm with rfl | hm
  · exact hx _ h.root rfl
  · obtain ⟨i, hi⟩ := List.getElem?_of_mem hm
    exact hx _ (h.row i x hi) rfl
theorem Tab.other {es b n bs m f} (h : Tab es b n bs m f) {x : Nat} (hx : x ∉ b :: bs) (r : List (List V)) : Tab (putEnt x r es) b n bs m f :=
  ⟨putEnt_other h.root (by rw [lab_ent]; rintro rfl; exact hx (by simp)), fun i y hi => putEnt_other (h.row i y hi) (by rw [lab_ent]; rintro rfl; exact hx (List.mem_cons_of_mem _ (List.mem_of_getElem? hi))), h.nd, h.le⟩
theorem Tab.put {es b n bs m f} (h : Tab es b n bs m f) {i x : Nat} (hi : bs[i]? = some x) (j : Nat) (v : Int) : Tab (putEnt x ((numR m (f i)).set j [.int .i64 v]) es) b n bs m (upd2 f i j v) := by
  have hnd := List.nodup_cons.1 h.nd
  refine ⟨putEnt_other h.root ?_, fun i' y hi' => ?_, h.nd, h.le⟩
  · rw [lab_ent]; rintro rfl; exact hnd.1 (List.mem_of_getElem? hi)
  · by_cases e : i' = i
    · subst e
      rw [hi] at hi'; cases hi'
      have := putEnt_mem (rows' := (numR m (f i')).set j [.int .i64 v]) (h.row i' x hi)
      rw [numR_set] at this ⊢
      rw [show upd2 f i' j v i' = upd1 (f i') j v by funext y; simp [upd2, upd1]]
      exact this
    · have hne : y ≠ x := by
        rintro rfl
        exact e ((List.getElem?_inj (List.getElem?_eq_some_iff.1 hi').1 hnd.2).1 (hi'.trans hi.symm))
      rw [show upd2 f i j v i' = f i' by funext y; simp [upd2, e]]
      exact putEnt_other (h.row i' y hi') (by rw [lab_ent]; exact hne)
theorem Tab.begin (es : List (List V)) (b n m : Nat) (f : Nat → Nat → Int) : Tab (es ++ [ent b n 1 (List.replicate n [.nils])]) b n [] m f :=
  ⟨List.mem_append_right _ (by simp [rootR]), fun i x hi => by simp at hi, by simp, Nat.zero_le _⟩
theorem Tab.grow {es b n bs m f} (h : Tab es b n bs m f) (hn : bs.length < n) (hf : ∀ j, f bs.length j = 0) {x : Nat} (hx : ∀ e ∈ es, labOf e ≠ x) :
    Tab (putEnt b ((rootR n bs m).set bs.length [.dref x m m]) (es ++ [ent x m 1 (List.replicate m [.int .i64 0])])) b n (bs ++ [x]) m f := by
  have hxb := h.fresh hx
  have hnd := List.nodup_cons.1 h.nd
  refine ⟨?_, fun i y hi => putEnt_other ?_ ?_, ?_, by simp; omega⟩
  · rw [rootR_set hn]
    exact putEnt_mem (List.mem_append_left _ h.root)
  · by_cases hi' : i < bs.length
    · rw [List.getElem?_append_left hi'] at hi
      exact List.mem_append_left _ (h.row i y hi)
    · rw [List.getElem?_append_right (by omega), List.getElem?_singleton] at hi
      split at hi
      · cases hi
        have : i = bs.length := by omega
        subst this
        rw [← numR_zero hf]
        simp
      · cases hi
  · rw [lab_ent]
    rintro rfl
    by_cases hi' : i < bs.length
    · rw [List.getElem?_append_left hi'] at hi
      exact hnd.1 (List.mem_of_getElem? hi)
    · rw [List.getElem?_append_right (by omega), List.getElem?_singleton] at hi
      split at hi
      · cases hi; exact hxb (by simp)
      · cases hi
  · rw [List.nodup_cons]
    refine ⟨?_, ?_⟩
    · intro hm
      rcases List.mem_append.1 hm with hm | hm
      · exact hnd.1 hm
      · simp at hm; subst hm; exact hxb (by simp)
    · rw [List.nodup_append]
      refine ⟨hnd.2, by simp, ?_⟩
      intro a ha c hc
      simp at hc; subst hc
      rintro rfl
      exact hxb (List.mem_cons_of_mem _ ha)
theorem Tab.at {es b n bs m f} (h : Tab es b n bs m f) {i : Nat} (hi : i < bs.length) : ∃ x, bs[i]? = some x ∧ (rootR n bs m)[i]? = some [.dref x m m] ∧ ent x m 1 (numR m (f i)) ∈ es := by
  have e := List.getElem?_eq_getElem hi
  exact ⟨_, e, rootR_get e, h.row _ _ e⟩
end Go.Cod

namespace Go.Cod
open Go Go.Proofs
set_option linter.all false
set_option maxRecDepth 10000

def mn (x y : Int) : Int := if y < x then y else x
theorem least_pure (x a b : Int) : Pure Tryd.prog 49 [.int .i64 x, .sl [[.int .i64 a], [.int .i64 b]]] (· = .int .i64 (mn (mn x a) b)) := by
  refine pure_of_awp good Tryd.func49 rfl (by kernel_rfl) (by decide) ?_
  conv => whnf
  refine loop_intro (fun n fr st => ∃ i : Nat, n + i = 2 ∧ st = [] ∧ ((i = 0 ∧ Holds fr [(0, .int .i64 x), (7, .sl [[.int .i64 a], [.int .i64 b]]), (8, .int .i64 2), (9, .int .i64 0)]) ∨
      (i = 1 ∧ Holds fr [(0, .int .i64 (mn x a)), (7, .sl [[.int .i64 a], [.int .i64 b]]), (8, .int .i64 2), (9, .int .i64 1)]) ∨ (i = 2 ∧ Holds fr [(0, .int .i64 (mn (mn x a) b)), (8, .int .i64 2), (9, .int .i64 2)]))) 2 ?_ ?_
  · exact ⟨0, rfl, rfl, .inl ⟨rfl, rfl, rfl, rfl, rfl, trivial⟩⟩
  rintro n fr st ⟨i, hi, rfl, ⟨rfl, hh⟩ | ⟨rfl, hh⟩ | ⟨rfl, hh⟩⟩
  · obtain ⟨fr, rfl⟩ := hh.split
    clear hh
    conv => whnf
    rw [ltB_t (by omega)]
    conv => whnf
    refine ⟨by omega, _, _, 1, rfl, rfl, rfl, rfl, ?_⟩
    conv => whnf
    refine semMin rfl rfl ?_
    conv => whnf
    refine ⟨n - 1, by omega, 1, by omega, rfl, .inr (.inl ⟨rfl, rfl, rfl, rfl, rfl, trivial⟩)⟩
  · obtain ⟨fr, rfl⟩ := hh.split
    clear hh
    conv => whnf
    rw [ltB_t (by omega)]
    conv => whnf
    refine ⟨by omega, _, _, 1, rfl, rfl, rfl, rfl, ?_⟩
    conv => whnf
    refine semMin rfl rfl ?_
    conv => whnf
    refine ⟨n - 1, by omega, 2, by omega, rfl, .inr (.inr ⟨rfl, rfl, rfl, rfl, trivial⟩)⟩
  · obtain ⟨fr, rfl⟩ := hh.split
    clear hh
    conv => whnf
    rw [ltB_f (by omega)]
    conv => whnf

def Th.cells (h : Th) : List V := [.str h.k, .str h.t, .int .i64 h.f]
def unH (a b : Th) : Nat := if a.k = b.k ∧ a.t = b.t then 0 else 1
theorem diffUnlike_pure (a b : Th) : Pure Tryd.prog 48 [.agg a.cells, .agg b.cells] (· = .int .i64 (unH a b)) := by
  obtain ⟨ak, at', af⟩ := a
  obtain ⟨bk, bt, bf⟩ := b
  refine pure_of_awp good Tryd.func48 rfl (by kernel_rfl) (by decide) ?_
  conv => whnf
  by_cases h1 : ak = bk
  · rw [eqS_t h1]
    conv => whnf
    by_cases h2 : at' = bt
    · rw [eqS_t h2]
      conv => whnf
      simp [unH, h1, h2]
    · rw [eqS_f h2]
      conv => whnf
      simp [unH, h1, h2]
  · rw [eqS_f h1]
    conv => whnf
    simp [unH, h1]
def thR (L : List Th) : List (List V) := L.map Th.cells
theorem thR_len (L : List Th) : (thR L).length = L.length := by simp [thR]
theorem thR_get {L : List Th} {i : Nat} {e : Th} (h : L[i]? = some e) : (thR L)[i]? = some e.cells := by simp [thR, h]
theorem thR_app (L M : List Th) : thR (L ++ M) = thR L ++ thR M := by simp [thR]
theorem diffTable_new (n m : Nat) (hn : n ≤ 1000000) (hm : m ≤ 1000000) : Full Tryd.prog noY 27 [.int .i64 n, .int .i64 m] [poolO []] fun o st' => ∃ b bs es, o = .ret (.dref b n n) ∧ st' = [poolO es] ∧ Tab es b n bs m (fun _ _ => 0) ∧ bs.length = n := by
  refine full_of_awp good Tryd.func27 rfl (by kernel_rfl) (by decide) ?_
  conv => whnf
  refine semMake (k := 0) (m := n) good rfl rfl rfl rfl rfl rfl rfl rfl (by show n * 24 ≤ _; omega) (by omega) fun b hb => ?_
  conv => whnf
  have hT := Tab.begin [] b n m (fun _ _ => 0)
  simp only [List.nil_append] at hT
  refine loop_drop (fun k fr st => ∃ bs es, k + bs.length = n ∧ st = [poolO es] ∧ Tab es b n bs m (fun _ _ => 0) ∧ Holds fr [(1, .int .i64 m), (5, .dref b n n), (10, .int .i64 n), (11, .int .i64 bs.length)]) n none ?_ ?_
  · exact ⟨[], _, rfl, rfl, hT, rfl, rfl, rfl, rfl, trivial⟩
  clear hT
  rintro k fr st ⟨bs, es, hk, rfl, hT, hh⟩
  obtain ⟨fr, rfl⟩ := hh.split
  clear hh
  conv => whnf
  by_cases hlt : bs.length < n
  · rw [ltB_t (by omega)]
    conv => whnf
    refine semMake (k := 0) (m := m) good rfl rfl rfl rfl rfl rfl rfl rfl (by show m * 8 ≤ _; omega) (by omega) fun x hx => ?_
    conv => whnf
    have hG := hT.grow hlt (fun _ => rfl) hx
    refine ⟨by omega, by omega, ?_⟩
    conv => whnf
    refine ⟨0, n, rootR n bs m, [.nils], _, List.mem_append_left _ hT.root, rootR_nil hlt, rfl, ?_⟩
    conv => whnf
    refine ⟨k - 1, by omega, none, bs ++ [x], _, by simp; omega, rfl, hG, rfl, rfl, rfl, ?_, trivial⟩
    show V.int .i64 (IntKind.i64.wrap (bs.length + 1)) = _
    rw [wrap64 (by omega) (by omega)]; simp
  · rw [ltB_f (by omega)]
    conv => whnf
    refine ⟨[], false, ?_⟩
    conv => whnf
    exact ⟨b, bs, es, rfl, rfl, hT, by have := hT.le; omega⟩
end Go.Cod

namespace Go.Cod
open Go Go.Proofs
set_option linter.all false
set_option maxRecDepth 10000

theorem nL_take (ks : List T) (i : Nat) (h : i < ks.length) : nL (ks.take (i + 1)) = nL (ks.take i) + nT ks[i] := by
  rw [List.take_succ_eq_append_getElem h, nL_append, nL_one]
theorem nL_take_le (ks : List T) (i : Nat) : nL (ks.take i) ≤ nL ks := by
  have := nL_append (ks.take i) (ks.drop i)
  rw [List.take_append_drop] at this; omega
theorem len_nL (ks : List T) : ks.length ≤ nL ks := by
  induction ks with
  | nil => simp [nL]
  | cons t ks ih => have := nT_pos t; simp only [nL, List.length_cons]; omega
theorem postL_take (n : Nat) (ks : List T) (i : Nat) (h : i < ks.length) : postL n (ks.take (i + 1)) = postL n (ks.take i) ++ postT (n + nL (ks.take i)) ks[i] := by
  rw [List.take_succ_eq_append_getElem h, postL_append, postL_one]
def ThN (t : T) (o : Out) (st' : St) : Prop := o = .ret (.own 0) ∧ st' = [⟨thR (postT 0 t), 3, true, true, false, .cell⟩]
def ThO (L : List Th) (t : T) (o : Out) (st' : St) : Prop := o = .ret (.own 1) ∧ st' = [⟨thR L, 3, false, true, false, .cell⟩, ⟨thR (L ++ postT L.length t), 3, true, true, false, .cell⟩]
set_option maxHeartbeats 800000 in
theorem diffThings_own1 (id : Int) (kind text : List UInt8) (kids : List T) (L : List Th) (hs : L.length + nL kids + 1 ≤ 1048576)
    (hT : ∀ t' ∈ kids, ∀ L : List Th, L.length + nT t' ≤ 1048576 → Full Tryd.prog noY 26 [.own 0, .agg t'.cells] [⟨thR L, 3, true, true, false, .cell⟩] (ThO L t')) :
    Full Tryd.prog noY 26 [.own 0, .agg (T.mk id kind text kids).cells] [⟨thR L, 3, true, true, false, .cell⟩] (ThO L (.mk id kind text kids)) := by
  have hlr := Go.Cod.rows_len kids
  have hkl := len_nL kids
  have hLl := thR_len L
  have hres : L ++ postT L.length (.mk id kind text kids) = (L ++ postL L.length kids) ++ [⟨kind, text, L.length⟩] := by simp [postT]
  unfold ThO
  rw [hres]
  clear hres
  refine full_of_awp good Tryd.func26 rfl (by kernel_rfl) (by decide) ?_
  conv => whnf
  refine loop_drop (fun n fr st => ∃ i : Nat, n + i = kids.length ∧
      ((i = 0 ∧ Holds fr [(0, .own 0), (3, .ptr 1 0 0), (5, .int .i64 L.length), (11, .sl (T.rows kids)), (12, .int .i64 kids.length), (13, .int .i64 i)] ∧ st = [⟨thR L, 3, true, true, false, .cell⟩, ⟨[(T.mk id kind text kids).cells], 4, true, true, true, .cell⟩]) ∨
       (0 < i ∧ Holds fr [(0, .own 2), (3, .ptr 1 0 0), (5, .int .i64 L.length), (11, .sl (T.rows kids)), (12, .int .i64 kids.length), (13, .int .i64 i)] ∧ st = [⟨thR L, 3, false, true, false, .cell⟩, ⟨[(T.mk id kind text kids).cells], 4, true, true, true, .cell⟩, ⟨thR (L ++ postL L.length (kids.take i)), 3, true, true, false, .cell⟩]))) kids.length none ?_ ?_
  · exact ⟨0, rfl, .inl ⟨rfl, ⟨rfl, rfl, by rw [← hLl]; rfl, rfl, by rw [← hlr]; rfl, rfl, trivial⟩, rfl⟩⟩
  rintro n fr st ⟨i, hi, ⟨rfl, hh, rfl⟩ | ⟨hi0, hh, rfl⟩⟩
  · obtain ⟨fr, rfl⟩ := hh.split
    clear hh
    conv => whnf
    by_cases hlt : 0 < kids.length
    · rw [ltB_t (by omega)]
      conv => whnf
      have hg := Go.Cod.rows_get kids 0 hlt
      have hc := hT kids[0] (List.getElem_mem _) L
      have hn := nL_take kids 0 hlt
      have hle := nL_take_le kids 1
      have hp := postL_take L.length kids 0 hlt
      simp only [List.take_zero, nL, Nat.zero_add, postL, List.nil_append, Nat.add_zero] at hn hp
      generalize kids[0] = t at hc hg hn hp
      obtain ⟨id', kind', text', kids'⟩ := t
      refine ⟨by omega, T.rows kids, _, 4, rfl, hg, rfl, rfl, ?_⟩
      conv => whnf
      refine ⟨[0], false, ?_⟩
      conv => whnf
      refine (hc (by omega)).mono ?_
      rintro o st' ⟨rfl, rfl⟩
      rw [← hp]
      conv => whnf
      refine ⟨n - 1, by omega, some [0, 1, 3], ?_⟩
      conv => whnf
      exact ⟨1, by omega, .inr ⟨by omega, ⟨rfl, rfl, rfl, rfl, rfl, rfl, trivial⟩, rfl⟩⟩
    · rw [ltB_f (by omega)]
      obtain rfl : kids = [] := List.eq_nil_of_length_eq_zero (by omega)
      conv => whnf
      refine ⟨fun m hm => by rw [List.mem_singleton.1 hm]; rfl, ?_⟩
      conv => whnf
      refine ⟨by show ((thR L).length + 1) * 40 ≤ _; omega, ?_⟩
      conv => whnf
      refine ⟨[3], false, ?_⟩
      conv => whnf
      refine ⟨rfl, ?_⟩
      simp only [postL, List.append_nil, thR_app]
      rfl
  · obtain ⟨fr, rfl⟩ := hh.split
    clear hh
    conv => whnf
    by_cases hlt : i < kids.length
    · rw [ltB_t (by omega)]
      conv => whnf
      have hg := Go.Cod.rows_get kids i hlt
      have hc := hT kids[i] (List.getElem_mem _) (L ++ postL L.length (kids.take i))
      have hn := nL_take kids i hlt
      have hle := nL_take_le kids (i + 1)
      have hp := postL_take L.length kids i hlt
      have hll : (L ++ postL L.length (kids.take i)).length = L.length + nL (kids.take i) := by simp [postL_len]
      rw [hll] at hc
      unfold ThO at hc
      rw [hll] at hc
      simp only [List.append_assoc, ← hp] at hc
      generalize kids[i] = t at hc hg hn
      obtain ⟨id', kind', text', kids'⟩ := t
      generalize L ++ postL L.length (kids.take i) = M at *
      refine ⟨by omega, T.rows kids, _, 4, rfl, hg, rfl, rfl, ?_⟩
      conv => whnf
      refine ⟨[2], false, ?_⟩
      conv => whnf
      refine (hc (by omega)).mono ?_
      rintro o st' ⟨rfl, rfl⟩
      conv => whnf
      refine ⟨n - 1, by omega, some [0, 1, 4], ?_⟩
      conv => whnf
      refine ⟨i + 1, by omega, .inr ⟨by omega, ⟨rfl, rfl, rfl, rfl, rfl, ?_, trivial⟩, rfl⟩⟩
      show V.int .i64 (IntKind.i64.wrap (i + 1)) = _
      rw [wrap64 (by omega) (by omega)]; simp
    · rw [ltB_f (by omega)]
      rw [List.take_of_length_le (by omega)]
      have hll : (thR (L ++ postL L.length kids)).length = L.length + nL kids := by rw [thR_len]; simp [postL_len]
      generalize hM : L ++ postL L.length kids = M at *
      conv => whnf
      refine ⟨fun m hm => by rw [List.mem_singleton.1 hm]; rfl, ?_⟩
      conv => whnf
      refine ⟨by show ((thR M).length + 1) * 40 ≤ _; omega, ?_⟩
      conv => whnf
      refine ⟨[4], false, ?_⟩
      conv => whnf
      refine ⟨rfl, ?_⟩
      rw [thR_app]
      rfl
set_option maxHeartbeats 800000 in
theorem diffThings_nil1 (id : Int) (kind text : List UInt8) (kids : List T) (hs : nL kids + 1 ≤ 1048576)
    (hT0 : ∀ t' ∈ kids, nT t' ≤ 1048576 → Full Tryd.prog noY 26 [.nils, .agg t'.cells] [] (ThN t'))
    (hT : ∀ t' ∈ kids, ∀ L : List Th, L.length + nT t' ≤ 1048576 → Full Tryd.prog noY 26 [.own 0, .agg t'.cells] [⟨thR L, 3, true, true, false, .cell⟩] (ThO L t')) :
    Full Tryd.prog noY 26 [.nils, .agg (T.mk id kind text kids).cells] [] (ThN (.mk id kind text kids)) := by
  have hlr := Go.Cod.rows_len kids
  have hkl := len_nL kids
  have hres : postT 0 (.mk id kind text kids) = postL 0 kids ++ [⟨kind, text, 0⟩] := by simp [postT]
  unfold ThN
  rw [hres]
  clear hres
  refine full_of_awp good Tryd.func26 rfl (by kernel_rfl) (by decide) ?_
  conv => whnf
  refine loop_drop (fun n fr st => ∃ i : Nat, n + i = kids.length ∧
      ((i = 0 ∧ Holds fr [(0, .nils), (3, .ptr 0 0 0), (5, .int .i64 0), (11, .sl (T.rows kids)), (12, .int .i64 kids.length), (13, .int .i64 i)] ∧ st = [⟨[(T.mk id kind text kids).cells], 4, true, true, true, .cell⟩]) ∨
       (0 < i ∧ Holds fr [(0, .own 1), (3, .ptr 0 0 0), (5, .int .i64 0), (11, .sl (T.rows kids)), (12, .int .i64 kids.length), (13, .int .i64 i)] ∧ st = [⟨[(T.mk id kind text kids).cells], 4, true, true, true, .cell⟩, ⟨thR (postL 0 (kids.take i)), 3, true, true, false, .cell⟩]))) kids.length none ?_ ?_
  · exact ⟨0, rfl, .inl ⟨rfl, ⟨rfl, rfl, rfl, rfl, by rw [← hlr]; rfl, rfl, trivial⟩, rfl⟩⟩
  rintro n fr st ⟨i, hi, ⟨rfl, hh, rfl⟩ | ⟨hi0, hh, rfl⟩⟩
  · obtain ⟨fr, rfl⟩ := hh.split
    clear hh
    conv => whnf
    by_cases hlt : 0 < kids.length
    · rw [ltB_t (by omega)]
      conv => whnf
      have hg := Go.Cod.rows_get kids 0 hlt
      have hc := hT0 kids[0] (List.getElem_mem _)
      have hn := nL_take kids 0 hlt
      have hle := nL_take_le kids 1
      have hp := postL_take 0 kids 0 hlt
      simp only [List.take_zero, nL, Nat.zero_add, postL, List.nil_append, Nat.add_zero] at hn hp
      unfold ThN at hc
      rw [← hp] at hc
      generalize kids[0] = t at hc hg hn
      obtain ⟨id', kind', text', kids'⟩ := t
      refine ⟨by omega, T.rows kids, _, 4, rfl, hg, rfl, rfl, ?_⟩
      conv => whnf
      refine .inr (.inl ⟨[], true, ?_⟩)
      conv => whnf
      refine (hc (by omega)).mono ?_
      rintro o st' ⟨rfl, rfl⟩
      conv => whnf
      refine ⟨n - 1, by omega, some [0, 2], ?_⟩
      conv => whnf
      exact ⟨1, by omega, .inr ⟨by omega, ⟨rfl, rfl, rfl, rfl, rfl, rfl, trivial⟩, rfl⟩⟩
    · rw [ltB_f (by omega)]
      obtain rfl : kids = [] := List.eq_nil_of_length_eq_zero (by omega)
      conv => whnf
      refine ⟨fun m hm => by rw [List.mem_singleton.1 hm]; rfl, ?_⟩
      conv => whnf
      refine ⟨by show 1 * 40 ≤ _; omega, .inr ⟨(by intro e; cases e), ?_⟩⟩
      conv => whnf
      refine ⟨[2], false, ?_⟩
      conv => whnf
      exact ⟨rfl, rfl⟩
  · obtain ⟨fr, rfl⟩ := hh.split
    clear hh
    conv => whnf
    by_cases hlt : i < kids.length
    · rw [ltB_t (by omega)]
      conv => whnf
      have hg := Go.Cod.rows_get kids i hlt
      have hc := hT kids[i] (List.getElem_mem _) (postL 0 (kids.take i))
      have hn := nL_take kids i hlt
      have hle := nL_take_le kids (i + 1)
      have hp := postL_take 0 kids i hlt
      unfold ThO at hc
      rw [postL_len] at hc
      rw [Nat.zero_add] at hp
      rw [← hp] at hc
      generalize kids[i] = t at hc hg hn
      obtain ⟨id', kind', text', kids'⟩ := t
      generalize postL 0 (kids.take i) = M at *
      refine ⟨by omega, T.rows kids, _, 4, rfl, hg, rfl, rfl, ?_⟩
      conv => whnf
      refine ⟨[1], false, ?_⟩
      conv => whnf
      refine (hc (by omega)).mono ?_
      rintro o st' ⟨rfl, rfl⟩
      conv => whnf
      refine ⟨n - 1, by omega, some [0, 3], ?_⟩
      conv => whnf
      refine ⟨i + 1, by omega, .inr ⟨by omega, ⟨rfl, rfl, rfl, rfl, rfl, ?_, trivial⟩, rfl⟩⟩
      show V.int .i64 (IntKind.i64.wrap (i + 1)) = _
      rw [wrap64 (by omega) (by omega)]; simp
    · rw [ltB_f (by omega)]
      rw [List.take_of_length_le (by omega)]
      have hll : (thR (postL 0 kids)).length = nL kids := by rw [thR_len]; simp [postL_len]
      generalize hM : postL 0 kids = M at *
      conv => whnf
      refine ⟨fun m hm => by rw [List.mem_singleton.1 hm]; rfl, ?_⟩
      conv => whnf
      refine ⟨by show ((thR M).length + 1) * 40 ≤ _; omega, ?_⟩
      conv => whnf
      refine ⟨[3], false, ?_⟩
      conv => whnf
      refine ⟨rfl, ?_⟩
      rw [thR_app]
      rfl
theorem diffThings_own (t : T) (ht : t.Small) : ∀ L : List Th, L.length + nT t ≤ 1048576 → Full Tryd.prog noY 26 [.own 0, .agg t.cells] [⟨thR L, 3, true, true, false, .cell⟩] (ThO L t) := by
  induction ht with
  | @mk id kind text kids g1 g2 g3 g4 g5 ih =>
    intro L hL
    simp only [nT] at hL
    exact diffThings_own1 id kind text kids L (by omega) ih
theorem diffThings_nil (t : T) (ht : t.Small) (hn : nT t ≤ 1048576) : Full Tryd.prog noY 26 [.nils, .agg t.cells] [] (ThN t) := by
  induction ht with
  | @mk id kind text kids g1 g2 g3 g4 g5 ih =>
    simp only [nT] at hn
    exact diffThings_nil1 id kind text kids hn (fun t' h' h => ih t' h' h) (fun t' h' => diffThings_own t' (g5 t' h'))
end Go.Cod

namespace Go.Cod
open Go Go.Proofs
set_option linter.all false
set_option maxRecDepth 10000

theorem thR_ok (L : List Th) : V.clean.cleanLL 0 (thR L) = true ∧ (∀ e ∈ thR L, ∀ x ∈ e, x.leaf = true) ∧ ∀ e ∈ thR L, ∀ x ∈ e, x.flat = true := by
  have key : ∀ e ∈ thR L, ∃ h : Th, e = h.cells := fun e he => by
    obtain ⟨h, _, rfl⟩ := List.mem_map.1 he
    exact ⟨h, rfl⟩
  refine ⟨?_, fun e he x hx => ?_, fun e he x hx => ?_⟩
  · rw [cleanLL_iff]
    intro e he
    obtain ⟨h, rfl⟩ := key e he
    rfl
  · obtain ⟨h, rfl⟩ := key e he
    simp [Th.cells] at hx
    rcases hx with rfl | rfl | rfl <;> rfl
  · obtain ⟨h, rfl⟩ := key e he
    simp [Th.cells] at hx
    rcases hx with rfl | rfl | rfl <;> rfl
theorem diffThings_pure (t : T) (ht : t.Small) (hn : nT t ≤ 1048576) : Pure Tryd.prog 26 [.nils, .agg t.cells] (· = .sl (thR (postT 0 t))) := by
  obtain ⟨h1, h2, h3⟩ := thR_ok (postT 0 t)
  refine Full.own_pure (diffThings_nil t ht hn) h1 h2 h3 ?_
  cases t; rfl
end Go.Cod

namespace Go.Cod
open Go Go.Proofs
set_option linter.all false
variable [Lam]

/- The walk of a statement whose order is open, sealed: what comes behind it is proved once. -/
def drawR (P : Program) (ok : OkY) (τ : Tau) (ops : Array Oper) (fr : Nat → V) (st : St) (K : (Nat → V) → St → Prop) (Z : V → (Nat → V) → St → Prop) : Prop := (match hasHand τ ops with
        | true => withMat τ ops fun M CH => Chk (mix2Ok τ M CH ops) (aEOps2 P τ CH ops ops.toList 0 fr st fun fr => forcePlan (planOf M CH ops) fun plan => aXOps P ok τ ops plan K plan [] fr st)
        | false => (match orderOk ops with
          | true => aQOps P τ ops ops.toList fr st fun fr => K fr st
          | false => (match mixOk ops with
            | true => aEOps P τ ops ops.toList 0 fr st fun fr => aCOps P ok τ ops ops.toList 0 fr st K
            | false => withMat τ ops fun M CH => (match mix2Ok τ M CH ops with
              | true => aEOps2 P τ CH ops ops.toList 0 fr st fun fr => forcePlan (planOf M CH ops) fun plan => aXOps P ok τ ops plan K plan [] fr st
              | false => aAny P ok τ ops K Z ops.size [] fr st))))
abbrev WalkA := Program → OkY → Tau → Array Oper → List Oper → (Nat → V) → St → ((Nat → V) → St → Prop) → (V → (Nat → V) → St → Prop) → Prop
abbrev WalkX := Program → OkY → Tau → Array Oper → (Nat → V) → St → ((Nat → V) → St → Prop) → (V → (Nat → V) → St → Prop) → Prop
def awpX (A : WalkA) (X : WalkX) (P : Program) (ok : OkY) (τ : Tau) (nb : Nat) (c : Code) : (Ex → (Nat → V) → St → Prop) → (Nat → V) → St → Prop :=
  Code.rec (motive := fun _ => Nat → (Ex → (Nat → V) → St → Prop) → (Nat → V) → St → Prop)
    (fun _ Q fr st => Q .normal fr st)
    (fun _ ops d _ Q fr st => match d with
      | false => A P ok τ ops ops.toList fr st (Q .normal) (fun v => Q (.pan v))
      | true => X P ok τ ops fr st (Q .normal) (fun v => Q (.pan v)))
    (fun _ _ iha ihb nb Q fr st => iha nb (AThen (ihb nb Q) Q) fr st)
    (fun c _ _ iha ihb nb Q fr st => ACond (ev fr c) (iha nb Q fr st) (ihb nb Q fr st))
    (fun id _ ih nb Q fr st => ih nb (ABlock id Q) fr st)
    (fun _ ih nb Q fr st => ∃ (J : Nat → (Nat → V) → St → Prop) (n : Nat) (flag : Bool) (s0 : Option (List Nat)), cmp nb s0 fr st (J n) ∧
      ∀ n fr st, J n fr st → ih nb (AThen (ALoop nb flag J n) Q) fr st)
    (fun f ps _ _ ihx ihy _ Q fr st => (match ev fr f with
      | .fn g cap => ARange P g cap ps.size (fun Q vs st' => ihx st.length (AThen (ihy st.length Q) fun _ _ _ => False) (setPs ps.toList vs fr) st') Q fr st
      | _ => False))
    (fun id _ Q fr st => Q (.exit id) fr st)
    (fun _ _ _ _ _ _ => False)
    (fun _ _ _ _ _ => False)
    (fun _ _ _ _ _ => False)
    (fun _ Q fr st => Q .ret fr st)
    (fun _ _ _ _ _ => False) c nb
theorem full_of_draw {P : Program} {ok : OkY} {τ : Tau} (hτ : TauGood P τ) {f : FuncId} {fn : Func} {c : Code} {args : List V} {st0 : St} {R : Out → St → Prop}
    (hf : P.funcs[f]? = some fn) (hb : fn.body = some c) (hname : (fn.name == "runtime.NumGoroutine") = false) (hc : codeOk fn.ntmps c = true)
    (h : ∀ X, X = drawR → awpX aOps X P ok τ st0.length c (AEndF τ fn.results.toList st0.length R) (initFr args) st0) : Full P ok f args st0 R := full_of_awp hτ hf hb hname hc (h drawR rfl)
variable {X : WalkX} {P : Program} {ok : OkY} {τ : Tau} {ops : Array Oper} {fr : Nat → V} {st : St} {K : (Nat → V) → St → Prop} {Z : V → (Nat → V) → St → Prop}
/-- .. with the slots that are still looked at. -/
theorem draw_with (hX : X = drawR) (L : List (Nat × V)) (hh : Holds fr L) (h : ∀ C : (Nat → V) → St → Prop, (∀ fr st, K fr st → C fr st) → ∀ b, drawR P ok τ ops (setL b L) st C Z) : X P ok τ ops fr st K Z := by
  obtain ⟨b, rfl⟩ := hh.split
  rw [hX]
  exact h K (fun _ _ x => x) b
theorem draw_go (hX : X = drawR) (h : drawR P ok τ ops fr st K Z) : X P ok τ ops fr st K Z := by rw [hX]; exact h
end Go.Cod

namespace Go.Cod
open Go Go.Proofs
set_option linter.all false
set_option maxRecDepth 10000

def viewW (n m : Nat) (f : Nat → Nat → Int) : List (List V) := (List.range n).map fun a => [V.sl (numR m (f a))]
theorem viewW_get {n m : Nat} (f : Nat → Nat → Int) {a : Nat} (h : a < n) : (viewW n m f)[a]? = some [.sl (numR m (f a))] := by simp [viewW, h]
theorem viewW_len (n m : Nat) (f : Nat → Nat → Int) : (viewW n m f).length = n := by simp [viewW]
/-- What is known of a table of costs: the rows ahead of x, and of row x the places ahead of y. -/
structure Known (f : Nat → Nat → Int) (d : Nat → Nat → Nat) (r c x y : Nat) : Prop where
  done : ∀ a b, a ≤ r → b ≤ c → (a = 0 ∨ b = 0 ∨ a ≤ x ∨ (a = x + 1 ∧ b ≤ y)) → f a b = d a b
theorem wrapN (n : Nat) (h : n ≤ 1000000) : IntKind.i64.wrap (n : Int) = (n : Int) := wrap64 (by omega) (by omega)
theorem wrapA (n k : Nat) (h : n + k ≤ 1000000) : IntKind.i64.wrap ((n : Int) + (k : Int)) = ((n + k : Nat) : Int) := by rw [← wrapN (n + k) h]; simp
theorem wrapA1 (n : Nat) (h : n + 1 ≤ 1000000) : IntKind.i64.wrap ((n : Int) + 1) = ((n + 1 : Nat) : Int) := by rw [← wrapN (n + 1) h]; simp
theorem wrapS (n k : Nat) (h : n ≤ 1000000) (hk : k ≤ n) : IntKind.i64.wrap ((n : Int) - (k : Int)) = ((n - k : Nat) : Int) := by rw [← wrapN (n - k) (by omega)]; congr 1; omega
set_option maxHeartbeats 8000000 in
theorem diffWhole_run (D E : List Th) (i j left top r c : Nat) (di dj : Th) (g : Nat → Nat → Int) (d : Nat → Nat → Nat) (lD : D.length ≤ 1000) (lE : E.length ≤ 1000) (hi : D[i]? = some di) (hj : E[j]? = some dj) (hl : di.f = left) (ht : dj.f = top)
    (hir : left + r = i + 1) (hjc : top + c = j + 1) (hr1 : 1 ≤ r) (hc1 : 1 ≤ c) (h0 : ∀ x, d x 0 = x) (h1 : ∀ y, d 0 y = y) (hb : ∀ x y, x ≤ r → y ≤ c → d x y ≤ 2000)
    (hf : ∀ x a, x < r → D[left + x]? = some a → left ≤ a.f ∧ a.f ≤ left + x) (hf' : ∀ y b, y < c → E[top + y]? = some b → top ≤ b.f ∧ b.f ≤ top + y)
    (hs1 : ∀ x y a b, x < r → y < c → D[left + x]? = some a → E[top + y]? = some b → (left < a.f ∨ top < b.f) → ∃ w : Nat, g (left + x) (top + y) = w ∧ w ≤ 2000 ∧ d (x + 1) (y + 1) = min (min (d x (y + 1) + 1) (d (x + 1) y + 1)) (d (a.f - left) (b.f - top) + w))
    (hs2 : ∀ x y a b, x < r → y < c → D[left + x]? = some a → E[top + y]? = some b → a.f = left → b.f = top → d (x + 1) (y + 1) = min (min (d x (y + 1) + 1) (d (x + 1) y + 1)) (d x y + unH a b)) :
    Full Tryd.prog noY 28 [.sl (thR D), .sl (thR E), .int .i64 i, .int .i64 j, .sl (viewW D.length E.length g)] [poolO []] fun o st' => ∃ es, o = .ret (.int .i64 (d r c : Nat)) ∧ st' = [poolO es] := by
  have lhi : i < D.length := (List.getElem?_eq_some_iff.1 hi).1
  have lhj : j < E.length := (List.getElem?_eq_some_iff.1 hj).1
  have hti := thR_get hi
  have htj := thR_get hj
  obtain ⟨dik, dit, dif⟩ := di
  obtain ⟨djk, djt, djf⟩ := dj
  simp only at hl ht
  subst hl; subst ht
  have hdt := diffTable_new (r + 1) (c + 1) (by omega) (by omega)
  refine full_of_draw good Tryd.func28 rfl (by kernel_rfl) (by decide) fun X hX => ?_
  conv => whnf
  refine draw_go hX ?_
  conv => whnf
  refine ⟨by omega, _, _, 3, rfl, hti, rfl, rfl, ?_⟩
  conv => whnf
  refine ⟨by omega, _, _, 3, rfl, htj, rfl, rfl, ?_⟩
  conv => whnf
  rw [wrapS i dif (by omega) (by omega), wrapS j djf (by omega) (by omega), wrapA1 _ (by omega), wrapA1 _ (by omega), show i - dif + 1 = r by omega, show j - djf + 1 = c by omega]
  rw [wrapA1 r (by omega), wrapA1 c (by omega)]
  refine .inr (.inl ⟨[0], false, ?_⟩)
  conv => whnf
  refine hdt.mono ?_
  rintro o st' ⟨b, bs, es, rfl, rfl, hT, hbl⟩
  clear hdt hti htj
  have hw1 : V.int .i64 (IntKind.i64.wrap (r + 1)) = .int .i64 (r + 1 : Nat) := by rw [wrapA1 r (by omega)]
  have hw2 : V.int .i64 (IntKind.i64.wrap (c + 1)) = .int .i64 (c + 1 : Nat) := by rw [wrapA1 c (by omega)]
  conv => whnf
  -- the first column
  refine loop_drop (fun n fr st => ∃ (k : Nat) (es : List (List V)) (f : Nat → Nat → Int), n + k = r + 1 ∧ st = [poolO es] ∧ Tab es b (r + 1) bs (c + 1) f ∧ (∀ x, x < k → f x 0 = x) ∧
      Holds fr [(0, .sl (thR D)), (1, .sl (thR E)), (4, .sl (viewW D.length E.length g)), (11, .int .i64 dif), (12, .int .i64 djf), (13, .int .i64 r), (14, .int .i64 c), (15, .dref b (r + 1) (r + 1)), (47, .int .i64 (r + 1 : Nat)), (48, .int .i64 k)]) (r + 1) none ?_ ?_
  · exact ⟨0, es, _, rfl, rfl, hT, (fun x hx => absurd hx (Nat.not_lt_zero _)), rfl, rfl, rfl, rfl, rfl, rfl, rfl, rfl, hw1, rfl, trivial⟩
  clear hT es
  rintro n fr st ⟨k, es, f, hk, rfl, hT, hF, hh⟩
  obtain ⟨fr, rfl⟩ := hh.split
  clear hh
  conv => whnf
  by_cases hlt : k < r + 1
  · rw [ltB_t (by omega)]
    conv => whnf
    obtain ⟨x, hx, hx1, hx2⟩ := hT.at (i := k) (by omega)
    refine ⟨by omega, by omega, ?_⟩
    conv => whnf
    refine ⟨0, r + 1, _, _, hT.root, hx1, ?_⟩
    conv => whnf
    refine ⟨by omega, by omega, ?_⟩
    conv => whnf
    refine ⟨0, c + 1, _, _, _, hx2, numR_get _ (by omega), rfl, ?_⟩
    conv => whnf
    refine ⟨n - 1, by omega, none, k + 1, _, _, by omega, rfl, hT.put hx 0 k, ?_, rfl, rfl, rfl, rfl, rfl, rfl, rfl, rfl, rfl, ?_, trivial⟩
    · intro x hx
      unfold upd2
      by_cases e : x = k
      · subst e; simp
      · rw [if_neg (fun h => e h.1)]; exact hF x (by omega)
    · show V.int .i64 (IntKind.i64.wrap (k + 1)) = _
      rw [wrapA1 k (by omega)]
  rw [ltB_f (by omega)]
  conv => whnf
  -- the first row
  replace hF : ∀ x, x < r + 1 → f x 0 = x := fun x hx => hF x (by omega)
  clear hlt hk
  refine loop_drop (fun n fr st => ∃ (k : Nat) (es : List (List V)) (f : Nat → Nat → Int), n + k = c + 1 ∧ st = [poolO es] ∧ Tab es b (r + 1) bs (c + 1) f ∧ (∀ x, x < r + 1 → f x 0 = x) ∧ (∀ y, y < k → f 0 y = y) ∧
      Holds fr [(0, .sl (thR D)), (1, .sl (thR E)), (4, .sl (viewW D.length E.length g)), (11, .int .i64 dif), (12, .int .i64 djf), (13, .int .i64 r), (14, .int .i64 c), (15, .dref b (r + 1) (r + 1)), (59, .int .i64 (c + 1 : Nat)), (60, .int .i64 k)]) (c + 1) none ?_ ?_
  · exact ⟨0, es, f, rfl, rfl, hT, hF, (fun x hx => absurd hx (Nat.not_lt_zero _)), rfl, rfl, rfl, rfl, rfl, rfl, rfl, rfl, hw2, rfl, trivial⟩
  clear hT hF es f fr
  rintro n fr st ⟨k, es, f, hk, rfl, hT, hF, hG, hh⟩
  obtain ⟨fr, rfl⟩ := hh.split
  clear hh
  conv => whnf
  by_cases hlt : k < c + 1
  · rw [ltB_t (by omega)]
    conv => whnf
    obtain ⟨x, hx, hx1, hx2⟩ := hT.at (i := 0) (by omega)
    refine ⟨by omega, by omega, ?_⟩
    conv => whnf
    refine ⟨0, r + 1, _, _, hT.root, hx1, ?_⟩
    conv => whnf
    refine ⟨by omega, by omega, ?_⟩
    conv => whnf
    refine ⟨0, c + 1, _, _, _, hx2, numR_get _ hlt, rfl, ?_⟩
    conv => whnf
    refine ⟨n - 1, by omega, none, k + 1, _, _, by omega, rfl, hT.put hx k k, ?_, ?_, rfl, rfl, rfl, rfl, rfl, rfl, rfl, rfl, rfl, ?_, trivial⟩
    · intro x hx
      unfold upd2
      by_cases e : x = 0 ∧ 0 = k
      · rw [if_pos e]; omega
      · rw [if_neg e]; exact hF x hx
    · intro y hy
      unfold upd2
      by_cases e : y = k
      · subst e; simp
      · rw [if_neg (fun h => e h.2)]; exact hG y (by omega)
    · show V.int .i64 (IntKind.i64.wrap (k + 1)) = _
      rw [wrapA1 k (by omega)]
  rw [ltB_f (by omega)]
  conv => whnf
  have hK : Known f d r c 0 0 := ⟨fun a b ha hb h => by
    rcases h with rfl | rfl | h | ⟨rfl, h⟩
    · rw [h1]; exact hG b (by omega)
    · rw [h0]; exact hF a (by omega)
    · obtain rfl : a = 0 := by omega
      rw [h1]; exact hG b (by omega)
    · obtain rfl : b = 0 := by omega
      rw [h0]; exact hF _ (by omega)⟩
  clear hlt hk hF hG
  -- row by row
  refine loop_drop (fun n fr st => ∃ (k : Nat) (es : List (List V)) (f : Nat → Nat → Int), n + k = r ∧ st = [poolO es] ∧ Tab es b (r + 1) bs (c + 1) f ∧ Known f d r c k 0 ∧
      Holds fr [(0, .sl (thR D)), (1, .sl (thR E)), (4, .sl (viewW D.length E.length g)), (11, .int .i64 dif), (12, .int .i64 djf), (13, .int .i64 r), (14, .int .i64 c), (15, .dref b (r + 1) (r + 1)), (70, .int .i64 r), (71, .int .i64 k)]) r none ?_ ?_
  · exact ⟨0, es, f, rfl, rfl, hT, hK, rfl, rfl, rfl, rfl, rfl, rfl, rfl, rfl, rfl, rfl, trivial⟩
  clear hT hK es f fr
  rintro n fr st ⟨k, es, f, hk, rfl, hT, hK, hh⟩
  obtain ⟨fr, rfl⟩ := hh.split
  clear hh
  conv => whnf
  by_cases hlt : k < r
  · rw [ltB_t (by omega)]
    conv => whnf
    refine loop_drop (fun n fr st => ∃ (l : Nat) (es : List (List V)) (f : Nat → Nat → Int), n + l = c ∧ st = [poolO es] ∧ Tab es b (r + 1) bs (c + 1) f ∧ Known f d r c k l ∧
      Holds fr [(0, .sl (thR D)), (1, .sl (thR E)), (4, .sl (viewW D.length E.length g)), (11, .int .i64 dif), (12, .int .i64 djf), (13, .int .i64 r), (14, .int .i64 c), (15, .dref b (r + 1) (r + 1)), (18, .int .i64 k), (70, .int .i64 r), (71, .int .i64 k), (74, .int .i64 c), (75, .int .i64 l)]) c none ?_ ?_
    · exact ⟨0, es, f, rfl, rfl, hT, hK, rfl, rfl, rfl, rfl, rfl, rfl, rfl, rfl, rfl, rfl, rfl, rfl, rfl, trivial⟩
    clear hT hK es f fr
    rintro m fr st ⟨l, es, f, hl, rfl, hT, hK, hh⟩
    obtain ⟨fr, rfl⟩ := hh.split
    clear hh
    conv => whnf
    by_cases hltc : l < c
    · rw [ltB_t (by omega)]
      conv => whnf
      obtain ⟨was, hwas⟩ : ∃ a, D[dif + k]? = some a := ⟨_, List.getElem?_eq_getElem (by omega)⟩
      obtain ⟨is, his⟩ : ∃ a, E[djf + l]? = some a := ⟨_, List.getElem?_eq_getElem (by omega)⟩
      have e1 := hf k was hlt hwas
      have e2 := hf' l is hltc his
      have e3 := hs1 k l was is hlt hltc hwas his
      have e4 := hs2 k l was is hlt hltc hwas his
      have hun := diffUnlike_pure was is
      have htw := thR_get hwas
      have hti := thR_get his
      obtain ⟨wk, wt, wf⟩ := was
      obtain ⟨ik, it, jf⟩ := is
      simp only at e1 e2 e3 e4
      refine draw_with hX [(0, .sl (thR D)), (1, .sl (thR E)), (4, .sl (viewW D.length E.length g)), (11, .int .i64 dif), (12, .int .i64 djf), (13, .int .i64 r), (14, .int .i64 c), (15, .dref b (r + 1) (r + 1)), (18, .int .i64 k), (19, .int .i64 l), (70, .int .i64 r), (71, .int .i64 k), (74, .int .i64 c), (75, .int .i64 l)] ⟨rfl, rfl, rfl, rfl, rfl, rfl, rfl, rfl, rfl, rfl, rfl, rfl, rfl, rfl, trivial⟩ fun C hC fr => ?_
      have hwk := wrapA dif k (by omega)
      have hwl := wrapA djf l (by omega)
      have key : ∀ fr st, (Holds fr [(0, .sl (thR D)), (1, .sl (thR E)), (4, .sl (viewW D.length E.length g)), (11, .int .i64 dif), (12, .int .i64 djf), (13, .int .i64 r), (14, .int .i64 c), (15, .dref b (r + 1) (r + 1)), (18, .int .i64 k), (19, .int .i64 l), (20, .ptr 1 0 0), (21, .ptr 2 0 0), (70, .int .i64 r), (71, .int .i64 k), (74, .int .i64 c), (75, .int .i64 l)] ∧
            st = [poolO es, ⟨[[.str wk, .str wt, .int .i64 wf]], 3, true, true, true, .cell⟩, ⟨[[.str ik, .str it, .int .i64 jf]], 3, true, true, true, .cell⟩]) ∨
          (Holds fr [(0, .sl (thR D)), (1, .sl (thR E)), (4, .sl (viewW D.length E.length g)), (11, .int .i64 dif), (12, .int .i64 djf), (13, .int .i64 r), (14, .int .i64 c), (15, .dref b (r + 1) (r + 1)), (18, .int .i64 k), (19, .int .i64 l), (20, .ptr 2 0 0), (21, .ptr 1 0 0), (70, .int .i64 r), (71, .int .i64 k), (74, .int .i64 c), (75, .int .i64 l)] ∧
            st = [poolO es, ⟨[[.str ik, .str it, .int .i64 jf]], 3, true, true, true, .cell⟩, ⟨[[.str wk, .str wt, .int .i64 wf]], 3, true, true, true, .cell⟩]) → C fr st := by
        rintro fr st hJ
        refine hC _ _ ?_
        clear hC
        obtain ⟨xk, hx0, hx1, hx2⟩ := hT.at (i := k) (by omega)
        obtain ⟨xk', hy0, hy1, hy2⟩ := hT.at (i := k + 1) (by omega)
        obtain ⟨xf, hz0, hz1, hz2⟩ := hT.at (i := wf - dif) (by omega)
        have hwk1 := wrapA1 k (by omega)
        have hwl1 := wrapA1 l (by omega)
        have hws1 := wrapS wf dif (by omega) (by omega)
        have hws2 := wrapS jf djf (by omega) (by omega)
        have k1 := hK.done k l (by omega) (by omega) (by omega)
        have k2 := hK.done k (l + 1) (by omega) (by omega) (by omega)
        have k3 := hK.done (k + 1) l (by omega) (by omega) (by omega)
        have k4 := hK.done (wf - dif) (jf - djf) (by omega) (by omega) (by omega)
        have b1 := hb k l (by omega) (by omega)
        have b2 := hb k (l + 1) (by omega) (by omega)
        have b3 := hb (k + 1) l (by omega) (by omega)
        have b4 := hb (wf - dif) (jf - djf) (by omega) (by omega)
        have bu : unH ⟨wk, wt, wf⟩ ⟨ik, it, jf⟩ ≤ 1 := by unfold unH; split <;> omega
        have hgw := viewW_get (m := E.length) g (show dif + k < D.length by omega)
        have hgn := numR_get (g (dif + k)) (show djf + l < E.length by omega)
        rcases hJ with ⟨hh, rfl⟩ | ⟨hh, rfl⟩
        all_goals
          obtain ⟨fr, rfl⟩ := hh.split
          clear hh
          conv => whnf
          refine draw_go hX ?_
          conv => whnf
          refine ⟨by omega, by omega, ?_⟩
          conv => whnf
          refine ⟨0, r + 1, _, _, hT.root, hx1, ?_⟩
          conv => whnf
          refine ⟨by omega, by omega, ?_⟩
          conv => whnf
          refine ⟨0, c + 1, _, _, hx2, numR_get _ (by omega), ?_⟩
          conv => whnf
          refine ⟨_, .inl hun, ?_⟩
          conv => whnf
          have hval : ∀ v : Nat, d (k + 1) (l + 1) = min (min (d k (l + 1) + 1) (d (k + 1) l + 1)) v → mn (mn (v : Int) (IntKind.i64.wrap (f k (l + 1) + 1))) (IntKind.i64.wrap (f (k + 1) l + 1)) = d (k + 1) (l + 1) := fun v hv => by
            rw [k2, k3, wrapA1 _ (by omega), wrapA1 _ (by omega)]
            unfold mn; split <;> split <;> omega
          have hfin : ∃ v : Nat, v ≤ 4000 ∧ d (k + 1) (l + 1) = min (min (d k (l + 1) + 1) (d (k + 1) l + 1)) v ∧ ((dif < wf ∨ djf < jf) → IntKind.i64.wrap (f (wf - dif) (jf - djf) + g (dif + k) (djf + l)) = v) ∧ (¬ (dif < wf ∨ djf < jf) → IntKind.i64.wrap (f k l + unH ⟨wk, wt, wf⟩ ⟨ik, it, jf⟩) = v) := by
            by_cases a : dif < wf ∨ djf < jf
            · obtain ⟨w, w1, w2, w3⟩ := e3 a
              exact ⟨_, by omega, w3, (fun _ => by rw [k4, w1, wrapA _ _ (by omega)]), fun h => absurd a h⟩
            · exact ⟨_, by omega, e4 (by omega) (by omega), (fun h => absurd h a), fun _ => by rw [k1, wrapA _ _ (by omega)]⟩
          obtain ⟨v, hv1, hv2, hv3, hv4⟩ := hfin
          have hvv := hval v hv2
          clear hval hv2 e3 e4 k1 k2 k3 k4
          by_cases a1 : dif < wf
          · rw [ltB_t (by omega)]
            conv => whnf
            refine draw_go hX ?_
            conv => whnf
            refine ⟨by rw [hws1]; omega, by rw [hws1]; omega, ?_⟩
            conv => whnf
            refine ⟨0, r + 1, _, _, hT.root, by rw [hws1]; exact hz1, ?_⟩
            conv => whnf
            refine ⟨by rw [hws2]; omega, by rw [hws2]; omega, ?_⟩
            conv => whnf
            refine ⟨0, c + 1, _, _, hz2, by rw [hws2]; exact numR_get _ (by omega), ?_⟩
            conv => whnf
            refine ⟨by rw [hwk]; omega, _, _, 1, rfl, by rw [hwk]; exact hgw, rfl, rfl, ?_⟩
            conv => whnf
            refine ⟨by rw [hwl]; omega, _, _, 1, rfl, by rw [hwl]; exact hgn, rfl, rfl, ?_⟩
            conv => whnf
            refine draw_with hX [(0, .sl (thR D)), (1, .sl (thR E)), (4, .sl (viewW D.length E.length g)), (11, .int .i64 dif), (12, .int .i64 djf), (13, .int .i64 r), (14, .int .i64 c), (15, .dref b (r + 1) (r + 1)), (18, .int .i64 k), (19, .int .i64 l), (22, .int .i64 v), (70, .int .i64 r), (71, .int .i64 k), (74, .int .i64 c), (75, .int .i64 l)] ⟨rfl, rfl, rfl, rfl, rfl, rfl, rfl, rfl, rfl, rfl, congrArg (V.int .i64) (hv3 (.inl a1)), rfl, rfl, rfl, rfl, trivial⟩ fun C hC fr => ?_
            have hend : ∀ fr st, (∃ (a1 a2 b1 b2 : List UInt8) (a3 b3 : Int) (o3 : List (List V)) (o4 : Bool), st = [poolO (putEnt xk' ((numR (c + 1) (f (k + 1))).set (l + 1) [.int .i64 (mn (mn (v : Int) (IntKind.i64.wrap (f k (l + 1) + 1))) (IntKind.i64.wrap (f (k + 1) l + 1)))]) es), ⟨[[.str a1, .str a2, .int .i64 a3]], 3, true, true, true, .cell⟩, ⟨[[.str b1, .str b2, .int .i64 b3]], 3, true, true, true, .cell⟩, ⟨o3, 1, true, o4, false, .cell⟩]) ∧ Holds fr [(0, .sl (thR D)), (1, .sl (thR E)), (4, .sl (viewW D.length E.length g)), (11, .int .i64 dif), (12, .int .i64 djf), (13, .int .i64 r), (14, .int .i64 c), (15, .dref b (r + 1) (r + 1)), (18, .int .i64 k), (70, .int .i64 r), (71, .int .i64 k), (74, .int .i64 c), (75, .int .i64 l)] → C fr st := by
              rintro fr st ⟨⟨a1, a2, b1, b2, a3, b3, o3, o4, rfl⟩, hh⟩
              obtain ⟨fr, rfl⟩ := hh.split
              refine hC _ _ ?_
              clear hC hh
              conv => whnf
              refine ⟨m - 1, by omega, some [0], ?_⟩
              conv => whnf
              refine ⟨l + 1, _, _, by omega, rfl, hT.put hy0 (l + 1) _, ⟨fun x y hx hy h => ?_⟩, rfl, rfl, rfl, rfl, rfl, rfl, rfl, rfl, rfl, rfl, rfl, rfl, ?_, trivial⟩
              · unfold upd2
                by_cases e : x = k + 1 ∧ y = l + 1
                · rw [if_pos e, e.1, e.2]; exact hvv
                · rw [if_neg e]; exact hK.done x y hx hy (by omega)
              · show V.int .i64 (IntKind.i64.wrap (l + 1)) = _
                rw [wrapA1 l (by omega)]
            conv => whnf
            refine ⟨by rw [hwk1]; omega, by rw [hwk1]; omega, ?_⟩
            conv => whnf
            refine ⟨0, r + 1, _, _, hT.root, by rw [hwk1]; exact hy1, ?_⟩
            conv => whnf
            refine ⟨by omega, by omega, ?_⟩
            conv => whnf
            refine ⟨0, r + 1, _, _, hT.root, hx1, ?_⟩
            conv => whnf
            refine ⟨by rw [hwl1]; omega, by rw [hwl1]; omega, ?_⟩
            conv => whnf
            refine ⟨0, c + 1, _, _, hx2, by rw [hwl1]; exact numR_get _ (by omega), ?_⟩
            conv => whnf
            refine ⟨by rw [hwk1]; omega, by rw [hwk1]; omega, ?_⟩
            conv => whnf
            refine ⟨0, r + 1, _, _, hT.root, by rw [hwk1]; exact hy1, ?_⟩
            conv => whnf
            refine ⟨by omega, by omega, ?_⟩
            conv => whnf
            refine ⟨0, c + 1, _, _, hy2, numR_get _ (by omega), ?_⟩
            conv => whnf
            refine ⟨[], false, ?_⟩
            conv => whnf
            refine Full.mono (least_pure v (IntKind.i64.wrap (f k (l + 1) + 1)) (IntKind.i64.wrap (f (k + 1) l + 1))) ?_
            rintro o st' ⟨rfl, rr, rfl, rfl⟩
            conv => whnf
            refine And.intro (by (conv => whnf); exact ⟨by rw [hwk1]; omega, by rw [hwk1]; omega, rfl⟩) ?_
            conv => whnf
            refine And.intro (by (conv => whnf); exact ⟨0, r + 1, rootR (r + 1) bs (c + 1), [.dref xk' (c + 1) (c + 1)], hT.root, by rw [hwk1]; exact hy1, rfl⟩) ?_
            conv => whnf
            refine ⟨by rw [hwl1]; omega, by rw [hwl1]; omega, ?_⟩
            conv => whnf
            refine ⟨0, c + 1, _, _, putEnt xk' ((numR (c + 1) (f (k + 1))).set (l + 1) [.int .i64 (mn (mn (v : Int) (IntKind.i64.wrap (f k (l + 1) + 1))) (IntKind.i64.wrap (f (k + 1) l + 1)))]) es, hy2, by rw [hwl1]; exact numR_get _ (by omega), by rw [hwl1]; rfl, ?_⟩
            conv => whnf
            refine hend _ _ ⟨⟨_, _, _, _, _, _, _, _, rfl⟩, rfl, rfl, rfl, rfl, rfl, rfl, rfl, rfl, rfl, rfl, rfl, rfl, rfl, trivial⟩
          · rw [ltB_f (by omega)]
            conv => whnf
            by_cases a2 : djf < jf
            · rw [ltB_t (by omega)]
              conv => whnf
              refine draw_go hX ?_
              conv => whnf
              refine ⟨by rw [hws1]; omega, by rw [hws1]; omega, ?_⟩
              conv => whnf
              refine ⟨0, r + 1, _, _, hT.root, by rw [hws1]; exact hz1, ?_⟩
              conv => whnf
              refine ⟨by rw [hws2]; omega, by rw [hws2]; omega, ?_⟩
              conv => whnf
              refine ⟨0, c + 1, _, _, hz2, by rw [hws2]; exact numR_get _ (by omega), ?_⟩
              conv => whnf
              refine ⟨by rw [hwk]; omega, _, _, 1, rfl, by rw [hwk]; exact hgw, rfl, rfl, ?_⟩
              conv => whnf
              refine ⟨by rw [hwl]; omega, _, _, 1, rfl, by rw [hwl]; exact hgn, rfl, rfl, ?_⟩
              conv => whnf
              refine draw_with hX [(0, .sl (thR D)), (1, .sl (thR E)), (4, .sl (viewW D.length E.length g)), (11, .int .i64 dif), (12, .int .i64 djf), (13, .int .i64 r), (14, .int .i64 c), (15, .dref b (r + 1) (r + 1)), (18, .int .i64 k), (19, .int .i64 l), (22, .int .i64 v), (70, .int .i64 r), (71, .int .i64 k), (74, .int .i64 c), (75, .int .i64 l)] ⟨rfl, rfl, rfl, rfl, rfl, rfl, rfl, rfl, rfl, rfl, congrArg (V.int .i64) (hv3 (.inr a2)), rfl, rfl, rfl, rfl, trivial⟩ fun C hC fr => ?_
              have hend : ∀ fr st, (∃ (a1 a2 b1 b2 : List UInt8) (a3 b3 : Int) (o3 : List (List V)) (o4 : Bool), st = [poolO (putEnt xk' ((numR (c + 1) (f (k + 1))).set (l + 1) [.int .i64 (mn (mn (v : Int) (IntKind.i64.wrap (f k (l + 1) + 1))) (IntKind.i64.wrap (f (k + 1) l + 1)))]) es), ⟨[[.str a1, .str a2, .int .i64 a3]], 3, true, true, true, .cell⟩, ⟨[[.str b1, .str b2, .int .i64 b3]], 3, true, true, true, .cell⟩, ⟨o3, 1, true, o4, false, .cell⟩]) ∧ Holds fr [(0, .sl (thR D)), (1, .sl (thR E)), (4, .sl (viewW D.length E.length g)), (11, .int .i64 dif), (12, .int .i64 djf), (13, .int .i64 r), (14, .int .i64 c), (15, .dref b (r + 1) (r + 1)), (18, .int .i64 k), (70, .int .i64 r), (71, .int .i64 k), (74, .int .i64 c), (75, .int .i64 l)] → C fr st := by
                rintro fr st ⟨⟨a1, a2, b1, b2, a3, b3, o3, o4, rfl⟩, hh⟩
                obtain ⟨fr, rfl⟩ := hh.split
                refine hC _ _ ?_
                clear hC hh
                conv => whnf
                refine ⟨m - 1, by omega, some [0], ?_⟩
                conv => whnf
                refine ⟨l + 1, _, _, by omega, rfl, hT.put hy0 (l + 1) _, ⟨fun x y hx hy h => ?_⟩, rfl, rfl, rfl, rfl, rfl, rfl, rfl, rfl, rfl, rfl, rfl, rfl, ?_, trivial⟩
                · unfold upd2
                  by_cases e : x = k + 1 ∧ y = l + 1
                  · rw [if_pos e, e.1, e.2]; exact hvv
                  · rw [if_neg e]; exact hK.done x y hx hy (by omega)
                · show V.int .i64 (IntKind.i64.wrap (l + 1)) = _
                  rw [wrapA1 l (by omega)]
              conv => whnf
              refine ⟨by rw [hwk1]; omega, by rw [hwk1]; omega, ?_⟩
              conv => whnf
              refine ⟨0, r + 1, _, _, hT.root, by rw [hwk1]; exact hy1, ?_⟩
              conv => whnf
              refine ⟨by omega, by omega, ?_⟩
              conv => whnf
              refine ⟨0, r + 1, _, _, hT.root, hx1, ?_⟩
              conv => whnf
              refine ⟨by rw [hwl1]; omega, by rw [hwl1]; omega, ?_⟩
              conv => whnf
              refine ⟨0, c + 1, _, _, hx2, by rw [hwl1]; exact numR_get _ (by omega), ?_⟩
              conv => whnf
              refine ⟨by rw [hwk1]; omega, by rw [hwk1]; omega, ?_⟩
              conv => whnf
              refine ⟨0, r + 1, _, _, hT.root, by rw [hwk1]; exact hy1, ?_⟩
              conv => whnf
              refine ⟨by omega, by omega, ?_⟩
              conv => whnf
              refine ⟨0, c + 1, _, _, hy2, numR_get _ (by omega), ?_⟩
              conv => whnf
              refine ⟨[], false, ?_⟩
              conv => whnf
              refine Full.mono (least_pure v (IntKind.i64.wrap (f k (l + 1) + 1)) (IntKind.i64.wrap (f (k + 1) l + 1))) ?_
              rintro o st' ⟨rfl, rr, rfl, rfl⟩
              conv => whnf
              refine And.intro (by (conv => whnf); exact ⟨by rw [hwk1]; omega, by rw [hwk1]; omega, rfl⟩) ?_
              conv => whnf
              refine And.intro (by (conv => whnf); exact ⟨0, r + 1, rootR (r + 1) bs (c + 1), [.dref xk' (c + 1) (c + 1)], hT.root, by rw [hwk1]; exact hy1, rfl⟩) ?_
              conv => whnf
              refine ⟨by rw [hwl1]; omega, by rw [hwl1]; omega, ?_⟩
              conv => whnf
              refine ⟨0, c + 1, _, _, putEnt xk' ((numR (c + 1) (f (k + 1))).set (l + 1) [.int .i64 (mn (mn (v : Int) (IntKind.i64.wrap (f k (l + 1) + 1))) (IntKind.i64.wrap (f (k + 1) l + 1)))]) es, hy2, by rw [hwl1]; exact numR_get _ (by omega), by rw [hwl1]; rfl, ?_⟩
              conv => whnf
              refine hend _ _ ⟨⟨_, _, _, _, _, _, _, _, rfl⟩, rfl, rfl, rfl, rfl, rfl, rfl, rfl, rfl, rfl, rfl, rfl, rfl, rfl, trivial⟩
            · rw [ltB_f (by omega)]
              conv => whnf
              refine draw_with hX [(0, .sl (thR D)), (1, .sl (thR E)), (4, .sl (viewW D.length E.length g)), (11, .int .i64 dif), (12, .int .i64 djf), (13, .int .i64 r), (14, .int .i64 c), (15, .dref b (r + 1) (r + 1)), (18, .int .i64 k), (19, .int .i64 l), (22, .int .i64 v), (70, .int .i64 r), (71, .int .i64 k), (74, .int .i64 c), (75, .int .i64 l)] ⟨rfl, rfl, rfl, rfl, rfl, rfl, rfl, rfl, rfl, rfl, congrArg (V.int .i64) (hv4 (by omega)), rfl, rfl, rfl, rfl, trivial⟩ fun C hC fr => ?_
              have hend : ∀ fr st, (∃ (a1 a2 b1 b2 : List UInt8) (a3 b3 : Int) (o3 : List (List V)) (o4 : Bool), st = [poolO (putEnt xk' ((numR (c + 1) (f (k + 1))).set (l + 1) [.int .i64 (mn (mn (v : Int) (IntKind.i64.wrap (f k (l + 1) + 1))) (IntKind.i64.wrap (f (k + 1) l + 1)))]) es), ⟨[[.str a1, .str a2, .int .i64 a3]], 3, true, true, true, .cell⟩, ⟨[[.str b1, .str b2, .int .i64 b3]], 3, true, true, true, .cell⟩, ⟨o3, 1, true, o4, false, .cell⟩]) ∧ Holds fr [(0, .sl (thR D)), (1, .sl (thR E)), (4, .sl (viewW D.length E.length g)), (11, .int .i64 dif), (12, .int .i64 djf), (13, .int .i64 r), (14, .int .i64 c), (15, .dref b (r + 1) (r + 1)), (18, .int .i64 k), (70, .int .i64 r), (71, .int .i64 k), (74, .int .i64 c), (75, .int .i64 l)] → C fr st := by
                rintro fr st ⟨⟨a1, a2, b1, b2, a3, b3, o3, o4, rfl⟩, hh⟩
                obtain ⟨fr, rfl⟩ := hh.split
                refine hC _ _ ?_
                clear hC hh
                conv => whnf
                refine ⟨m - 1, by omega, some [0], ?_⟩
                conv => whnf
                refine ⟨l + 1, _, _, by omega, rfl, hT.put hy0 (l + 1) _, ⟨fun x y hx hy h => ?_⟩, rfl, rfl, rfl, rfl, rfl, rfl, rfl, rfl, rfl, rfl, rfl, rfl, ?_, trivial⟩
                · unfold upd2
                  by_cases e : x = k + 1 ∧ y = l + 1
                  · rw [if_pos e, e.1, e.2]; exact hvv
                  · rw [if_neg e]; exact hK.done x y hx hy (by omega)
                · show V.int .i64 (IntKind.i64.wrap (l + 1)) = _
                  rw [wrapA1 l (by omega)]
              conv => whnf
              refine ⟨by rw [hwk1]; omega, by rw [hwk1]; omega, ?_⟩
              conv => whnf
              refine ⟨0, r + 1, _, _, hT.root, by rw [hwk1]; exact hy1, ?_⟩
              conv => whnf
              refine ⟨by omega, by omega, ?_⟩
              conv => whnf
              refine ⟨0, r + 1, _, _, hT.root, hx1, ?_⟩
              conv => whnf
              refine ⟨by rw [hwl1]; omega, by rw [hwl1]; omega, ?_⟩
              conv => whnf
              refine ⟨0, c + 1, _, _, hx2, by rw [hwl1]; exact numR_get _ (by omega), ?_⟩
              conv => whnf
              refine ⟨by rw [hwk1]; omega, by rw [hwk1]; omega, ?_⟩
              conv => whnf
              refine ⟨0, r + 1, _, _, hT.root, by rw [hwk1]; exact hy1, ?_⟩
              conv => whnf
              refine ⟨by omega, by omega, ?_⟩
              conv => whnf
              refine ⟨0, c + 1, _, _, hy2, numR_get _ (by omega), ?_⟩
              conv => whnf
              refine ⟨[], false, ?_⟩
              conv => whnf
              refine Full.mono (least_pure v (IntKind.i64.wrap (f k (l + 1) + 1)) (IntKind.i64.wrap (f (k + 1) l + 1))) ?_
              rintro o st' ⟨rfl, rr, rfl, rfl⟩
              conv => whnf
              refine And.intro (by (conv => whnf); exact ⟨by rw [hwk1]; omega, by rw [hwk1]; omega, rfl⟩) ?_
              conv => whnf
              refine And.intro (by (conv => whnf); exact ⟨0, r + 1, rootR (r + 1) bs (c + 1), [.dref xk' (c + 1) (c + 1)], hT.root, by rw [hwk1]; exact hy1, rfl⟩) ?_
              conv => whnf
              refine ⟨by rw [hwl1]; omega, by rw [hwl1]; omega, ?_⟩
              conv => whnf
              refine ⟨0, c + 1, _, _, putEnt xk' ((numR (c + 1) (f (k + 1))).set (l + 1) [.int .i64 (mn (mn (v : Int) (IntKind.i64.wrap (f k (l + 1) + 1))) (IntKind.i64.wrap (f (k + 1) l + 1)))]) es, hy2, by rw [hwl1]; exact numR_get _ (by omega), by rw [hwl1]; rfl, ?_⟩
              conv => whnf
              refine hend _ _ ⟨⟨_, _, _, _, _, _, _, _, rfl⟩, rfl, rfl, rfl, rfl, rfl, rfl, rfl, rfl, rfl, rfl, rfl, rfl, rfl, trivial⟩
      conv => whnf
      repeat' (first
        | (refine ⟨by rw [hwk]; omega, thR D, _, 3, rfl, (by rw [hwk]; exact htw), rfl, rfl, ?_⟩
           conv => whnf)
        | (refine ⟨by rw [hwl]; omega, thR E, _, 3, rfl, (by rw [hwl]; exact hti), rfl, rfl, ?_⟩
           conv => whnf)
        | (refine And.intro (by (conv => whnf); exact ⟨by rw [hwk]; omega, thR D, _, 3, rfl, (by rw [hwk]; exact htw), rfl, rfl, rfl⟩) ?_
           conv => whnf)
        | (refine And.intro (by (conv => whnf); exact ⟨by rw [hwl]; omega, thR E, _, 3, rfl, (by rw [hwl]; exact hti), rfl, rfl, rfl⟩) ?_
           conv => whnf)
        | (refine And.intro rfl ?_
           conv => whnf)
        | (refine And.intro ?_ ?_
           all_goals (conv => whnf)))
      all_goals first
        | exact key _ _ (.inl ⟨⟨rfl, rfl, rfl, rfl, rfl, rfl, rfl, rfl, rfl, rfl, rfl, rfl, rfl, rfl, rfl, rfl, trivial⟩, rfl⟩)
        | exact key _ _ (.inr ⟨⟨rfl, rfl, rfl, rfl, rfl, rfl, rfl, rfl, rfl, rfl, rfl, rfl, rfl, rfl, rfl, rfl, trivial⟩, rfl⟩)
    · rw [ltB_f (by omega)]
      conv => whnf
      refine ⟨n - 1, by omega, none, k + 1, es, f, by omega, rfl, hT, ⟨fun a b ha hb h => hK.done a b ha hb (by omega)⟩, rfl, rfl, rfl, rfl, rfl, rfl, rfl, rfl, rfl, ?_, trivial⟩
      show V.int .i64 (IntKind.i64.wrap (k + 1)) = _
      rw [wrapA1 k (by omega)]
  · rw [ltB_f (by omega)]
    conv => whnf
    obtain ⟨x, hx, hx1, hx2⟩ := hT.at (i := r) (by omega)
    refine ⟨by omega, by omega, ?_⟩
    conv => whnf
    refine ⟨0, r + 1, _, _, hT.root, hx1, ?_⟩
    conv => whnf
    refine ⟨by omega, by omega, ?_⟩
    conv => whnf
    refine ⟨0, c + 1, _, _, hx2, numR_get _ (by omega), ?_⟩
    conv => whnf
    have hfin := hK.done r c (by omega) (by omega) (by omega)
    refine ⟨[], false, ?_⟩
    conv => whnf
    exact ⟨es, by rw [← hfin]; rfl, rfl⟩
end Go.Cod

namespace Go.Cod
open Go Go.Proofs
set_option linter.all false
set_option maxRecDepth 10000
theorem unl_get {L M : List Th} {a b : Nat} {x y : Th} (h : L[a]? = some x) (h' : M[b]? = some y) : unl L M a b = unH x y := by
  unfold unl labAt unH
  rw [h, h']
  simp
/-- What stands in a table of costs: whole trees. -/
def treeD (D E : List Th) (a b : Nat) : Nat := dist (fstOf D) (fstOf E) (unl D E) (fstOf D a) (a + 1) (fstOf E b) (b + 1)
def cellD (D E : List Th) (l t x y : Nat) : Nat := dist (fstOf D) (fstOf E) (unl D E) l (l + x) t (t + y)
variable {D E : List Th} {l t : Nat}
theorem cellD_0 (x : Nat) : cellD D E l t x 0 = x := by unfold cellD; rw [dist_r (by omega)]; omega
theorem cellD_00 (y : Nat) : cellD D E l t 0 y = y := by unfold cellD; rw [dist_l (by omega)]; omega
theorem cellD_le (x y : Nat) : cellD D E l t x y ≤ x + y := by
  have := dist_le (p := fstOf D) (q := fstOf E) (u := unl D E) _ (l1 := l) (h1 := l + x) (l2 := t) (h2 := t + y) (Nat.le_refl _)
  unfold cellD; omega
theorem treeD_le (hD : Nest 0 D) (hE : Nest 0 E) {a b : Nat} (ha : a < D.length) (hb : b < E.length) : treeD D E a b ≤ D.length + E.length := by
  have := dist_le (p := fstOf D) (q := fstOf E) (u := unl D E) _ (l1 := fstOf D a) (h1 := a + 1) (l2 := fstOf E b) (h2 := b + 1) (Nat.le_refl _)
  have := hD.lamin.le a ha
  have := hE.lamin.le b hb
  unfold treeD; omega
/-- .. by the cost of the last trees as wholes; or, where these are all, of what is in them. -/
theorem cellD_tree (hD : Nest 0 D) (hE : Nest 0 E) {x y : Nat} {a b : Th} (ha : D[l + x]? = some a) (hb : E[t + y]? = some b) (h1 : l ≤ a.f) (h2 : t ≤ b.f) :
    cellD D E l t (x + 1) (y + 1) = min (min (cellD D E l t x (y + 1) + 1) (cellD D E l t (x + 1) y + 1)) (cellD D E l t (a.f - l) (b.f - t) + treeD D E (l + x) (t + y)) := by
  have la := (List.getElem?_eq_some_iff.1 ha).1
  have lb := (List.getElem?_eq_some_iff.1 hb).1
  have fa := fstOf_get ha
  have fb := fstOf_get hb
  have := dist_tree (u := unl D E) hD.lamin hE.lamin la lb (l1 := l) (l2 := t) (by omega) (by omega)
  unfold cellD treeD
  rw [← Nat.add_assoc, ← Nat.add_assoc, this, fa, fb, show l + (a.f - l) = a.f by omega, show t + (b.f - t) = b.f by omega]
theorem cellD_top (hD : Nest 0 D) (hE : Nest 0 E) {x y : Nat} {a b : Th} (ha : D[l + x]? = some a) (hb : E[t + y]? = some b) (h1 : a.f = l) (h2 : b.f = t) :
    cellD D E l t (x + 1) (y + 1) = min (min (cellD D E l t x (y + 1) + 1) (cellD D E l t (x + 1) y + 1)) (cellD D E l t x y + unH a b) := by
  have la := (List.getElem?_eq_some_iff.1 ha).1
  have lb := (List.getElem?_eq_some_iff.1 hb).1
  have fa := fstOf_get ha
  have fb := fstOf_get hb
  have := dist_step (p := fstOf D) (q := fstOf E) (u := unl D E) (l1 := l) (a := l + x) (l2 := t) (b := t + y) (by omega) (by omega) (by omega) (by omega)
  unfold cellD
  rw [← Nat.add_assoc, ← Nat.add_assoc, this, fa, fb, h1, h2, dist_l (l1 := l) (h1 := l) (Nat.le_refl _), unl_get ha hb]
  omega
/-- What is known of the table of whole trees, while i and j are at hand. -/
theorem diffWhole_full (D E : List Th) (i j : Nat) (g : Nat → Nat → Int) (hD : Nest 0 D) (hE : Nest 0 E) (lD : D.length ≤ 1000) (lE : E.length ≤ 1000) (hi : i < D.length) (hj : j < E.length)
    (hg : ∀ a b, a ≤ i → b ≤ j → (a < i ∨ b < j) → g a b = treeD D E a b) :
    Full Tryd.prog noY 28 [.sl (thR D), .sl (thR E), .int .i64 i, .int .i64 j, .sl (viewW D.length E.length g)] [poolO []] fun o st' => ∃ es, o = .ret (.int .i64 (treeD D E i j : Nat)) ∧ st' = [poolO es] := by
  have hdi := List.getElem?_eq_getElem hi
  have hdj := List.getElem?_eq_getElem hj
  have fi := fstOf_get hdi
  have fj := fstOf_get hdj
  have li := hD.lamin.le i hi
  have lj := hE.lamin.le j hj
  have ci := hD.lamin.closed hi
  have cj := hE.lamin.closed hj
  generalize D[i] = di at *
  generalize E[j] = dj at *
  have hfin : treeD D E i j = cellD D E di.f dj.f (i + 1 - di.f) (j + 1 - dj.f) := by
    unfold treeD cellD
    rw [fi, fj, show di.f + (i + 1 - di.f) = i + 1 by omega, show dj.f + (j + 1 - dj.f) = j + 1 by omega]
  rw [hfin]
  refine diffWhole_run D E i j di.f dj.f (i + 1 - di.f) (j + 1 - dj.f) di dj g (cellD D E di.f dj.f) lD lE hdi hdj rfl rfl (by omega) (by omega) (by omega) (by omega) cellD_0 cellD_00 (fun x y hx hy => by have := cellD_le (D := D) (E := E) (l := di.f) (t := dj.f) x y; omega)
    (fun x a hx ha => ?_) (fun y b hy hb => ?_) (fun x y a b hx hy ha hb h => ?_) (fun x y a b hx hy ha hb h1 h2 => cellD_top hD hE ha hb h1 h2)
  · have la := (List.getElem?_eq_some_iff.1 ha).1
    have := hD.lamin.le _ la
    have := ci (di.f + x) (by omega) (by omega)
    have := fstOf_get ha
    omega
  · have lb := (List.getElem?_eq_some_iff.1 hb).1
    have := hE.lamin.le _ lb
    have := cj (dj.f + y) (by omega) (by omega)
    have := fstOf_get hb
    omega
  · have la := (List.getElem?_eq_some_iff.1 ha).1
    have lb := (List.getElem?_eq_some_iff.1 hb).1
    have e1 := ci (di.f + x) (by omega) (by omega)
    have e2 := cj (dj.f + y) (by omega) (by omega)
    have f1 := fstOf_get ha
    have f2 := fstOf_get hb
    have hne : di.f + x < i ∨ dj.f + y < j := by
      rcases Nat.lt_or_ge (di.f + x) i with h' | h'
      · exact .inl h'
      · rcases Nat.lt_or_ge (dj.f + y) j with h'' | h''
        · exact .inr h''
        · exfalso
          have q1 : di.f + x = i := by omega
          have q2 : dj.f + y = j := by omega
          rw [q1] at f1; rw [q2] at f2
          omega
    refine ⟨treeD D E (di.f + x) (dj.f + y), hg _ _ (by omega) (by omega) hne, ?_, cellD_tree hD hE ha hb (by omega) (by omega)⟩
    have := treeD_le hD hE la lb
    omega
end Go.Cod

namespace Go.Cod
open Go Go.Proofs
set_option linter.all false
set_option maxRecDepth 10000

mutual
theorem ids_len : ∀ t : T, t.ids.length = nT t
  | .mk id k x ks => by simp only [T.ids, nT, List.length_cons, idsL_len ks]
theorem idsL_len : ∀ ts : List T, (T.idsL ts).length = nL ts
  | [] => rfl
  | t :: ts => by simp only [T.idsL, nL, List.length_append, ids_len t, idsL_len ts]
end
theorem okT_nT {t : T} (h : okT t = true) : nT t ≤ 20 := by
  unfold okT at h
  simp only [Bool.and_eq_true, decide_eq_true_eq] at h
  rw [← ids_len]; exact h.2
theorem numR_ok (m : Nat) (g : Nat → Int) : V.clean.cleanLL 0 (numR m g) = true ∧ (∀ e ∈ numR m g, ∀ x ∈ e, x.leaf = true) := by
  refine ⟨?_, fun e he x hx => ?_⟩
  · rw [cleanLL_iff]
    intro e he
    obtain ⟨j, _, rfl⟩ := List.mem_map.1 he
    rfl
  · obtain ⟨j, _, rfl⟩ := List.mem_map.1 he
    simp at hx; subst hx; rfl
theorem rootR_full {n m : Nat} {bs : List Nat} (h : bs.length = n) : rootR n bs m = bs.map fun x => [V.dref x m m] := by
  unfold rootR; rw [h]; simp
theorem Tab.view {es b n bs m f} (h : Tab es b n bs m f) (hn : bs.length = n) : View es (.dref b n n) (.sl (viewW n m f)) := by
  refine .dref (sz := 1) (rows := rootR n bs m) h.root (by rw [rootR_full hn, List.length_map, hn]) (by rw [viewW_len, rootR_full hn, List.length_map, hn]) ?_ ?_ (fun i r r' p q => ?_) (fun i r r' j x y p q u v => ?_)
  · rw [cleanLL_iff]
    intro e he
    obtain ⟨a, _, rfl⟩ := List.mem_map.1 he
    rfl
  · intro e he x hx
    obtain ⟨a, _, rfl⟩ := List.mem_map.1 he
    simp at hx; subst hx; rfl
  · have hi : i < n := by
      have := (List.getElem?_eq_some_iff.1 q).1
      rw [viewW_len] at this; exact this
    rw [viewW_get f hi] at q
    rw [rootR_full hn, List.getElem?_map, List.getElem?_eq_getElem (by omega)] at p
    cases p; cases q; rfl
  · have hi : i < n := by
      have := (List.getElem?_eq_some_iff.1 q).1
      rw [viewW_len] at this; exact this
    rw [viewW_get f hi] at q
    have hb := List.getElem?_eq_getElem (l := bs) (i := i) (by omega)
    rw [rootR_full hn, List.getElem?_map, hb] at p
    cases p; cases q
    have hj : j = 0 := by
      have := (List.getElem?_eq_some_iff.1 u).1
      simp at this; exact this
    subst hj
    simp at u v
    subst u; subst v
    refine .dref (sz := 1) (rows := numR m (f i)) (h.row i _ hb) (numR_len m (f i)).symm rfl (numR_ok m (f i)).1 (numR_ok m (f i)).2 (fun i r r' p q => ?_) (fun i r r' j x y p q u v => ?_)
    · rw [p] at q; cases q; rfl
    · rw [p] at q; cases q; rw [u] at v; cases v; exact .same _
theorem diffWhole_pure (D E : List Th) (i j : Nat) (g : Nat → Nat → Int) (hD : Nest 0 D) (hE : Nest 0 E) (lD : D.length ≤ 1000) (lE : E.length ≤ 1000) (hi : i < D.length) (hj : j < E.length)
    (hg : ∀ a b, a ≤ i → b ≤ j → (a < i ∨ b < j) → g a b = treeD D E a b) :
    Pure Tryd.prog 28 [.sl (thR D), .sl (thR E), .int .i64 i, .int .i64 j, .sl (viewW D.length E.length g)] (· = .int .i64 (treeD D E i j : Nat)) := by
  refine Full.freeze (Full.start (st0 := []) (diffWhole_full D E i j g hD hE lD lE hi hj hg)) ?_
  rintro o st' ⟨es, rfl, rfl⟩
  exact ⟨_, _, _, rfl, rfl, .same _, rfl, rfl⟩
theorem viewL5 {es : List (List V)} {x1 x2 x3 x4 x5 y1 y2 y3 y4 y5 : V} (h1 : View es x1 y1) (h2 : View es x2 y2) (h3 : View es x3 y3) (h4 : View es x4 y4) (h5 : View es x5 y5) : ViewL es [x1, x2, x3, x4, x5] [y1, y2, y3, y4, y5] := ⟨rfl, fun i a b p q => by
  match i, p, q with
  | 0, p, q => simp at p q; subst p; subst q; exact h1
  | 1, p, q => simp at p q; subst p; subst q; exact h2
  | 2, p, q => simp at p q; subst p; subst q; exact h3
  | 3, p, q => simp at p q; subst p; subst q; exact h4
  | 4, p, q => simp at p q; subst p; subst q; exact h5
  | i + 5, p, q => simp at p⟩
/-- What DiffCost answers. -/
def diffCost (a b : T) : Int := if okT a && okT b then (costT a b : Nat) else -1
theorem postT_last (t : T) : ∃ e, (postT 0 t)[nT t - 1]? = some e ∧ e.f = 0 := by
  obtain ⟨id, k, x, ks⟩ := t
  refine ⟨⟨k, x, 0⟩, ?_, rfl⟩
  simp only [postT, nT, Nat.add_sub_cancel]
  rw [List.getElem?_append_right (by rw [postL_len]; exact Nat.le_refl _), postL_len]
  simp
theorem costT_tree (a b : T) : costT a b = treeD (postT 0 a) (postT 0 b) (nT a - 1) (nT b - 1) := by
  obtain ⟨e, h1, h2⟩ := postT_last a
  obtain ⟨e', h1', h2'⟩ := postT_last b
  have ha := nT_pos a
  have hb := nT_pos b
  rw [costT_eq]
  unfold treeD
  rw [fstOf_get h1, fstOf_get h1', h2, h2', show nT a - 1 + 1 = nT a by omega, show nT b - 1 + 1 = nT b by omega]
set_option maxHeartbeats 8000000 in
theorem implDiffCost_full (a b : T) (ha : a.Small) (hb : b.Small) : Full Tryd.prog noY 10 [.agg a.cells, .agg b.cells] [poolO []] fun o st' => ∃ es, o = .ret (.int .i64 (diffCost a b)) ∧ st' = [poolO es] := by
  have h1 := implTreeOk a ha
  have h2 := implTreeOk b hb
  have hd : diffCost a b = if okT a && okT b then ((costT a b : Nat) : Int) else -1 := rfl
  have hla := @okT_nT a
  have hlb := @okT_nT b
  have hta := fun h => diffThings_pure a ha h
  have htb := fun h => diffThings_pure b hb h
  have hDn := postT_nest 0 a
  have hEn := postT_nest 0 b
  have hDl := postT_len 0 a
  have hEl := postT_len 0 b
  have hct := costT_tree a b
  have hpa := nT_pos a
  have hpb := nT_pos b
  generalize diffCost a b = R at *
  generalize okT a = ra at *
  generalize okT b = rb at *
  generalize postT 0 a = D at *
  generalize postT 0 b = E at *
  generalize nT a = n at *
  generalize nT b = m at *
  subst hDl; subst hEl
  rw [hct] at hd
  clear hct
  obtain ⟨ai, ak, ax, aks⟩ := a
  obtain ⟨bi, bk, bx, bks⟩ := b
  refine full_of_draw good Tryd.func10 rfl (by kernel_rfl) (by decide) fun X hX => ?_
  conv => whnf
  refine .inl (h1.mono ?_)
  rintro r rfl
  cases ra
  · conv => whnf
    refine ⟨[], false, ?_⟩
    conv => whnf
    exact ⟨[], by rw [hd]; rfl, rfl⟩
  conv => whnf
  refine .inl (h2.mono ?_)
  rintro r rfl
  cases rb
  · conv => whnf
    refine ⟨[], false, ?_⟩
    conv => whnf
    exact ⟨[], by rw [hd]; rfl, rfl⟩
  have hla := hla rfl
  have hlb := hlb rfl
  have hta := hta (by omega)
  have htb := htb (by omega)
  simp only [Bool.and_self, if_true] at hd
  have hnl := thR_len D
  have hml := thR_len E
  have hdt := diffTable_new D.length E.length (by omega) (by omega)
  conv => whnf
  refine draw_go hX ?_
  conv => whnf
  refine ⟨_, .inr ⟨[], [.nils, .agg (T.mk ai ak ax aks).cells], fun e he => (by cases he), viewL2 (.same _) (.same _), rfl, hta.mono fun r hr => ⟨by simp, hr⟩⟩, ?_⟩
  conv => whnf
  refine ⟨_, .inr ⟨[], [.nils, .agg (T.mk bi bk bx bks).cells], fun e he => (by cases he), viewL2 (.same _) (.same _), rfl, htb.mono fun r hr => ⟨by simp, hr⟩⟩, ?_⟩
  conv => whnf
  rw [hnl, hml]
  refine .inr (.inl ⟨[0], false, ?_⟩)
  conv => whnf
  refine hdt.mono ?_
  rintro o st' ⟨t, bs, es, rfl, rfl, hT, hbl⟩
  clear hdt
  conv => whnf
  refine loop_drop (fun k fr st => ∃ (i : Nat) (es : List (List V)) (g : Nat → Nat → Int), k + i = D.length ∧ st = [poolO es, ⟨[(T.mk ai ak ax aks).cells], 4, true, true, true, .cell⟩, ⟨[(T.mk bi bk bx bks).cells], 4, true, true, true, .cell⟩] ∧ Tab es t D.length bs E.length g ∧
      (∀ a b, a < D.length → b < E.length → a < i → g a b = treeD D E a b) ∧
      Holds fr [(5, .sl (thR D)), (6, .sl (thR E)), (7, .dref t D.length D.length), (28, .int .i64 D.length), (29, .int .i64 i)]) D.length none ?_ ?_
  · exact ⟨0, es, _, rfl, rfl, hT, (fun a b _ _ h => absurd h (Nat.not_lt_zero _)), rfl, rfl, rfl, by rw [← hnl]; rfl, rfl, trivial⟩
  clear hT es
  rintro k fr st ⟨i, es, g, hk, rfl, hT, hG, hh⟩
  obtain ⟨fr, rfl⟩ := hh.split
  clear hh
  conv => whnf
  by_cases hlt : i < D.length
  · rw [ltB_t (by omega)]
    conv => whnf
    refine loop_drop (fun k fr st => ∃ (j : Nat) (es : List (List V)) (g : Nat → Nat → Int), k + j = E.length ∧ st = [poolO es, ⟨[(T.mk ai ak ax aks).cells], 4, true, true, true, .cell⟩, ⟨[(T.mk bi bk bx bks).cells], 4, true, true, true, .cell⟩] ∧ Tab es t D.length bs E.length g ∧
        (∀ a b, a < D.length → b < E.length → (a < i ∨ (a = i ∧ b < j)) → g a b = treeD D E a b) ∧
        Holds fr [(5, .sl (thR D)), (6, .sl (thR E)), (7, .dref t D.length D.length), (8, .int .i64 i), (28, .int .i64 D.length), (29, .int .i64 i), (33, .int .i64 E.length), (34, .int .i64 j)]) E.length none ?_ ?_
    · exact ⟨0, es, _, rfl, rfl, hT, (fun a b h1 h2 h => hG a b h1 h2 (by omega)), rfl, rfl, rfl, rfl, rfl, rfl, by rw [← hml]; rfl, rfl, trivial⟩
    clear hT hG es g
    rintro k2 fr st ⟨j, es, g, hk2, rfl, hT, hG, hh⟩
    obtain ⟨fr, rfl⟩ := hh.split
    clear hh
    conv => whnf
    by_cases hltj : j < E.length
    · rw [ltB_t (by omega)]
      conv => whnf
      have hw := diffWhole_pure D E i j g hDn hEn (by omega) (by omega) hlt hltj (fun a b h1 h2 h => hG a b (by omega) (by omega) (by omega))
      have hv := hT.view hbl
      obtain ⟨x, hx, hx1, hx2⟩ := hT.at (i := i) (by omega)
      refine draw_go hX ?_
      conv => whnf
      refine ⟨by omega, by omega, ?_⟩
      conv => whnf
      refine ⟨0, D.length, _, _, hT.root, hx1, ?_⟩
      conv => whnf
      refine ⟨_, .inr ⟨es, [.sl (thR D), .sl (thR E), .int .i64 i, .int .i64 j, .sl (viewW D.length E.length g)], fun e he => ⟨0, he⟩, viewL5 (.same _) (.same _) (.same _) (.same _) hv, rfl, hw.mono fun r hr => ⟨by rw [hr]; rfl, hr⟩⟩, ?_⟩
      conv => whnf
      refine ⟨by omega, by omega, ?_⟩
      conv => whnf
      refine ⟨0, E.length, _, _, _, hx2, numR_get _ hltj, rfl, ?_⟩
      conv => whnf
      refine ⟨k2 - 1, by omega, none, j + 1, _, _, by omega, rfl, hT.put hx j (treeD D E i j : Nat), fun a b h1 h2 h => ?_, rfl, rfl, rfl, rfl, rfl, rfl, rfl, ?_, trivial⟩
      · unfold upd2
        by_cases e : a = i ∧ b = j
        · rw [if_pos e, e.1, e.2]
        · rw [if_neg e]; exact hG a b h1 h2 (by omega)
      · show V.int .i64 (IntKind.i64.wrap (j + 1)) = _
        rw [wrapA1 j (by omega)]
    · rw [ltB_f (by omega)]
      conv => whnf
      refine ⟨k - 1, by omega, none, i + 1, es, g, by omega, rfl, hT, fun a b h1 h2 h => hG a b h1 h2 (by omega), rfl, rfl, rfl, rfl, ?_, trivial⟩
      show V.int .i64 (IntKind.i64.wrap (i + 1)) = _
      rw [wrapA1 i (by omega)]
  · rw [ltB_f (by omega)]
    conv => whnf
    obtain ⟨x, hx, hx1, hx2⟩ := hT.at (i := D.length - 1) (by omega)
    have w1 := wrapS D.length 1 (by omega) (by omega)
    have w2 := wrapS E.length 1 (by omega) (by omega)
    rw [hnl]
    refine ⟨by show 0 ≤ IntKind.i64.wrap ((D.length : Int) - (1 : Nat)); rw [w1]; omega, by show (IntKind.i64.wrap ((D.length : Int) - (1 : Nat))).toNat < _; rw [w1]; omega, ?_⟩
    conv => whnf
    refine ⟨0, D.length, _, _, hT.root, by show _[(IntKind.i64.wrap ((D.length : Int) - (1 : Nat))).toNat]? = _; rw [w1]; exact hx1, ?_⟩
    conv => whnf
    rw [hml]
    refine ⟨by show 0 ≤ IntKind.i64.wrap ((E.length : Int) - (1 : Nat)); rw [w2]; omega, by show (IntKind.i64.wrap ((E.length : Int) - (1 : Nat))).toNat < _; rw [w2]; omega, ?_⟩
    conv => whnf
    refine ⟨0, E.length, _, _, hx2, by show _[(IntKind.i64.wrap ((E.length : Int) - (1 : Nat))).toNat]? = _; rw [w2]; exact numR_get _ (by omega), ?_⟩
    conv => whnf
    have hfin := hG (D.length - 1) (E.length - 1) (by omega) (by omega) (by omega)
    refine ⟨[], false, ?_⟩
    conv => whnf
    exact ⟨es, by rw [hd, ← hfin]; rfl, rfl⟩
theorem implDiffCost_pure (a b : T) (ha : a.Small) (hb : b.Small) : Pure Tryd.prog 10 [.agg a.cells, .agg b.cells] (· = .int .i64 (diffCost a b)) := by
  refine Full.freeze (Full.start (st0 := []) (implDiffCost_full a b ha hb)) ?_
  rintro o st' ⟨es, rfl, rfl⟩
  exact ⟨_, _, _, rfl, rfl, .same _, rfl, rfl⟩
end Go.Cod

namespace Go.Cod
open Go Go.Proofs Go.ChangeShapes Go.WideShapes Go.ChangeAt Go.RowKit
set_option linter.all false
set_option maxRecDepth 10000

theorem implTreeTexts_pure (t : T) (hs : t.Small) : Pure Tryd.prog 12 [.agg t.cells] (· = .sl (srows (textsOf t))) := by
  refine Full.freeze (implTreeTexts_new t hs) ?_
  rintro o st' ⟨h, h1, rfl, rfl⟩
  refine ⟨_, _, .sl (srows (textsOf t)), rfl, rfl, viewS _ h _ h1 (fun _ h => h), ?_, rfl⟩
  rcases h with _ | ⟨b, c⟩ <;> rfl
theorem wcWords_refl (ss : List (List UInt8)) (hl : ss.length ≤ 1048576) : Pure Tryd.prog 11 [.sl (srows ss), .sl (srows ss)] (· = .bool true) := by
  have hlr := srows_len ss
  have hg := srows_get ss
  refine pure_of_awp good Tryd.func11 rfl (by kernel_rfl) (by decide) ?_
  conv => whnf
  rw [eqB_refl]
  conv => whnf
  refine loop_intro (fun n fr st => ∃ i : Nat, n + i = ss.length ∧ st = [] ∧ Holds fr [(0, .sl (srows ss)), (1, .sl (srows ss)), (5, .int .i64 i)]) ss.length
    ⟨0, rfl, rfl, rfl, rfl, rfl, trivial⟩ ?_
  rintro n fr st ⟨i, hi, rfl, hh⟩
  obtain ⟨fr, rfl⟩ := hh.split
  clear hh
  conv => whnf
  by_cases hlt : i < ss.length
  · rw [ltB_t (by omega)]
    conv => whnf
    refine ⟨by omega, srows ss, _, 1, rfl, hg i hlt, rfl, rfl, ?_⟩
    conv => whnf
    refine ⟨by omega, srows ss, _, 1, rfl, hg i hlt, rfl, rfl, ?_⟩
    conv => whnf
    rw [eqS_refl]
    conv => whnf
    refine ⟨n - 1, by omega, i + 1, by omega, rfl, rfl, rfl, ?_, trivial⟩
    · show V.int .i64 (IntKind.i64.wrap (i + 1)) = _
      rw [wrap64 (by omega) (by omega)]; simp
  · rw [ltB_f (by omega)]
    conv => whnf
mutual
theorem fresh_like : ∀ (t : T) (k : Int), likeT t (t.fresh k)
  | .mk _ _ _ ks, k => by simp only [T.fresh, likeT]; exact ⟨trivial, trivial, fresh_likeL ks (k + 1)⟩
theorem fresh_likeL : ∀ (ts : List T) (k : Int), likeL ts (T.freshL ts k)
  | [], _ => by simp [T.freshL, likeL]
  | t :: ts, k => by simp only [T.freshL, likeL]; exact ⟨fresh_like t k, fresh_likeL ts _⟩
end
mutual
theorem fresh_again : ∀ (t : T) (j k : Int), (t.fresh j).fresh k = t.fresh k
  | .mk _ _ _ ks, j, k => by simp only [T.fresh, fresh_againL ks]
theorem fresh_againL : ∀ (ts : List T) (j k : Int), T.freshL (T.freshL ts j) k = T.freshL ts k
  | [], _, _ => rfl
  | t :: ts, j, k => by simp only [T.freshL, fresh_again t, fresh_againL ts, T.fresh_size]
end
mutual
theorem fresh_sp : ∀ (t : T) (k ov lv ov' : Int), ((spT (t.fresh k) ov' lv).filter hasTx).map txS = ((spT t ov lv).filter hasTx).map txS
  | .mk id kd x ks, k, ov, lv, ov' => by
    have h := fresh_spL ks (k + 1) id (IntKind.i64.wrap (lv + 1)) k
    simp only [T.fresh, spT, List.filter_cons]
    by_cases e : x = []
    · have h1 : ∀ i ks' o, hasTx (T.mk i kd x ks', o, lv) = false := fun i ks' o => by simp [hasTx, T.tx, e]
      rw [h1, h1]
      simp only [Bool.false_eq_true, if_false]
      exact h
    · have h1 : ∀ i ks' o, hasTx (T.mk i kd x ks', o, lv) = true := fun i ks' o => by simp [hasTx, T.tx, e]
      rw [h1, h1]
      simp only [if_true, List.map_cons]
      rw [h]; rfl
theorem fresh_spL : ∀ (ts : List T) (k ov lv ov' : Int), ((spL (T.freshL ts k) ov' lv).filter hasTx).map txS = ((spL ts ov lv).filter hasTx).map txS
  | [], _, _, _, _ => rfl
  | t :: ts, k, ov, lv, ov' => by
    simp only [T.freshL, spL, List.filter_append, List.map_append, fresh_sp t k ov lv ov', fresh_spL ts (k + t.size) ov lv ov']
end
theorem texts_fresh {t : T} (h : okT t = true) (h' : okT (t.fresh 1) = true) : textsOf (t.fresh 1) = textsOf t := by
  unfold textsOf
  rw [if_pos h, if_pos h']
  exact fresh_sp t 1 0 1 0
theorem texts_len (t : T) : (textsOf t).length ≤ 20 := by
  unfold textsOf
  by_cases h : okT t = true
  · rw [if_pos h, List.length_map]
    exact Nat.le_trans (List.length_filter_le _ _) ((okT_iff t).1 h).2.2
  · rw [if_neg h]; simp
mutual
theorem fresh_plain : ∀ (t : T) (k lv : Int), plainT t lv = true → 1 ≤ k → k + t.size ≤ 1000 → plainT (t.fresh k) lv = true
  | .mk id kind text kids, k, lv, h, h1, h2 => by
    simp only [plainT, Bool.and_eq_true, decide_eq_true_eq] at h
    simp only [T.size] at h2
    simp only [T.fresh, plainT, Bool.and_eq_true, decide_eq_true_eq]
    exact ⟨⟨⟨⟨h.1.1.1.1, by omega⟩, h.1.1.2⟩, h.1.2⟩, fresh_plainL kids (k + 1) (lv + 1) h.2 (by omega) (by omega)⟩
theorem fresh_plainL : ∀ (ts : List T) (k lv : Int), plainL ts lv = true → 1 ≤ k → k + T.sizeL ts ≤ 1000 → plainL (T.freshL ts k) lv = true
  | [], _, _, _, _, _ => rfl
  | t :: ts, k, lv, h, h1, h2 => by
    simp only [plainL, Bool.and_eq_true] at h
    simp only [T.sizeL] at h2
    simp only [T.freshL, plainL, Bool.and_eq_true]
    exact ⟨fresh_plain t k lv h.1 h1 (by push_cast at h2; omega), fresh_plainL ts (k + t.size) lv h.2 (by omega) (by push_cast at h2; omega)⟩
end
mutual
theorem fresh_ids : ∀ (t : T) (k : Int) (i : Nat), i < t.size → (t.fresh k).ids[i]? = some (k + i)
  | .mk id kind text kids, k, i, h => by
    simp only [T.size] at h
    simp only [T.fresh, T.ids]
    cases i with
    | zero => simp
    | succ i =>
      rw [List.getElem?_cons_succ, fresh_idsL kids (k + 1) i (by omega)]
      congr 1; push_cast; omega
theorem fresh_idsL : ∀ (ts : List T) (k : Int) (i : Nat), i < T.sizeL ts → (T.idsL (T.freshL ts k))[i]? = some (k + i)
  | [], _, _, h => by simp [T.sizeL] at h
  | t :: ts, k, i, h => by
    simp only [T.sizeL] at h
    simp only [T.freshL, T.idsL]
    have hl : (t.fresh k).ids.length = t.size := by rw [T.ids_size, T.fresh_size]
    by_cases hi : i < t.size
    · rw [List.getElem?_append_left (by omega), fresh_ids t k i hi]
    · rw [List.getElem?_append_right (by omega), hl, fresh_idsL ts (k + t.size) (i - t.size) (by omega)]
      congr 1; omega
end
theorem fresh_okT {t : T} (h : okT t = true) : okT (t.fresh 1) = true := by
  obtain ⟨h1, h2, h3⟩ := (okT_iff' t).1 h
  rw [T.ids_size] at h3
  have hl : (t.fresh 1).ids.length = t.size := by rw [T.ids_size, T.fresh_size]
  refine (okT_iff' _).2 ⟨fresh_plain t 1 1 h1 (by omega) (by omega), ?_, by omega⟩
  rw [List.nodup_iff_pairwise_ne, List.pairwise_iff_getElem]
  intro i j hi hj hij e
  have e1 := fresh_ids t 1 i (by omega)
  have e2 := fresh_ids t 1 j (by omega)
  rw [List.getElem?_eq_getElem hi, Option.some.injEq] at e1
  rw [List.getElem?_eq_getElem hj, Option.some.injEq] at e2
  omega
set_option maxHeartbeats 16000000 in
theorem law_fnTreeFresh (bs : List UInt8) : Pure Tryd.prog 3 [.sl (brows bs)] (· = .bool true) := by
  have hl := brows_len bs
  have hd := drawTreeFresh_pure bs
  refine pure_of_awp good Tryd.func3 rfl (by kernel_rfl) (by decide) ?_
  generalize brows bs = R at *
  conv => whnf
  by_cases a : 1048576 < R.length
  · rw [ltB_t (by omega)]
    conv => whnf
  rw [ltB_f (by omega)]
  conv => whnf
  refine .inl ((hd (by omega)).mono ?_)
  rintro r ⟨t, s1, s2, rfl⟩
  have hid := T.ids_size t
  have i1 := implTreeFresh_pure t s1 (by omega)
  have i2 := specTreeFresh_pure t s1 (by omega)
  have i3 := implTreeOk t s1
  have i4 := specTreeOk_pure t s1 (by omega)
  have i5 := implTreeTexts_pure t s1
  have hxs : (freshOf t).Small := by
    unfold freshOf
    split
    · exact T.fresh_small t 1 s1 (by omega) (by omega)
    · exact TZ_small
  have i6 := implTreeTexts_pure (freshOf t) hxs
  have i7 := implTreeOk (freshOf t) hxs
  have i8 := implDiffCost_pure t (freshOf t) s1 hxs
  have i9 := implTreeFresh_pure (freshOf t) hxs (by
    unfold freshOf
    split
    · rw [T.fresh_size]; omega
    · show 1 ≤ _; omega)
  have wx := wcTree_refl (freshOf t) hxs
  have ww := wcWords_refl (textsOf t) (by have := texts_len t; omega)
  have hX : okT t = true → okT (freshOf t) = true ∧ textsOf (freshOf t) = textsOf t ∧ freshOf (freshOf t) = freshOf t ∧ diffCost t (freshOf t) = 0 := fun h => by
    have e : freshOf t = t.fresh 1 := by unfold freshOf; rw [if_pos h]
    have h' := fresh_okT h
    rw [e]
    refine ⟨h', texts_fresh h h', ?_, ?_⟩
    · unfold freshOf; rw [if_pos h', fresh_again]
    · unfold diffCost
      rw [h, h', costT, fd_likeT _ _ (fresh_like t 1)]; rfl
  have hZ : okT t = false → (freshOf t).id = 0 := fun h => by unfold freshOf; rw [h]; rfl
  have heq : ∀ b : Bool, (!(b == b)) = false := by decide
  generalize diffCost t (freshOf t) = dc at *
  generalize textsOf (freshOf t) = tx2 at *
  generalize freshOf (freshOf t) = x2 at *
  generalize freshOf t = x at *
  generalize okT x = okx at *
  generalize okT t = okt at *
  cases okt with
  | false =>
    have hZ := hZ rfl
    obtain ⟨ti, tk, tx, tks⟩ := t
    obtain ⟨xi, xk, xx, xks⟩ := x
    simp only [T.id] at hZ
    conv => whnf
    refine .inl (i1.mono ?_)
    rintro r rfl
    conv => whnf
    refine ⟨_, .inl i2, ?_⟩
    conv => whnf
    refine ⟨_, .inl wx, ?_⟩
    conv => whnf
    refine ⟨_, .inl i3, ?_⟩
    conv => whnf
    refine ⟨_, .inl i4, ?_⟩
    conv => whnf
    refine .inl (i4.mono ?_)
    rintro r rfl
    conv => whnf
    rw [hZ, eqB_refl]
  | true =>
    obtain ⟨e1, e2, e3, e4⟩ := hX rfl
    subst e1; subst e2; subst e3; subst e4
    obtain ⟨ti, tk, tx, tks⟩ := t
    obtain ⟨xi, xk, xx, xks⟩ := x2
    conv => whnf
    refine .inl (i1.mono ?_)
    rintro r rfl
    conv => whnf
    refine ⟨_, .inl i2, ?_⟩
    conv => whnf
    refine ⟨_, .inl wx, ?_⟩
    conv => whnf
    refine ⟨_, .inl i3, ?_⟩
    conv => whnf
    refine ⟨_, .inl i4, ?_⟩
    conv => whnf
    refine .inl (i4.mono ?_)
    rintro r rfl
    conv => whnf
    refine ⟨_, .inl i7, ?_⟩
    conv => whnf
    refine ⟨_, .inl i8, ?_⟩
    conv => whnf
    rw [eqB_refl]
    conv => whnf
    refine ⟨_, .inl i9, ?_⟩
    conv => whnf
    refine ⟨_, .inl wx, ?_⟩
    conv => whnf
    refine ⟨_, .inl i5, ?_⟩
    conv => whnf
    refine ⟨_, .inl i6, ?_⟩
    conv => whnf
    refine ⟨_, .inl ww, ?_⟩
    conv => whnf

theorem lawFnTreeFresh (bs : List UInt8) : Pure Tryd.prog 3 [.sl (brows bs)] (· = .bool true) := law_fnTreeFresh bs
theorem conFnTreeFresh (H : Type) (enc : TypeId × Value → H) (W : World) (base : Nat) (args : Array Value) (ds gs : List (DataW H)) (before : List MemPlace)
    (hval : ∀ (j : Nat) t v, Tryd.f3.params[j]? = some t → args[j]? = some v → Value.okWide Tryd.prog W .any base t v)
    (hW : DataW.Whole enc Tryd.prog Tryd.f3.params.toList YtijfonhgojfmkaaDoor.Rows.fnTreeFreshSpec.vars false W args.toList ds gs before) {fresh handsOn again : Bool} :
    Calls Tryd.prog 3 args W fun e W' => ∃ v, e = .returned v ∧ YtijfonhgojfmkaaDoor.Rows.fnTreeFreshSpec.post enc Tryd.prog Tryd.f3 false fresh handsOn again W args v W' := by
  refine law_calls kids full (tb := 4) rfl Tryd.underlying4 (by decide +kernel) rfl hW (fun ds h => by match ds, h with | [_], _ => exact ⟨rfl, rfl, rfl⟩) hval
    (Ss := [fun x => ∃ bs : List UInt8, x = .sl (brows bs)]) laid0 ?_ ?_
  · rw [Tryd.params3]
    exact ⟨argBytes, trivial⟩
  · intro xs h
    obtain ⟨_, rfl, ⟨t0, rfl⟩⟩ := hold1 h
    exact lawFnTreeFresh t0

theorem doorFnTreeFresh (os : Os) (args : Array Value) : laidMetH Tryd.prog YtijfonhgojfmkaaDoor.Rows.fnTreeFreshRow.laid ((World.doorLaid Tryd.prog 400 os).forCall (fun _ _ => 0) ⟨#[], args, []⟩).memory :=
  laidMetH_of_parts3 (fuel := 8) (laidMet_of_run' 8 (by kernel_rfl) (by kernel_rfl)) (by kernel_rfl) (by kernel_rfl)

set_option maxRecDepth 100000 in
theorem rowFnTreeFresh : YtijfonhgojfmkaaDoor.Rows.FnTreeFreshSaid :=
  OpenClaim.holds_of_wide 3 Tryd.f3 rfl rfl rfl rfl rfl rfl rfl ⟨rfl, rfl, rfl, rfl, rfl⟩ rfl rfl rfl rfl rfl (by kernel_rfl) Tryd.func3 (by kernel_rfl)
    (of_decide_eq_true (by kernel_rfl)) (by unfold Func.isWrapper; first | (rw [if_pos (by decide +kernel)]; kernel_rfl) | (rw [if_neg (by decide +kernel)]; exact ⟨rfl, rfl⟩))
    (fun os started H enc _ => returnsInHanded_of_change_and (C := Tryd.checked) (X := fun w _ => laidMetH Tryd.prog YtijfonhgojfmkaaDoor.Rows.fnTreeFreshRow.laid w) (fun _ _ _ hh h => h.of_heap hh) ownK started (by kernel_rfl) Tryd.func3
      (ChangeSpec.witness_shaped (enc := enc) (C := Tryd.checked) (os := os) (X := fun w _ => laidMetH Tryd.prog YtijfonhgojfmkaaDoor.Rows.fnTreeFreshRow.laid w) false (World.doorLaid Tryd.prog 400 os) #[.slice none 0 0] 8 rfl (World.shaped_of_RefB (by kernel_rfl) (by kernel_rfl)) (by kernel_rfl) (by kernel_rfl) (by kernel_rfl) (doorFnTreeFresh os _))
      (fun W base args ds gs before hval hW _ _ _ _ => conFnTreeFresh H enc W base args ds gs before hval hW))

set_option maxRecDepth 100000 in
theorem overFnTreeFresh : YtijfonhgojfmkaaDoor.Rows.FnTreeFreshCardSaid :=
  Claim7.holds_tied_plain_at .later [] [.data, .data, .data] true (true, "c846ea8bafa81d770d2a7daee04d27b4b68068f7b370cc9f2a025746d8cd0317") false
    rowFnTreeFresh (fun _ h => by cases h) (by kernel_rfl) (fun _ h => by cases h) YtijfonhgojfmkaaDoor.fnTreeFresh_row_tie rfl ⟨rfl, rfl⟩ (by kernel_rfl) rfl
    (fun f fn hf hfn => by
      obtain rfl : f = 3 := Option.some.inj ((show Tryd.prog.funcNamed "loop.example/codicil/laws.FnTreeFresh" = some 3 by kernel_rfl).symm.trans hf) |>.symm
      obtain rfl : fn = Tryd.f3 := (Option.some.inj (Tryd.func3.symm.trans hfn)).symm
      exact ⟨by kernel_rfl, fun j t ht => by
        rw [Tryd.params3] at ht
        have hm : t ∈ ([22] : List Nat) := by simpa using Array.mem_of_getElem? ht
        have hall : (([22] : List Nat).all fun u => !Tryd.prog.wantsStandIn u) = true := by kernel_rfl
        exact (show Tryd.prog.wantsStandIn t = false by simpa using List.all_eq_true.1 hall t hm)⟩)
    (by kernel_rfl)
end Go.Cod

