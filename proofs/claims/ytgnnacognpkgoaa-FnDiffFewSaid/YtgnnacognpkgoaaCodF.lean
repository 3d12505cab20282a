/- Own texts. -/
import Derived.WalkKit
import Derived.ProofKit
import Derived.Test.YtgnnacognpkgoaaCodE
namespace Go.Cod
open Go Go.Proofs
set_option maxRecDepth 10000

theorem l2Copy_own (t : T) (ht : t.Small) :
    Full Try.prog noY 62 [.agg t.cells] [] (fun o st' => o = .ret (.agg [.int .i64 t.id, .str t.kind, .str t.text, kidsV t.kids 0]) ∧ st' = kidsO t.kids) := by
  have hT : ∀ t' ∈ t.kids, Pure Try.prog 62 [.agg t'.cells] (· = .agg t'.cells) := fun t' h => by
    cases ht with
    | mk g1 g2 g3 g4 g5 => exact l2Copy_pure t' (g5 t' h)
  cases ht with
  | @mk id kind text kids g1 g2 g3 g4 g5 =>
  simp only [T.kids, T.id, T.kind, T.text] at hT ⊢
  have hlr := Go.Cod.rows_len kids
  refine full_of_awp good Try.func62 rfl (by kernel_rfl) (by decide) ?_
  conv => whnf
  refine loop_drop (fun n fr st => ∃ i : Nat, n + i = kids.length ∧ Holds fr [(1, .ptr 0 0 0), (2, .ptr 1 0 0), (3, .ptr 2 0 0), (4, .int .i64 i)] ∧
      ((i = 0 ∧ st = [⟨[[.int .i64 id, .str kind, .str text, .sl (T.rows kids)]], 4, true, true, true, .cell⟩, ⟨[zrow], 4, true, true, true, .cell⟩, ⟨[[.int .i64 id, .str kind, .str text, .nils]], 4, true, true, true, .cell⟩]) ∨
       (0 < i ∧ st = [⟨[[.int .i64 id, .str kind, .str text, .sl (T.rows kids)]], 4, true, true, true, .cell⟩, ⟨[zrow], 4, true, true, true, .cell⟩, ⟨[[.int .i64 id, .str kind, .str text, .own 3]], 4, true, true, true, .cell⟩, ⟨T.rows (kids.take i), 4, true, true, false, .cell⟩]))) kids.length none
    ⟨0, rfl, ⟨rfl, rfl, rfl, rfl, trivial⟩, .inl ⟨rfl, rfl⟩⟩ ?_
  rintro n fr st ⟨i, hi, hh, hst⟩
  obtain ⟨fr, rfl⟩ := hh.split
  clear hh
  rcases hst with ⟨rfl, rfl⟩ | ⟨hi0, rfl⟩
  · conv => whnf
    by_cases hlt : 0 < kids.length
    · rw [hlr, ltB_t (by omega)]
      conv => whnf
      refine ⟨by omega, T.rows kids, kids[0].cells, 4, rfl, rows_get kids 0 hlt, rfl, Go.Cod.cells_len _, ?_⟩
      have hc := hT kids[0] (List.getElem_mem _)
      have htk := T.rows_take kids 0 hlt
      generalize kids[0] = t at hc htk
      cases t with
      | mk id' kind' text' kids' =>
      conv => whnf
      refine ⟨_, .inl hc, ?_⟩
      conv => whnf
      refine ⟨fun m hm => by rw [List.mem_singleton.1 hm]; rfl, ?_⟩
      conv => whnf
      refine ⟨by show 1 * 64 ≤ _; omega, .inr ⟨(by intro e; cases e), ?_⟩⟩
      conv => whnf
      refine ⟨n - 1, by omega, some [0, 1, 2, 4], ?_⟩
      conv => whnf
      refine ⟨1, by omega, ⟨rfl, rfl, rfl, rfl, trivial⟩, .inr ⟨by omega, ?_⟩⟩
      rw [htk]
      rfl
    · rw [hlr, ltB_f (by omega)]
      conv => whnf
      have : kids = [] := List.eq_nil_of_length_eq_zero (by omega)
      subst this
      refine ⟨[], true, ?_⟩
      conv => whnf
      exact ⟨rfl, rfl⟩
  · conv => whnf
    by_cases hlt : i < kids.length
    · rw [hlr, ltB_t (by omega)]
      conv => whnf
      refine ⟨by omega, T.rows kids, kids[i].cells, 4, rfl, rows_get kids i hlt, rfl, Go.Cod.cells_len _, ?_⟩
      have hc := hT kids[i] (List.getElem_mem _)
      have htk := T.rows_take kids i hlt
      generalize kids[i] = t at hc htk
      cases t with
      | mk id' kind' text' kids' =>
      conv => whnf
      refine ⟨_, .inl hc, ?_⟩
      conv => whnf
      refine ⟨fun m hm => by rw [List.mem_singleton.1 hm]; rfl, ?_⟩
      conv => whnf
      refine ⟨by
        show ((T.rows (kids.take i)).length + 1) * 64 ≤ _
        rw [Go.Cod.rows_len, List.length_take]; omega, ?_⟩
      conv => whnf
      refine ⟨n - 1, by omega, some [0, 1, 2, 5], ?_⟩
      conv => whnf
      refine ⟨i + 1, by omega, ⟨rfl, rfl, rfl, ?_, trivial⟩, .inr ⟨by omega, ?_⟩⟩
      · show V.int .i64 (IntKind.i64.wrap (i + 1)) = _
        rw [wrap64 (by omega) (by omega)]; simp
      · rw [htk]
        rfl
    · rw [hlr, ltB_f (by omega)]
      conv => whnf
      rw [List.take_of_length_le (by omega)]
      refine ⟨[3], true, ?_⟩
      conv => whnf
      obtain ⟨t0, ts, rfl⟩ : ∃ t0 ts, kids = t0 :: ts := by
        cases kids with
        | nil => simp at hi; omega
        | cons a b => exact ⟨a, b, rfl⟩
      exact ⟨rfl, rfl⟩
end Go.Cod

namespace Go.Cod
open Go Go.Proofs
set_option maxRecDepth 10000

/-- Twenty leaves. -/
def wideN : Nat → List T
  | 0 => []
  | i + 1 => wideN i ++ [.mk (600 + i) [112,97,114] [] []]
/-- Six above it. -/
def deepN (t : T) : Nat → T
  | 0 => t
  | i + 1 => .mk (500 + i) [120] [] [deepN t i]
/-- What spoiling may come to. -/
inductive SpoilOf : T → T → Prop
  | kid {id : Int} {kind text : List UInt8} {kids : List T} (i : Nat) (h : i < kids.length) (t' : T) (hs : SpoilOf kids[i] t') : SpoilOf (.mk id kind text kids) (.mk id kind text (kids.set i t'))
  | id {id : Int} {kind text : List UInt8} {kids : List T} (z : Int) (hz : z = 0 ∨ z = -1 ∨ z = 999 ∨ z = 1000 ∨ z = 1) : SpoilOf (.mk id kind text kids) (.mk z kind text kids)
  | word {id : Int} {kind text : List UInt8} {kids : List T} (k' x' : List UInt8) : SpoilOf (.mk id kind text kids) (.mk id k' x' kids)
  | twice {id : Int} {kind text : List UInt8} {kids : List T} : SpoilOf (.mk id kind text kids) (.mk id kind text (kids ++ [.mk id kind text kids]))
  | deep {t : T} : SpoilOf t (deepN t 6)
  | wide {id : Int} {kind text : List UInt8} {kids : List T} : SpoilOf (.mk id kind text kids) (.mk id kind text (kids ++ wideN 20))
theorem wide_snoc {xi id : Int} {xk xt kind text : List UInt8} {xs kids : List T} {i : Nat} (h : T.mk xi xk xt xs = .mk id kind text (kids ++ wideN i)) : T.mk xi xk xt (xs ++ [.mk (600 + i) [112,97,114] [] []]) = .mk id kind text (kids ++ wideN (i + 1)) := by
  cases h
  simp only [wideN, List.append_assoc]
def SpoilR (bs : List UInt8) (t : T) (p : Int) (o : Out) (st' : St) : Prop := ∃ (t' : T) (p' : Int), t'.Small ∧ ((t'.size : Int) ≤ 2 * t.size + 20 ∧ SpoilOf t t') ∧ p ≤ p' ∧ p' ≤ p + 2 * t.size + 2 ∧ o = .ret (.agg t'.cells) ∧ st' = [rdO bs p']
theorem size_pos (t : T) : 1 ≤ t.size := by cases t; simp [T.size]; try omega
theorem sizeL_get : ∀ (ts : List T) (i : Nat) (h : i < ts.length), ts[i].size ≤ T.sizeL ts
  | t :: ts, 0, _ => by simp [T.sizeL]
  | t :: ts, i + 1, h => by
    have := sizeL_get ts i (by simpa using h)
    simp [T.sizeL]; omega
theorem sizeL_set : ∀ (ts : List T) (i : Nat) (h : i < ts.length) (t' : T), T.sizeL (ts.set i t') + ts[i].size = T.sizeL ts + t'.size
  | t :: ts, 0, _, t' => by simp [T.sizeL]; omega
  | t :: ts, i + 1, h, t' => by
    have := sizeL_set ts i (by simpa using h) t'
    simp [T.sizeL]; omega
theorem length_le_sizeL : ∀ ts : List T, ts.length ≤ T.sizeL ts
  | [] => by simp
  | t :: ts => by
    have := length_le_sizeL ts
    have := size_pos t
    simp [T.sizeL]; omega
theorem rows_set (ts : List T) (i : Nat) (t' : T) : T.rows (ts.set i t') = (T.rows ts).set i t'.cells := by
  rw [T.rows_eq, T.rows_eq, List.map_set]
mutual
theorem softT : ∀ t : T, (V.agg t.cells).soft = .agg t.cells
  | .mk id kind text kids => by
    have h := softRows kids
    simp only [T.cells, V.soft, V.softL, h]
theorem softRows : ∀ ts : List T, V.softLL (T.rows ts) = T.rows ts
  | [] => rfl
  | t :: ts => by
    have h1 := softT t
    simp only [V.soft, V.agg.injEq] at h1
    simp only [T.rows, V.softLL, softRows ts, h1]
end
theorem softLL_append (a b : List (List V)) : V.softLL (a ++ b) = V.softLL a ++ V.softLL b := by simp [V.softLL_eq]
def kidsR (kids : List T) (R : List (List V)) : List O := match kids with
  | [] => []
  | _ :: _ => [⟨R, 4, true, true, false, .cell⟩]
/-- A spoilt tree, whose empty lists may still be nil. -/
def SpoilN (bs : List UInt8) (t : T) (p : Int) (o : Out) (st' : St) : Prop := ∃ (t' : T) (p' : Int), t'.Small ∧ ((t'.size : Int) ≤ 2 * t.size + 20 ∧ SpoilOf t t') ∧ p ≤ p' ∧ p' ≤ p + 2 * t.size + 2 ∧ (∃ v, o = .ret v ∧ v.soft = .agg t'.cells) ∧ st' = [rdO bs p']
def SpJ (bs : List UInt8) (q : Int) (o1 : O) (slot m sz : Nat) (F : Nat → T → Prop) (n : Nat) (fr : Nat → V) (st : St) : Prop := ∃ (x : T) (i : Nat) (R : List (List V)), n + i = m ∧ x.Small ∧ (x.size ≤ sz + i ∧ F i x) ∧ V.softLL R = T.rows x.kids ∧
  Holds fr [(0, .ptr 0 0 0), (4, .ptr 2 0 0), (5, .ptr 3 0 0), (slot, .int .i64 i)] ∧ st = [rdO bs q, o1, bxO zrow 4, bxO [.int .i64 x.id, .str x.kind, .str x.text, kidsV x.kids 4] 4] ++ kidsR x.kids R
set_option maxHeartbeats 8000000 in
theorem spoil_full (bs : List UInt8) (hb : bs.length ≤ 2000) (t : T) (ht : t.Small) : ∀ p : Int, 0 ≤ p → p + 2 * t.size + 2 ≤ 1073741824 → t.size ≤ 500000 →
    Full Try.prog noY 31 [.ptr 0 0 0, .agg t.cells] [rdO bs p] (SpoilR bs t p) := by
  induction ht with
  | @mk id kind text kids g1 g2 g3 g4 g5 ih =>
  intro p p0 p1 p2
  have hcp := l2Copy_own (.mk id kind text kids) (.mk g1 g2 g3 g4 g5)
  simp only [T.kids, T.id, T.kind, T.text] at hcp
  have hp2 := pick_full bs p 2 hb p0 (by omega)
  refine Full.soft (R := SpoilN bs (.mk id kind text kids) p) ?_ ?_
  rotate_left
  · rintro o st' ⟨t', p', h1, h2, h3, h4, ⟨v, rfl, hv⟩, rfl⟩
    exact ⟨t', p', h1, h2, h3, h4, by rw [← hv]; rfl, rfl⟩
  refine full_of_awp good Try.func31 rfl (by kernel_rfl) (by decide) ?_
  conv => whnf
  refine .inr (.inl ⟨[], false, ?_⟩)
  conv => whnf
  refine hcp.mono ?_
  rintro o st' ⟨rfl, rfl⟩
  have hpc : ∀ (q n : Int), 0 ≤ q → q ≤ 1073741824 → Full Try.prog noY 30 [.ptr 0 0 0, .int .i64 n] [rdO bs q] fun o st' => ∃ m : Int, 0 ≤ m ∧ (1 ≤ n → m < n) ∧ o = .ret (.int .i64 m) ∧ st' = [rdO bs (q + 1)] := fun q n h0 h1 => pick_full bs q n hb h0 h1
  have hsz : ((T.mk id kind text kids).size : Int) = 1 + T.sizeL kids := by simp [T.size]
  rw [hsz] at p1
  have hk5 : kids.length ≤ 500000 := Nat.le_trans (length_le_sizeL kids) (by simp only [T.size] at p2; omega)
  have hk6 : T.sizeL kids ≤ 500000 := by simp only [T.size] at p2; omega
  have five : ∀ c : Int, 0 ≤ c → c < 5 → ∃ z : Int, ((-9223372036854775808 ≤ z ∧ z ≤ 9223372036854775807) ∧ (z = 0 ∨ z = -1 ∨ z = 999 ∨ z = 1000 ∨ z = 1)) ∧ [[V.int .i64 0], [.int .i64 (-1)], [.int .i64 999], [.int .i64 1000], [.int .i64 1]][c.toNat]? = some [.int .i64 z] := fun c h0 h1 => by
    obtain ⟨n, rfl⟩ : ∃ n : Nat, c = n := ⟨c.toNat, by omega⟩
    have : n < 5 := by omega
    match n, this with
    | 0, _ => exact ⟨0, by omega, rfl⟩
    | 1, _ => exact ⟨-1, by omega, rfl⟩
    | 2, _ => exact ⟨999, by omega, rfl⟩
    | 3, _ => exact ⟨1000, by omega, rfl⟩
    | 4, _ => exact ⟨1, by omega, rfl⟩
  have hmany := l1Many_pure [116] 13 (by decide) (by decide) (by decide) (by decide)
  have hpure := l2Copy_pure (.mk id kind text kids) (.mk g1 g2 g3 g4 g5)
  have tail : ∀ (kk : List T) (q : Int), kk = kids → p + 1 ≤ q → q ≤ p + 2 →
      (∀ (z : Int) (kd tx : List UInt8), (-9223372036854775808 ≤ z ∧ z ≤ 9223372036854775807) → kd.length ≤ 1048576 → tx.length ≤ 1048576 → (T.mk z kd tx kk).Small ∧ ((T.mk z kd tx kk).size : Int) ≤ 2 * ((T.mk id kind text kk).size : Int) + 20) ∧
      (∀ x : T, x.Small → (x.size : Int) ≤ 1 + T.sizeL kk + 20 → (x.size : Int) ≤ 2 * ((T.mk id kind text kk).size : Int) + 20) ∧ q + 1 ≤ p + 2 * ((T.mk id kind text kk).size : Int) + 2 ∧ q ≤ p + 2 * ((T.mk id kind text kk).size : Int) + 2 := by
    intro kk q hkk h1 h2
    subst hkk
    have : ((T.mk id kind text kk).size : Int) = 1 + T.sizeL kk := by simp [T.size]
    refine ⟨fun z kd tx q1 q2 q3 => ⟨.mk q1 q2 q3 g4 g5, ?_⟩, fun x _ hx => by omega, by omega, by omega⟩
    have : ((T.mk z kd tx kk).size : Int) = 1 + T.sizeL kk := by simp [T.size]
    omega
  have hsm := T.Small.mk g1 g2 g3 g4 g5
  cases kids
  case' nil =>
    conv => whnf
    rw [ltB_f (by simp)]
    conv => whnf
    refine ⟨[0], false, ?_⟩
    conv => whnf
    refine (hpc p 6 p0 (by omega)).mono ?_
    rintro o st' ⟨c, c0, c1, rfl, rfl⟩
    obtain ⟨tl1, tl2, tl3, tl4⟩ := tail _ (p + 1) rfl (by omega) (by omega)
    have q0 : 0 ≤ p + 1 ∧ p + 1 ≤ 1073741822 ∧ p ≤ p + 1 := by omega
    generalize p + 1 = q at *
  case' cons k0 ks =>
    conv => whnf
    rw [ltB_t (by rw [Go.Cod.rows_len]; simp)]
    conv => whnf
    refine ⟨[0], false, ?_⟩
    conv => whnf
    refine hp2.mono ?_
    rintro o st' ⟨c, c0, c1, rfl, rfl⟩
    conv => whnf
    by_cases e0 : c = 0
    · rw [eqB_t e0]
      conv => whnf
      refine ⟨[0], false, ?_⟩
      conv => whnf
      refine (hpc (p + 1) _ (by omega) (by omega)).mono ?_
      rintro o st' ⟨c, c0, c1, rfl, rfl⟩
      have hlr := Go.Cod.rows_len (k0 :: ks)
      have hlk : (k0 :: ks).length = ks.length + 1 := rfl
      have c1 := c1 (by rw [hlr, hlk]; omega)
      rw [hlr] at c1
      have hct : c.toNat < (k0 :: ks).length := by omega
      have hg := rows_get (k0 :: ks) c.toNat hct
      have hki := ih (k0 :: ks)[c.toNat] (List.getElem_mem _) (p + 1 + 1) (by omega)
      have hs1 := sizeL_get (k0 :: ks) c.toNat hct
      have hs2 := sizeL_set (k0 :: ks) c.toNat hct
      have hs3 := rows_set (k0 :: ks) c.toNat
      have hs5 : ∀ t' : T, t'.Small → ∀ x ∈ (k0 :: ks).set c.toNat t', x.Small := fun t' h x hx => (List.mem_or_eq_of_mem_set hx).elim (g5 x) (fun e => e ▸ h)
      have hs6 : ∀ t' : T, ((k0 :: ks).set c.toNat t').length = (k0 :: ks).length := fun t' => List.length_set
      have hsk : ∀ t', SpoilOf (k0 :: ks)[c.toNat] t' → SpoilOf (.mk id kind text (k0 :: ks)) (.mk id kind text ((k0 :: ks).set c.toNat t')) := fun t' h => .kid c.toNat hct t' h
      generalize (k0 :: ks)[c.toNat] = kt at *
      have hki := hki (by omega) (by omega)
      rcases kt with ⟨ti, tk, tx, tks⟩
      conv => whnf
      refine ⟨c0, _, _, 4, rfl, hg, rfl, rfl, ?_⟩
      conv => whnf
      refine AtRow_intro _ hg ?_
      conv => whnf
      refine ⟨[0], false, ?_⟩
      conv => whnf
      refine hki.mono ?_
      rintro o st' ⟨t', p', s1, s2, s3, s4, rfl, rfl⟩
      have hs2 := hs2 t'
      have hs3 := hs3 t'
      have hs5 := hs5 t' s1
      have hs6 := hs6 t'
      have e1s : ∀ X, (T.mk id kind text X).size = 1 + T.sizeL X := fun X => by simp [T.size]
      rcases t' with ⟨ti', tk', tx', tks'⟩
      conv => whnf
      repeat (refine And.intro (by conv => whnf
                                   first
                                     | rfl
                                     | exact ⟨c0, _, _, 4, rfl, hg, rfl, rfl, rfl⟩
                                     | exact AtRow_intro _ hg rfl) ?_
              conv => whnf)
      refine ⟨c0, _, _, 4, rfl, hg, rfl, rfl, ?_⟩
      conv => whnf
      refine AtRow_intro _ hg ?_
      conv => whnf
      refine ⟨[], false, ?_⟩
      conv => whnf
      refine ⟨.mk id kind text ((k0 :: ks).set c.toNat (.mk ti' tk' tx' tks')), p', .mk g1 g2 g3 (by rw [hs6]; omega) hs5, ⟨by rw [e1s, e1s]; omega, hsk _ s2.2⟩, by omega, by rw [e1s]; omega, ⟨_, rfl, ?_⟩, rfl⟩
      refine Eq.trans ?_ (softT _)
      show (V.agg [.int .i64 id, .str kind, .str text, .sl ((T.rows (k0 :: ks)).set c.toNat (T.mk ti' tk' tx' tks').cells)]).soft = _
      rw [← hs3]
      rfl
    rw [eqB_f e0]
    conv => whnf
    refine ⟨[0], false, ?_⟩
    conv => whnf
    refine (hpc (p + 1) 6 (by omega) (by omega)).mono ?_
    rintro o st' ⟨c, c0, c1, rfl, rfl⟩
    obtain ⟨tl1, tl2, tl3, tl4⟩ := tail _ (p + 1 + 1) rfl (by omega) (by omega)
    have q0 : 0 ≤ p + 1 + 1 ∧ p + 1 + 1 ≤ 1073741822 ∧ p ≤ p + 1 + 1 := by omega
    generalize p + 1 + 1 = q at *
  all_goals
    clear tail hsz hp2
    conv => whnf
    by_cases e0 : c = 0
    · rw [eqB_t e0]
      conv => whnf
      refine ⟨[0], false, ?_⟩
      conv => whnf
      refine (hpc q 5 (by omega) (by omega)).mono ?_
      rintro o st' ⟨c, c0, c1, rfl, rfl⟩
      obtain ⟨z, hz, hzg⟩ := five c c0 (c1 (by omega))
      conv => whnf
      refine ⟨c0, _, _, 1, rfl, hzg, rfl, rfl, ?_⟩
      conv => whnf
      refine AtRow_intro _ hzg ?_
      conv => whnf
      refine ⟨[], false, ?_⟩
      conv => whnf
      exact ⟨.mk z kind text _, q + 1, (tl1 z kind text hz.1 g2 g3).1, ⟨(tl1 z kind text hz.1 g2 g3).2, .id z hz.2⟩, by omega, tl3, ⟨.agg (T.cells (.mk z kind text _)), rfl, softT _⟩, rfl⟩
    rw [eqB_f e0]
    conv => whnf
    by_cases e1 : c = 1
    · rw [eqB_t e1]
      conv => whnf
      refine ⟨[0], false, ?_⟩
      conv => whnf
      refine (of_full bs q [[], [65], [116,111,111,108,111,110,103,110,97,109,101], [120]] hb (by omega) (by omega) (by decide) (by decide)).mono ?_
      rintro o st' ⟨s, hs, rfl, rfl⟩
      have hsl : s.length ≤ 1048576 := by
        simp only [List.mem_cons, List.not_mem_nil, or_false] at hs
        rcases hs with rfl | rfl | rfl | rfl <;> decide
      conv => whnf
      refine ⟨[], false, ?_⟩
      conv => whnf
      exact ⟨.mk id s text _, q + 1, (tl1 id s text g1 hsl g3).1, ⟨(tl1 id s text g1 hsl g3).2, .word s text⟩, by omega, tl3, ⟨.agg (T.cells (.mk id s text _)), rfl, softT _⟩, rfl⟩
    rw [eqB_f e1]
    conv => whnf
    by_cases e2 : c = 2
    · rw [eqB_t e2]
      conv => whnf
      refine .inl (hmany.mono ?_)
      rintro r ⟨tt, htt, rfl⟩
      conv => whnf
      refine ⟨[0], false, ?_⟩
      conv => whnf
      refine (of_full bs q [[34], [10], tt] hb (by omega) (by omega) (by simp) (by simp)).mono ?_
      rintro o st' ⟨s, hs, rfl, rfl⟩
      have hsl : s.length ≤ 1048576 := by
        simp only [List.mem_cons, List.not_mem_nil, or_false] at hs
        rcases hs with rfl | rfl | rfl
        · decide
        · decide
        · rw [htt]; decide
      conv => whnf
      refine ⟨[], false, ?_⟩
      conv => whnf
      exact ⟨.mk id kind s _, q + 1, (tl1 id kind s g1 g2 hsl).1, ⟨(tl1 id kind s g1 g2 hsl).2, .word kind s⟩, by omega, tl3, ⟨.agg (T.cells (.mk id kind s _)), rfl, softT _⟩, rfl⟩
    rw [eqB_f e2]
    conv => whnf
    by_cases e3 : c = 3
    · rw [eqB_t e3]
      conv => whnf
      refine ⟨_, .inl hpure, ?_⟩
      conv => whnf
      refine ⟨fun m hm => by rw [List.mem_singleton.1 hm]; rfl, ?_⟩
      conv => whnf
      first
        | refine ⟨by show 1 * 64 ≤ _; omega, .inr ⟨(by intro e; cases e), ?_⟩⟩
        | refine ⟨by
            show ((T.rows (_ :: _)).length + 1) * 64 ≤ _
            rw [Go.Cod.rows_len]; omega, ?_⟩
      conv => whnf
      refine ⟨[], false, ?_⟩
      conv => whnf
      first
        | exact ⟨.mk id kind text [.mk id kind text []], q, .mk g1 g2 g3 (by simp) (by simpa using hsm), ⟨by simp only [T.size, T.sizeL]; omega, .twice (kids := [])⟩, by omega, tl4, ⟨.agg (T.cells (.mk id kind text [.mk id kind text []])), rfl, softT _⟩, rfl⟩
        | (refine ⟨.mk id kind text ((k0 :: ks) ++ [.mk id kind text (k0 :: ks)]), q, .mk g1 g2 g3 (by rw [List.length_append]; simp only [List.length_singleton]; omega) (small_snoc g5 hsm), ⟨by simp only [T.size, T.sizeL_append, T.sizeL]; omega, .twice⟩, by omega, tl4, ⟨_, rfl, ?_⟩, rfl⟩
           refine Eq.trans ?_ (softT _)
           show (V.agg [.int .i64 id, .str kind, .str text, .sl (T.rows (k0 :: ks) ++ [(T.mk id kind text (k0 :: ks)).cells])]).soft = _
           rw [← T.rows_snoc]
           rfl)
    rw [eqB_f e3]
    conv => whnf
    by_cases e4 : c = 4
    · rw [eqB_t e4]
      conv => whnf
      first
        | refine loop_drop (SpJ bs q _ 7 6 (1 + T.sizeL []) (fun i x => x = deepN (.mk id kind text []) i)) 6 (some [0, 1, 2, 3]) (by
            conv => whnf
            exact ⟨.mk id kind text _, 0, _, rfl, hsm, ⟨by simp only [T.size]; omega, rfl⟩, softRows _, ⟨rfl, rfl, rfl, rfl, trivial⟩, rfl⟩) ?_
        | refine loop_drop (SpJ bs q _ 7 6 (1 + T.sizeL (k0 :: ks)) (fun i x => x = deepN (.mk id kind text (k0 :: ks)) i)) 6 (some [0, 1, 2, 4, 3]) (by
            conv => whnf
            exact ⟨.mk id kind text _, 0, _, rfl, hsm, ⟨by simp only [T.size]; omega, rfl⟩, softRows _, ⟨rfl, rfl, rfl, rfl, trivial⟩, rfl⟩) ?_
      rintro n fr st ⟨x, i, R, hi, x1, ⟨x2, xF⟩, hR, hh, rfl⟩
      obtain ⟨fr, rfl⟩ := hh.split
      clear hh
      have x3 := tl2 x x1
      rcases x with ⟨xi, xk, xt, xs⟩
      simp only [T.id, T.kind, T.text, T.kids] at hR ⊢
      have x4 := x1
      cases x4 with
      | mk y1 y2 y3 y4 y5 =>
      by_cases hlt : i < 6
      · have w1 : IntKind.i64.wrap (500 + (i : Int)) = 500 + (i : Int) := wrap64 (by omega) (by omega)
        have w2 : V.int .i64 (IntKind.i64.wrap ((i : Int) + 1)) = .int .i64 ((i + 1 : Nat) : Int) := by
          rw [wrap64 (by omega) (by omega)]; rfl
        rcases xs with _ | ⟨x0, xs⟩
        all_goals
          conv => whnf
          rw [ltB_t (by omega)]
          conv => whnf
        · refine ⟨n - 1, by omega, some [0, 1, 2, 3, 4], ?_⟩
          conv => whnf
          refine ⟨.mk (500 + i) [120] [] [.mk xi xk xt []], i + 1, _, by omega, .mk (by omega) (by simp) (by simp) (by simp) (by simpa using x1), ⟨by simp only [T.size, T.sizeL] at x2 ⊢; omega, by rw [xF]; rfl⟩, (rfl : V.softLL [[.int .i64 xi, .str xk, .str xt, .nils]] = _), ⟨rfl, rfl, rfl, w2, trivial⟩, ?_⟩
          rw [w1]; rfl
        · refine ⟨n - 1, by omega, some [0, 1, 2, 3, 5], ?_⟩
          conv => whnf
          refine ⟨.mk (500 + i) [120] [] [.mk xi xk xt (x0 :: xs)], i + 1, [[.int .i64 xi, .str xk, .str xt, .sl R]], by omega, .mk (by omega) (by simp) (by simp) (by simp) (by simpa using x1), ⟨by simp only [T.size, T.sizeL] at x2 ⊢; omega, by rw [xF]; rfl⟩, by show [[V.int .i64 xi, .str xk, .str xt, .sl (V.softLL R)]] = _; rw [hR]; rfl, ⟨rfl, rfl, rfl, w2, trivial⟩, ?_⟩
          rw [w1]; rfl
      · rcases xs with _ | ⟨x0, xs⟩
        all_goals
          conv => whnf
          rw [ltB_f (by omega)]
          conv => whnf
          refine ⟨[], false, ?_⟩
          conv => whnf
          first
            | exact ⟨.mk xi xk xt [], q, x1, ⟨x3 (by omega), by (obtain rfl : i = 6 := by omega); rw [xF]; exact .deep⟩, by omega, tl4, ⟨_, rfl, rfl⟩, rfl⟩
            | exact ⟨.mk xi xk xt (x0 :: xs), q, x1, ⟨x3 (by omega), by (obtain rfl : i = 6 := by omega); rw [xF]; exact .deep⟩, by omega, tl4, ⟨.agg [.int .i64 xi, .str xk, .str xt, .sl R], rfl, by show V.agg [.int .i64 xi, .str xk, .str xt, .sl (V.softLL R)] = _; rw [hR]; rfl⟩, rfl⟩
    rw [eqB_f e4]
    conv => whnf
    first
      | refine loop_drop (SpJ bs q _ 8 20 (1 + T.sizeL []) (fun i x => x = .mk id kind text ([] ++ wideN i))) 20 (some [0, 1, 2, 3]) (by
          conv => whnf
          exact ⟨.mk id kind text _, 0, _, rfl, hsm, ⟨by simp only [T.size]; omega, by simp [wideN]⟩, softRows _, ⟨rfl, rfl, rfl, rfl, trivial⟩, rfl⟩) ?_
      | refine loop_drop (SpJ bs q _ 8 20 (1 + T.sizeL (k0 :: ks)) (fun i x => x = .mk id kind text ((k0 :: ks) ++ wideN i))) 20 (some [0, 1, 2, 4, 3]) (by
          conv => whnf
          exact ⟨.mk id kind text _, 0, _, rfl, hsm, ⟨by simp only [T.size]; omega, by simp [wideN]⟩, softRows _, ⟨rfl, rfl, rfl, rfl, trivial⟩, rfl⟩) ?_
    rintro n fr st ⟨x, i, R, hi, x1, ⟨x2, xF⟩, hR, hh, rfl⟩
    obtain ⟨fr, rfl⟩ := hh.split
    clear hh
    have x3 := tl2 x x1
    have x6 := length_le_sizeL x.kids
    rcases x with ⟨xi, xk, xt, xs⟩
    simp only [T.id, T.kind, T.text, T.kids] at x6 hR ⊢
    have x4 := x1
    cases x4 with
    | mk y1 y2 y3 y4 y5 =>
    by_cases hlt : i < 20
    · have w1 : IntKind.i64.wrap (600 + (i : Int)) = 600 + (i : Int) := wrap64 (by omega) (by omega)
      have w2 : V.int .i64 (IntKind.i64.wrap ((i : Int) + 1)) = .int .i64 ((i + 1 : Nat) : Int) := by
        rw [wrap64 (by omega) (by omega)]; rfl
      have hsn : (T.mk (600 + i) [112,97,114] [] []).Small := .mk (by omega) (by simp) (by simp) (by simp) (by simp)
      rcases xs with _ | ⟨x0, xs⟩
      all_goals
        conv => whnf
        rw [ltB_t (by omega)]
        conv => whnf
        rw [w1]
        refine ⟨fun m hm => by rw [List.mem_singleton.1 hm]; rfl, ?_⟩
        conv => whnf
      · refine ⟨by show 1 * 64 ≤ _; omega, .inr ⟨(by intro e; cases e), ?_⟩⟩
        conv => whnf
        refine ⟨n - 1, by omega, some [0, 1, 2, 3, 5], ?_⟩
        conv => whnf
        exact ⟨.mk xi xk xt [.mk (600 + i) [112,97,114] [] []], i + 1, [[.int .i64 (600 + i), .str [112,97,114], .str [], .nils]], by omega, .mk y1 y2 y3 (by simp) (by simpa using hsn), ⟨by simp only [T.size, T.sizeL] at x2 ⊢; omega, wide_snoc xF⟩, rfl, ⟨rfl, rfl, rfl, w2, trivial⟩, rfl⟩
      · refine ⟨by
          show (R.length + 1) * 64 ≤ _
          have hRl : R.length = (x0 :: xs).length := by
            have := congrArg List.length hR
            rwa [V.softLL_eq, List.length_map, Go.Cod.rows_len] at this
          rw [hRl]; omega, ?_⟩
        conv => whnf
        refine ⟨n - 1, by omega, some [0, 1, 2, 3, 6], ?_⟩
        conv => whnf
        refine ⟨.mk xi xk xt ((x0 :: xs) ++ [.mk (600 + i) [112,97,114] [] []]), i + 1, R ++ [[.int .i64 (600 + i), .str [112,97,114], .str [], .nils]], by omega, .mk y1 y2 y3 (by rw [List.length_append]; simp only [T.size] at x2; simp only [List.length_singleton]; omega) (small_snoc y5 hsn), ⟨by simp only [T.size, T.sizeL_append] at x2 ⊢; simp only [T.sizeL, T.size] at x2 ⊢; omega, wide_snoc xF⟩, by rw [softLL_append, hR]; simp only [T.kids]; rw [T.rows_snoc]; rfl, ⟨rfl, rfl, rfl, w2, trivial⟩, rfl⟩
    · rcases xs with _ | ⟨x0, xs⟩
      all_goals
        conv => whnf
        rw [ltB_f (by omega)]
        conv => whnf
        refine ⟨[], false, ?_⟩
        conv => whnf
        first
            | exact ⟨.mk xi xk xt [], q, x1, ⟨x3 (by omega), by (obtain rfl : i = 20 := by omega); rw [xF]; exact .wide⟩, by omega, tl4, ⟨_, rfl, rfl⟩, rfl⟩
            | exact ⟨.mk xi xk xt (x0 :: xs), q, x1, ⟨x3 (by omega), by (obtain rfl : i = 20 := by omega); rw [xF]; exact .wide⟩, by omega, tl4, ⟨.agg [.int .i64 xi, .str xk, .str xt, .sl R], rfl, by show V.agg [.int .i64 xi, .str xk, .str xt, .sl (V.softLL R)] = _; rw [hR]; rfl⟩, rfl⟩
end Go.Cod

namespace Go.Cod
open Go Go.Proofs
set_option maxRecDepth 10000

/- A tree and a number are drawn. -/
theorem l1Open_full (bs : List UInt8) (hb : bs.length ≤ 1048576) : Full Try.prog noY 27 [.sl (brows bs)] [] fun o st' => o = .ret (.ptr 0 0 0) ∧ ∃ bs' : List UInt8, bs'.length ≤ 2000 ∧ st' = [rdO bs' 0] := by
  have hl := brows_len bs
  have h1 : ∀ r ∈ brows bs, r.length = 1 := fun r h => by
    obtain ⟨b, _, rfl⟩ := List.mem_map.1 h; rfl
  have h2 : ((brows bs).take 2000).drop 0 = brows (bs.take 2000) := by rw [brows, brows, List.map_take]; rfl
  refine full_of_awp good Try.func27 rfl (by kernel_rfl) (by decide) ?_
  generalize hR : brows bs = R at *
  conv => whnf
  by_cases a : 2000 < R.length
  · rw [ltB_t (by omega)]
    conv => whnf
    refine ⟨h1, by omega, by show 2000 ≤ _; omega, ?_⟩
    conv => whnf
    refine ⟨[0], false, ?_⟩
    conv => whnf
    refine ⟨rfl, bs.take 2000, by rw [List.length_take]; omega, ?_⟩
    show [(⟨[[.sl ((R.take 2000).drop 0), .int .i64 0]], 2, true, true, true, .cell⟩ : O)] = _
    rw [h2]; rfl
  · rw [ltB_f (by omega)]
    conv => whnf
    refine ⟨[0], false, ?_⟩
    conv => whnf
    refine ⟨rfl, bs, by omega, ?_⟩
    rw [rdO, hR]; rfl

/-- Drawn: a tree of unlike numbers, as it is or spoilt. -/
def Drawn (t : T) : Prop := ∃ t0 : T, t0.ids.Nodup ∧ (∀ i ∈ t0.ids, 1 ≤ i ∧ i < 20) ∧ t0.id = 1 ∧ (t.size : Int) ≤ 2 * t0.size + 20 ∧ (t = t0 ∨ SpoilOf t0 t)

end Go.Cod

namespace Go.Cod
open Go Go.Proofs Go.ChangeShapes Go.WideShapes Go.ChangeAt Go.RowKit
set_option maxRecDepth 10000

theorem implTreeFind_pure (t : T) (hs : t.Small) (x : Int) : Pure Try.prog 16 [.agg t.cells, .int .i64 x] (· = fR (findT t x)) := by
  refine Full.freeze (implTreeFind_new t hs x) ?_
  rintro o st' ⟨l, h1, h2, h3, rfl, rfl⟩
  have hv := viewL2 (y' := .bool (findT t x).isSome) (l.viewA h2 (es := l.ents) (fun _ h => h)) (.same _)
  refine ⟨_, _, .tup [.agg l.erase.cells, .bool (findT t x).isSome], rfl, rfl, .tup hv.1 hv.2, ?_, ?_⟩
  · cases l with
    | mk id kind text h kids => rcases h with _ | ⟨b, c⟩ <;> rfl
  · rw [h1]; cases findT t x <;> rfl

theorem wcTree_pure1 (t : T) (ht : t.Small) (hT : ∀ t' ∈ t.kids, Pure Try.prog 14 [.agg t'.cells, .agg t'.cells] (· = .bool true)) : Pure Try.prog 14 [.agg t.cells, .agg t.cells] (· = .bool true) := by
  cases ht with
  | @mk id kind text kids g1 g2 g3 g4 g5 =>
  simp only [T.kids] at hT
  have hlr := rows_len kids
  refine pure_of_awp good Try.func14 rfl (by kernel_rfl) (by decide) ?_
  conv => whnf
  rw [eqB_refl]
  conv => whnf
  rw [eqS_refl]
  conv => whnf
  rw [eqS_refl]
  conv => whnf
  rw [eqB_refl]
  conv => whnf
  refine loop_intro (fun n fr st => ∃ i : Nat, n + i = kids.length ∧ st = [⟨[[.int .i64 id, .str kind, .str text, .sl (T.rows kids)]], 4, true, true, true, .cell⟩, ⟨[[.int .i64 id, .str kind, .str text, .sl (T.rows kids)]], 4, true, true, true, .cell⟩] ∧ Holds fr [(2, .ptr 0 0 0), (3, .ptr 1 0 0), (5, .int .i64 i)]) kids.length
    ⟨0, rfl, rfl, rfl, rfl, rfl, trivial⟩ ?_
  rintro n fr st ⟨i, hi, rfl, hh⟩
  obtain ⟨fr, rfl⟩ := hh.split
  clear hh
  conv => whnf
  by_cases hlt : i < kids.length
  · rw [ltB_t (by omega)]
    conv => whnf
    refine ⟨by omega, T.rows kids, kids[i].cells, 4, rfl, rows_get kids i hlt, rfl, cells_len _, ?_⟩
    have hc := hT kids[i] (List.getElem_mem _)
    have hmg := rows_get kids i hlt
    generalize kids[i] = t at hc hmg
    cases t with
    | mk id' kind' text' kids' =>
    conv => whnf
    refine ⟨by omega, T.rows kids, _, 4, rfl, hmg, rfl, rfl, ?_⟩
    conv => whnf
    refine ⟨_, .inl hc, ?_⟩
    conv => whnf
    refine ⟨n - 1, by omega, i + 1, by omega, rfl, rfl, rfl, ?_, trivial⟩
    · show V.int .i64 (IntKind.i64.wrap (i + 1)) = _
      rw [wrap64 (by omega) (by omega)]; simp
  · rw [ltB_f (by omega)]
    conv => whnf
theorem wcTree_refl (t : T) (ht : t.Small) : Pure Try.prog 14 [.agg t.cells, .agg t.cells] (· = .bool true) := by
  induction ht with
  | mk g1 g2 g3 g4 g5 ih => exact wcTree_pure1 _ (.mk g1 g2 g3 g4 g5) ih

end Go.Cod

namespace Go.Cod
open Go Go.Proofs
set_option maxRecDepth 10000

mutual
/-- Where something may be put at a place. -/
def T.PutOk (x : Int) (n : Nat) : T → Prop
  | .mk id _ _ kids => if id = x then n ≤ kids.length else T.PutOkL x n kids
def T.PutOkL (x : Int) (n : Nat) : List T → Prop
  | [] => True
  | t :: ts => T.PutOk x n t ∧ T.PutOkL x n ts
end
theorem T.PutOkL_mem {x : Int} {n : Nat} {ts : List T} (h : T.PutOkL x n ts) : ∀ t ∈ ts, T.PutOk x n t := by
  induction ts with
  | nil => simp
  | cons t ts ih =>
    intro y hy
    rcases List.mem_cons.1 hy with rfl | hy
    · exact h.1
    · exact ih h.2 y hy
theorem T.mapAtL_len (x : Int) (f : T → T) (ts : List T) : (T.mapAtL x f ts).length = ts.length := by rw [T.mapAtL_eq, List.length_map]
theorem T.mapAtL_rows (x : Int) (f : T → T) (ts : List T) (i : Nat) (h : i < ts.length) : T.rows ((T.mapAtL x f ts).take (i + 1)) = T.rows ((T.mapAtL x f ts).take i) ++ [(ts[i].mapAt x f).cells] := by
  rw [T.mapAtL_eq, T.rows_eq, T.rows_eq, List.take_succ_eq_append_getElem (by simpa using h), List.map_append]
  simp
theorem T.rows_put (n : Nat) (y : T) (ts : List T) : T.rows (ts.take n ++ y :: ts.drop n) = (T.rows ts).take n ++ y.cells :: (T.rows ts).drop n := by
  simp only [T.rows_eq, List.map_append, List.map_cons, List.map_take, List.map_drop]
set_option maxHeartbeats 4000000 in
theorem l4Put_at (t : T) (ht : t.Small) (x : Int) (n : Nat) (y : T) (hid : t.id = x) (hn : n ≤ t.kids.length) :
    Pure Try.prog 83 [.agg t.cells, .int .i64 x, .int .i64 n, .agg y.cells] (· = .agg (putKidT n y t).cells) := by
  cases ht with
  | @mk id kind text kids g1 g2 g3 g4 g5 =>
  cases y with
  | mk yi yk yx yks =>
  simp only [T.id] at hid
  simp only [T.kids] at hn
  subst hid
  have hlr := Go.Cod.rows_len kids
  have hw := T.rows_wid kids
  have hput := T.rows_put n (.mk yi yk yx yks) kids
  refine pure_of_awp good Try.func83 rfl (by kernel_rfl) (by decide) ?_
  conv => whnf
  rw [eqB_refl]
  conv => whnf
  refine ⟨hw, by omega, by show n ≤ (T.rows kids).length; omega, ?_⟩
  conv => whnf
  have hA : (T.rows kids).take (n : Int).toNat = (T.rows kids).take n := rfl
  have hB : (((T.rows kids).take (T.rows kids).length).drop (n : Int).toNat) = (T.rows kids).drop n := by rw [List.take_length]; rfl
  have hAl : ((T.rows kids).take n).length = n := by rw [List.length_take]; omega
  have hBl : ((T.rows kids).drop n).length = kids.length - n := by rw [List.length_drop]; omega
  have hBw : ∀ r ∈ (T.rows kids).drop n, r.length = 4 := fun r hr => hw r (List.mem_of_mem_drop hr)
  rw [← hA] at hput hAl
  rw [← hB] at hput hBl hBw
  refine ⟨fun m hm => hw m (List.mem_of_mem_take hm), by show ((T.rows kids).take (n : Int).toNat).length * 64 ≤ _; omega, ?_⟩
  generalize (T.rows kids).take (n : Int).toNat = A at *
  cases A with
  | nil =>
    refine .inl ⟨rfl, ?_⟩
    conv => whnf
    refine ⟨fun m hm => by rw [List.mem_singleton.1 hm]; rfl, ?_⟩
    conv => whnf
    refine ⟨by show 1 * 64 ≤ _; omega, .inr ⟨(by intro e; cases e), ?_⟩⟩
    conv => whnf
    refine ⟨hw, by omega, by show n ≤ (T.rows kids).length; omega, ?_⟩
    conv => whnf
    refine ⟨hBw, ?_⟩
    conv => whnf
    refine ⟨by show (1 + (((T.rows kids).take (T.rows kids).length).drop (n : Int).toNat).length) * 64 ≤ _; omega, ?_⟩
    conv => whnf
    simp only [putKidT, T.cells]
    rw [hput]
    rfl
  | cons a A =>
    refine .inr ⟨by simp, ?_⟩
    conv => whnf
    refine ⟨fun m hm => by rw [List.mem_singleton.1 hm]; rfl, ?_⟩
    conv => whnf
    refine ⟨by show ((a :: A).length + 1) * 64 ≤ _; omega, ?_⟩
    conv => whnf
    refine ⟨hw, by omega, by show n ≤ (T.rows kids).length; omega, ?_⟩
    conv => whnf
    refine ⟨hBw, ?_⟩
    conv => whnf
    refine ⟨by
      simp only [List.length_append, List.length_map, List.length_drop, List.length_cons, List.length_nil, List.length_take] at hAl hBl ⊢
      show (A.length + 1 + (0 + 1) + _) * 64 ≤ _
      omega, ?_⟩
    conv => whnf
    simp only [putKidT, T.cells]
    rw [hput, show ∀ (c : List V) (B : List (List V)), a :: A ++ c :: B = (a :: A ++ [c]) ++ B by simp]
    rfl
theorem l4Put_in1 (t : T) (ht : t.Small) (x : Int) (n : Nat) (y : T) (hid : ¬ t.id = x) (hT : ∀ t' ∈ t.kids, Pure Try.prog 83 [.agg t'.cells, .int .i64 x, .int .i64 n, .agg y.cells] (· = .agg (t'.mapAt x (putKidT n y)).cells)) :
    Pure Try.prog 83 [.agg t.cells, .int .i64 x, .int .i64 n, .agg y.cells] (· = .agg (t.mapAt x (putKidT n y)).cells) := by
  cases ht with
  | @mk id kind text kids g1 g2 g3 g4 g5 =>
  simp only [T.kids] at hT
  simp only [T.id] at hid
  simp only [T.mapAt, if_neg hid]
  have hlr := Go.Cod.rows_len kids
  have hrow := T.mapAtL_rows x (putKidT n y) kids
  have hlen := T.mapAtL_len x (putKidT n y) kids
  generalize T.mapAtL x (putKidT n y) kids = ks at *
  generalize hf : T.mapAt x (putKidT n y) = f at *
  cases y with
  | mk yi yk yx yks =>
  refine pure_of_awp good Try.func83 rfl (by kernel_rfl) (by decide) ?_
  conv => whnf
  rw [eqB_f hid]
  conv => whnf
  refine loop_drop (fun m fr st => ∃ i : Nat, m + i = kids.length ∧
      ((i = 0 ∧ Holds fr [(1, .int .i64 x), (2, .int .i64 n), (4, .ptr 0 0 0), (7, .ptr 1 0 0), (8, .ptr 2 0 0), (10, .nils), (11, .int .i64 0)] ∧ st = [⟨[[.int .i64 id, .str kind, .str text, .sl (T.rows kids)]], 4, true, true, true, .cell⟩, ⟨[[.int .i64 yi, .str yk, .str yx, .sl (T.rows yks)]], 4, true, true, true, .cell⟩, ⟨[zrow], 4, true, true, true, .cell⟩]) ∨
       (0 < i ∧ Holds fr [(1, .int .i64 x), (2, .int .i64 n), (4, .ptr 0 0 0), (7, .ptr 1 0 0), (8, .ptr 2 0 0), (10, .own 3), (11, .int .i64 i)] ∧ st = [⟨[[.int .i64 id, .str kind, .str text, .sl (T.rows kids)]], 4, true, true, true, .cell⟩, ⟨[[.int .i64 yi, .str yk, .str yx, .sl (T.rows yks)]], 4, true, true, true, .cell⟩, ⟨[zrow], 4, true, true, true, .cell⟩, ⟨T.rows (ks.take i), 4, true, true, false, .cell⟩]))) kids.length none
    ⟨0, rfl, .inl ⟨rfl, ⟨rfl, rfl, rfl, rfl, rfl, rfl, rfl, trivial⟩, rfl⟩⟩ ?_
  rintro m fr st ⟨i, hi, ⟨rfl, hh, rfl⟩ | ⟨hi0, hh, rfl⟩⟩
  · obtain ⟨fr, rfl⟩ := hh.split
    clear hh
    conv => whnf
    by_cases hlt : 0 < kids.length
    · rw [hlr, ltB_t (by omega)]
      have hc := hT kids[0] (List.getElem_mem _)
      have htk := hrow 0 hlt
      have hg := Go.Cod.rows_get kids 0 hlt
      generalize kids[0] = t at hc htk hg
      generalize f t = ft at hc htk
      cases t with
      | mk id' kind' text' kids' =>
      cases ft with
      | mk fi fk fx fks =>
      conv => whnf
      refine ⟨by omega, T.rows kids, _, 4, rfl, hg, rfl, rfl, ?_⟩
      conv => whnf
      refine ⟨_, .inl hc, ?_⟩
      conv => whnf
      refine ⟨fun m hm => by rw [List.mem_singleton.1 hm]; rfl, ?_⟩
      conv => whnf
      refine ⟨by show 1 * 64 ≤ _; omega, .inr ⟨(by intro e; cases e), ?_⟩⟩
      conv => whnf
      refine ⟨m - 1, by omega, some [0, 1, 2, 4], ?_⟩
      conv => whnf
      refine ⟨1, by omega, .inr ⟨by omega, ⟨rfl, rfl, rfl, rfl, rfl, rfl, rfl, trivial⟩, ?_⟩⟩
      rw [htk]
      rfl
    · rw [hlr, ltB_f (by omega)]
      conv => whnf
      have : kids = [] := List.eq_nil_of_length_eq_zero (by omega)
      subst this
      have : ks = [] := List.eq_nil_of_length_eq_zero hlen
      subst this
      rfl
  · obtain ⟨fr, rfl⟩ := hh.split
    clear hh
    conv => whnf
    by_cases hlt : i < kids.length
    · rw [hlr, ltB_t (by omega)]
      have hc := hT kids[i] (List.getElem_mem _)
      have htk := hrow i hlt
      have hg := Go.Cod.rows_get kids i hlt
      generalize kids[i] = t at hc htk hg
      generalize f t = ft at hc htk
      cases t with
      | mk id' kind' text' kids' =>
      cases ft with
      | mk fi fk fx fks =>
      conv => whnf
      refine ⟨by omega, T.rows kids, _, 4, rfl, hg, rfl, rfl, ?_⟩
      conv => whnf
      refine ⟨_, .inl hc, ?_⟩
      conv => whnf
      refine ⟨fun m hm => by rw [List.mem_singleton.1 hm]; rfl, ?_⟩
      conv => whnf
      refine ⟨by
        show ((T.rows (ks.take i)).length + 1) * 64 ≤ _
        rw [Go.Cod.rows_len, List.length_take]; omega, ?_⟩
      conv => whnf
      refine ⟨m - 1, by omega, some [0, 1, 2, 5], ?_⟩
      conv => whnf
      refine ⟨i + 1, by omega, .inr ⟨by omega, ⟨rfl, rfl, rfl, rfl, rfl, rfl, ?_, trivial⟩, ?_⟩⟩
      · show V.int .i64 (IntKind.i64.wrap (i + 1)) = _
        rw [wrap64 (by omega) (by omega)]; simp
      · rw [htk]
        rfl
    · rw [hlr, ltB_f (by omega)]
      conv => whnf
      rw [List.take_of_length_le (by omega)]
      rfl
theorem l4Put_pure (t : T) (ht : t.Small) (x : Int) (n : Nat) (y : T) (hp : t.PutOk x n) : Pure Try.prog 83 [.agg t.cells, .int .i64 x, .int .i64 n, .agg y.cells] (· = .agg (t.mapAt x (putKidT n y)).cells) := by
  induction ht with
  | @mk id kind text kids g1 g2 g3 g4 g5 ih =>
    simp only [T.PutOk] at hp
    by_cases hid : id = x
    · rw [if_pos hid] at hp
      have := l4Put_at (.mk id kind text kids) (.mk g1 g2 g3 g4 g5) x n y hid hp
      simp only [T.mapAt, if_pos hid]
      exact this
    · rw [if_neg hid] at hp
      exact l4Put_in1 _ (.mk g1 g2 g3 g4 g5) x n y hid fun t' h => ih t' h (T.PutOkL_mem hp t' h)
theorem l4Set_at (t : T) (ht : t.Small) (x : Int) (k w : List UInt8) (hid : t.id = x) : Pure Try.prog 85 [.agg t.cells, .int .i64 x, .str k, .str w] (· = .agg (setT k w t).cells) := by
  cases ht with
  | @mk id kind text kids g1 g2 g3 g4 g5 =>
  simp only [T.id] at hid
  subst hid
  refine pure_of_awp good Try.func85 rfl (by kernel_rfl) (by decide) ?_
  conv => whnf
  rw [eqB_refl]
  conv => whnf
  rfl
theorem l4Set_in1 (t : T) (ht : t.Small) (x : Int) (k w : List UInt8) (hid : ¬ t.id = x) (hT : ∀ t' ∈ t.kids, Pure Try.prog 85 [.agg t'.cells, .int .i64 x, .str k, .str w] (· = .agg (t'.mapAt x (setT k w)).cells)) :
    Pure Try.prog 85 [.agg t.cells, .int .i64 x, .str k, .str w] (· = .agg (t.mapAt x (setT k w)).cells) := by
  cases ht with
  | @mk id kind text kids g1 g2 g3 g4 g5 =>
  simp only [T.kids] at hT
  simp only [T.id] at hid
  simp only [T.mapAt, if_neg hid]
  have hlr := Go.Cod.rows_len kids
  have hrow := T.mapAtL_rows x (setT k w) kids
  have hlen := T.mapAtL_len x (setT k w) kids
  generalize T.mapAtL x (setT k w) kids = ks at *
  generalize hf : T.mapAt x (setT k w) = f at *
  refine pure_of_awp good Try.func85 rfl (by kernel_rfl) (by decide) ?_
  conv => whnf
  rw [eqB_f hid]
  conv => whnf
  refine loop_drop (fun m fr st => ∃ i : Nat, m + i = kids.length ∧
      ((i = 0 ∧ Holds fr [(1, .int .i64 x), (2, .str k), (3, .str w), (4, .ptr 0 0 0), (8, .ptr 1 0 0), (9, .nils), (10, .int .i64 0)] ∧ st = [⟨[[.int .i64 id, .str kind, .str text, .sl (T.rows kids)]], 4, true, true, true, .cell⟩, ⟨[zrow], 4, true, true, true, .cell⟩]) ∨
       (0 < i ∧ Holds fr [(1, .int .i64 x), (2, .str k), (3, .str w), (4, .ptr 0 0 0), (8, .ptr 1 0 0), (9, .own 2), (10, .int .i64 i)] ∧ st = [⟨[[.int .i64 id, .str kind, .str text, .sl (T.rows kids)]], 4, true, true, true, .cell⟩, ⟨[zrow], 4, true, true, true, .cell⟩, ⟨T.rows (ks.take i), 4, true, true, false, .cell⟩]))) kids.length none
    ⟨0, rfl, .inl ⟨rfl, ⟨rfl, rfl, rfl, rfl, rfl, rfl, rfl, trivial⟩, rfl⟩⟩ ?_
  rintro m fr st ⟨i, hi, ⟨rfl, hh, rfl⟩ | ⟨hi0, hh, rfl⟩⟩
  · obtain ⟨fr, rfl⟩ := hh.split
    clear hh
    conv => whnf
    by_cases hlt : 0 < kids.length
    · rw [hlr, ltB_t (by omega)]
      have hc := hT kids[0] (List.getElem_mem _)
      have htk := hrow 0 hlt
      have hg := Go.Cod.rows_get kids 0 hlt
      generalize kids[0] = t at hc htk hg
      generalize f t = ft at hc htk
      cases t with
      | mk id' kind' text' kids' =>
      cases ft with
      | mk fi fk fx fks =>
      conv => whnf
      refine ⟨by omega, T.rows kids, _, 4, rfl, hg, rfl, rfl, ?_⟩
      conv => whnf
      refine .inl (hc.mono ?_)
      rintro r rfl
      conv => whnf
      refine ⟨fun m hm => by rw [List.mem_singleton.1 hm]; rfl, ?_⟩
      conv => whnf
      refine ⟨by show 1 * 64 ≤ _; omega, .inr ⟨(by intro e; cases e), ?_⟩⟩
      conv => whnf
      refine ⟨m - 1, by omega, some [0, 1, 3], ?_⟩
      conv => whnf
      refine ⟨1, by omega, .inr ⟨by omega, ⟨rfl, rfl, rfl, rfl, rfl, rfl, rfl, trivial⟩, ?_⟩⟩
      rw [htk]
      rfl
    · rw [hlr, ltB_f (by omega)]
      conv => whnf
      have : kids = [] := List.eq_nil_of_length_eq_zero (by omega)
      subst this
      have : ks = [] := List.eq_nil_of_length_eq_zero hlen
      subst this
      rfl
  · obtain ⟨fr, rfl⟩ := hh.split
    clear hh
    conv => whnf
    by_cases hlt : i < kids.length
    · rw [hlr, ltB_t (by omega)]
      have hc := hT kids[i] (List.getElem_mem _)
      have htk := hrow i hlt
      have hg := Go.Cod.rows_get kids i hlt
      generalize kids[i] = t at hc htk hg
      generalize f t = ft at hc htk
      cases t with
      | mk id' kind' text' kids' =>
      cases ft with
      | mk fi fk fx fks =>
      conv => whnf
      refine ⟨by omega, T.rows kids, _, 4, rfl, hg, rfl, rfl, ?_⟩
      conv => whnf
      refine .inl (hc.mono ?_)
      rintro r rfl
      conv => whnf
      refine ⟨fun m hm => by rw [List.mem_singleton.1 hm]; rfl, ?_⟩
      conv => whnf
      refine ⟨by
        show ((T.rows (ks.take i)).length + 1) * 64 ≤ _
        rw [Go.Cod.rows_len, List.length_take]; omega, ?_⟩
      conv => whnf
      refine ⟨m - 1, by omega, some [0, 1, 4], ?_⟩
      conv => whnf
      refine ⟨i + 1, by omega, .inr ⟨by omega, ⟨rfl, rfl, rfl, rfl, rfl, rfl, ?_, trivial⟩, ?_⟩⟩
      · show V.int .i64 (IntKind.i64.wrap (i + 1)) = _
        rw [wrap64 (by omega) (by omega)]; simp
      · rw [htk]
        rfl
    · rw [hlr, ltB_f (by omega)]
      conv => whnf
      rw [List.take_of_length_le (by omega)]
      rfl
theorem l4Set_pure (t : T) (ht : t.Small) (x : Int) (k w : List UInt8) : Pure Try.prog 85 [.agg t.cells, .int .i64 x, .str k, .str w] (· = .agg (t.mapAt x (setT k w)).cells) := by
  induction ht with
  | @mk id kind text kids g1 g2 g3 g4 g5 ih =>
    by_cases hid : id = x
    · have := l4Set_at (.mk id kind text kids) (.mk g1 g2 g3 g4 g5) x k w hid
      simp only [T.mapAt, if_pos hid]
      exact this
    · exact l4Set_in1 _ (.mk g1 g2 g3 g4 g5) x k w hid ih
end Go.Cod

namespace Go.Cod
open Go Go.Proofs
set_option maxRecDepth 10000

theorem rows_snocT (l : List T) (t : T) : T.rows (l ++ [t]) = T.rows l ++ [t.cells] := by rw [T.rows_eq, T.rows_eq]; simp
theorem cutL_take (x : Int) (ts : List T) (i : Nat) (h : i < ts.length) : T.cutL x (ts.take (i + 1)) = if ts[i].id = x then T.cutL x (ts.take i) else T.cutL x (ts.take i) ++ [ts[i].cut x] := by
  rw [List.take_succ_eq_append_getElem h, T.cutL_append]
  simp only [T.cutL]
  split <;> simp
theorem l4Cut_pure1 (t : T) (ht : t.Small) (x : Int) (hT : ∀ t' ∈ t.kids, Pure Try.prog 84 [.agg t'.cells, .int .i64 x] (· = .agg (t'.cut x).cells)) :
    Pure Try.prog 84 [.agg t.cells, .int .i64 x] (· = .agg (t.cut x).cells) := by
  cases ht with
  | @mk id kind text kids g1 g2 g3 g4 g5 =>
  simp only [T.kids] at hT
  have hlr := Go.Cod.rows_len kids
  refine pure_of_awp good Try.func84 rfl (by kernel_rfl) (by decide) ?_
  conv => whnf
  refine loop_drop (fun m fr st => ∃ i : Nat, m + i = kids.length ∧
      ((T.cutL x (kids.take i) = [] ∧ Holds fr [(1, .int .i64 x), (2, .ptr 0 0 0), (4, .ptr 1 0 0), (5, .nils), (6, .int .i64 i)] ∧ st = [⟨[[.int .i64 id, .str kind, .str text, .sl (T.rows kids)]], 4, true, true, true, .cell⟩, ⟨[zrow], 4, true, true, true, .cell⟩]) ∨
       (T.cutL x (kids.take i) ≠ [] ∧ Holds fr [(1, .int .i64 x), (2, .ptr 0 0 0), (4, .ptr 1 0 0), (5, .own 2), (6, .int .i64 i)] ∧ st = [⟨[[.int .i64 id, .str kind, .str text, .sl (T.rows kids)]], 4, true, true, true, .cell⟩, ⟨[zrow], 4, true, true, true, .cell⟩, ⟨T.rows (T.cutL x (kids.take i)), 4, true, true, false, .cell⟩]))) kids.length none
    ⟨0, rfl, .inl ⟨rfl, ⟨rfl, rfl, rfl, rfl, rfl, trivial⟩, rfl⟩⟩ ?_
  rintro m fr st ⟨i, hi, ⟨he, hh, rfl⟩ | ⟨he, hh, rfl⟩⟩
  · obtain ⟨fr, rfl⟩ := hh.split
    clear hh
    conv => whnf
    by_cases hlt : i < kids.length
    · rw [hlr, ltB_t (by omega)]
      have hc := hT kids[i] (List.getElem_mem _)
      have htk := cutL_take x kids i hlt
      have hg := Go.Cod.rows_get kids i hlt
      have hle := T.cutL_len x (kids.take i)
      rw [List.length_take] at hle
      have w1 : V.int .i64 (IntKind.i64.wrap (i + 1)) = .int .i64 ((i + 1 : Nat) : Int) := by rw [wrap64 (by omega) (by omega)]; simp
      generalize kids[i] = t at hc htk hg
      generalize hct : T.cut x t = ft at hc htk
      cases t with
      | mk id' kind' text' kids' =>
      conv => whnf
      refine ⟨by omega, T.rows kids, _, 4, rfl, hg, rfl, rfl, ?_⟩
      conv => whnf
      by_cases hx : id' = x
      · rw [eqB_t hx]
        conv => whnf
        have htk : T.cutL x (kids.take (i + 1)) = T.cutL x (kids.take i) := by rw [htk, if_pos (show (T.mk id' kind' text' kids').id = x from hx)]
        refine ⟨m - 1, by omega, none, ?_⟩
        conv => whnf
        refine ⟨i + 1, by omega, .inl ⟨by rw [htk]; exact he, ⟨rfl, rfl, rfl, rfl, w1, trivial⟩, rfl⟩⟩
      · rw [eqB_f hx]
        conv => whnf
        have htk : T.cutL x (kids.take (i + 1)) = T.cutL x (kids.take i) ++ [ft] := by rw [htk, if_neg (show ¬ (T.mk id' kind' text' kids').id = x from hx)]
        cases ft with
        | mk fi fk fx fks =>
        refine ⟨by omega, T.rows kids, _, 4, rfl, hg, rfl, rfl, ?_⟩
        conv => whnf
        refine .inl (hc.mono ?_)
        rintro r rfl
        conv => whnf
        refine ⟨fun m hm => by rw [List.mem_singleton.1 hm]; rfl, ?_⟩
        conv => whnf
        refine ⟨by show 1 * 64 ≤ _; omega, .inr ⟨(by intro e; cases e), ?_⟩⟩
        conv => whnf
        refine ⟨m - 1, by omega, some [0, 1, 3], ?_⟩
        conv => whnf
        refine ⟨i + 1, by omega, .inr ⟨by rw [htk]; simp, ⟨rfl, rfl, rfl, rfl, w1, trivial⟩, ?_⟩⟩
        rw [htk, he]
        rfl
    · rw [hlr, ltB_f (by omega)]
      conv => whnf
      rw [List.take_of_length_le (by omega)] at he
      simp only [T.cut, T.cells]; rw [he]
      rfl
  · obtain ⟨fr, rfl⟩ := hh.split
    clear hh
    conv => whnf
    by_cases hlt : i < kids.length
    · rw [hlr, ltB_t (by omega)]
      have hc := hT kids[i] (List.getElem_mem _)
      have htk := cutL_take x kids i hlt
      have hg := Go.Cod.rows_get kids i hlt
      have hle := T.cutL_len x (kids.take i)
      rw [List.length_take] at hle
      have w1 : V.int .i64 (IntKind.i64.wrap (i + 1)) = .int .i64 ((i + 1 : Nat) : Int) := by rw [wrap64 (by omega) (by omega)]; simp
      generalize kids[i] = t at hc htk hg
      generalize hct : T.cut x t = ft at hc htk
      cases t with
      | mk id' kind' text' kids' =>
      conv => whnf
      refine ⟨by omega, T.rows kids, _, 4, rfl, hg, rfl, rfl, ?_⟩
      conv => whnf
      by_cases hx : id' = x
      · rw [eqB_t hx]
        conv => whnf
        have htk : T.cutL x (kids.take (i + 1)) = T.cutL x (kids.take i) := by rw [htk, if_pos (show (T.mk id' kind' text' kids').id = x from hx)]
        refine ⟨m - 1, by omega, none, ?_⟩
        conv => whnf
        refine ⟨i + 1, by omega, .inr ⟨by rw [htk]; exact he, ⟨rfl, rfl, rfl, rfl, w1, trivial⟩, by rw [htk]; rfl⟩⟩
      · rw [eqB_f hx]
        conv => whnf
        have htk : T.cutL x (kids.take (i + 1)) = T.cutL x (kids.take i) ++ [ft] := by rw [htk, if_neg (show ¬ (T.mk id' kind' text' kids').id = x from hx)]
        cases ft with
        | mk fi fk fx fks =>
        refine ⟨by omega, T.rows kids, _, 4, rfl, hg, rfl, rfl, ?_⟩
        conv => whnf
        refine .inl (hc.mono ?_)
        rintro r rfl
        conv => whnf
        refine ⟨fun m hm => by rw [List.mem_singleton.1 hm]; rfl, ?_⟩
        conv => whnf
        refine ⟨by
          show ((T.rows (T.cutL x (kids.take i))).length + 1) * 64 ≤ _
          rw [Go.Cod.rows_len]; omega, ?_⟩
        conv => whnf
        refine ⟨m - 1, by omega, some [0, 1, 4], ?_⟩
        conv => whnf
        refine ⟨i + 1, by omega, .inr ⟨by rw [htk]; simp, ⟨rfl, rfl, rfl, rfl, w1, trivial⟩, ?_⟩⟩
        rw [htk, rows_snocT]
        rfl
    · rw [hlr, ltB_f (by omega)]
      conv => whnf
      rw [List.take_of_length_le (by omega)]
      
      rfl
theorem l4Cut_pure (t : T) (ht : t.Small) (x : Int) : Pure Try.prog 84 [.agg t.cells, .int .i64 x] (· = .agg (t.cut x).cells) := by
  induction ht with
  | @mk id kind text kids g1 g2 g3 g4 g5 ih => exact l4Cut_pure1 _ (.mk g1 g2 g3 g4 g5) x ih
end Go.Cod

namespace Go.Cod
open Go Go.Proofs
set_option maxRecDepth 10000

theorem bareT_none {kind sid at_ : Int} {node : T} {text : List UInt8} {b : Bool} (hb : noneT node = b) : bareT ⟨kind, sid, at_, node, text⟩ = if kind = 1 then decide (text = []) else if kind = 2 then b && decide (text = []) && decide (at_ = 0) else b && decide (at_ = 0) := by
  unfold bareT
  simp only [hb]
set_option maxHeartbeats 4000000 in
theorem l4Bare_pure (s : Stp) : Pure Try.prog 82 [.agg s.cells] (· = .bool (bareT s)) := by
  cases s with
  | mk kind sid at_ node text =>
  cases node with
  | mk nid nk nx nks =>
  have hl : ((T.rows nks).length : Int) = (nks.length : Int) := by rw [Go.Cod.rows_len]
  refine pure_of_awp good Try.func82 rfl (by kernel_rfl) (by decide) ?_
  conv => whnf
  by_cases h1 : nid = 0
  rotate_left
  rw [eqB_f h1]
  rw [bareT_none (b := false) (by simp only [noneT]; simp [h1])]
  rotate_right
  rw [eqB_t h1]
  conv => whnf
  by_cases h2 : nk = []
  rotate_left
  rw [eqS_f h2]
  rw [bareT_none (b := false) (by simp only [noneT]; simp [h2])]
  rotate_right
  rw [eqS_t h2]
  conv => whnf
  by_cases h3 : nx = []
  rotate_left
  rw [eqS_f h3]
  rw [bareT_none (b := false) (by simp only [noneT]; simp [h3])]
  rotate_right
  rw [eqS_t h3]
  conv => whnf
  by_cases h4 : (T.rows nks).length = 0
  rotate_left
  rw [eqB_f (show ((T.rows nks).length : Int) ≠ 0 by omega)]
  rw [bareT_none (b := false) (by simp only [noneT]; simp [h1, h2, h3]; intro e; subst e; exact h4 rfl)]
  rotate_right
  rw [eqB_t (show ((T.rows nks).length : Int) = 0 by omega)]
  rw [bareT_none (b := true) (by simp only [noneT]; simp [h1, h2, h3]; exact List.eq_nil_of_length_eq_zero (by omega))]
  all_goals
    conv => whnf
    by_cases k1 : kind = 1
    · rw [eqB_t k1, if_pos k1]
      conv => whnf
      exact congrArg V.bool (eqS_def _ _)
    · rw [eqB_f k1, if_neg k1]
      conv => whnf
      by_cases k2 : kind = 2
      · rw [eqB_t k2, if_pos k2]
        conv => whnf
        first
          | rfl
          | (by_cases k3 : text = []
             · rw [eqS_t k3]
               conv => whnf
               refine congrArg V.bool ((eqB_def _ _).trans ?_)
               simp [k3]
             · rw [eqS_f k3]
               conv => whnf
               simp [k3])
      · rw [eqB_f k2, if_neg k2]
        conv => whnf
        first
          | rfl
          | (refine congrArg V.bool ((eqB_def _ _).trans ?_)
             simp)
end Go.Cod

namespace Go.Cod
open Go Go.Proofs
set_option maxRecDepth 10000

mutual
theorem putOk_none (x : Int) (n : Nat) : ∀ t : T, x ∉ t.ids → t.PutOk x n
  | .mk id kind text kids, h => by
    simp only [T.ids, List.mem_cons, not_or] at h
    simp only [T.PutOk, if_neg (Ne.symm h.1)]
    exact putOkL_none x n kids h.2
theorem putOkL_none (x : Int) (n : Nat) : ∀ ts : List T, x ∉ T.idsL ts → T.PutOkL x n ts
  | [], _ => trivial
  | t :: ts, h => by
    simp only [T.idsL, List.mem_append, not_or] at h
    exact ⟨putOk_none x n t h.1, putOkL_none x n ts h.2⟩
end
mutual
theorem putOk_found (x : Int) (n : Nat) : ∀ (t s : T), t.ids.Nodup → fT t x = some s → n ≤ s.kids.length → t.PutOk x n
  | .mk id kind text kids, s, hn, hf, hl => by
    simp only [T.ids, List.nodup_cons] at hn
    simp only [fT] at hf
    simp only [T.PutOk]
    split
    · rename_i h
      rw [if_pos h, Option.some.injEq] at hf
      subst hf; exact hl
    · rename_i h
      rw [if_neg h] at hf
      exact putOkL_found x n kids s hn.2 hf hl
theorem putOkL_found (x : Int) (n : Nat) : ∀ (ts : List T) (s : T), (T.idsL ts).Nodup → fL ts x = some s → n ≤ s.kids.length → T.PutOkL x n ts
  | [], _, _, hf, _ => by simp [fL] at hf
  | t :: ts, s, hn, hf, hl => by
    simp only [T.idsL, List.nodup_append] at hn
    simp only [fL] at hf
    cases h1 : fT t x with
    | some s' =>
      rw [h1, Option.some.injEq] at hf
      subst hf
      have hx : x ∈ t.ids := by
        refine Decidable.byContradiction fun h => ?_
        rw [(fT_none t x).2 h] at h1; cases h1
      exact ⟨putOk_found x n t s' hn.1 h1 hl, putOkL_none x n ts fun h => hn.2.2 x hx x h rfl⟩
    | none =>
      rw [h1] at hf
      exact ⟨putOk_none x n t ((fT_none t x).1 h1), putOkL_found x n ts s hn.2.1 hf hl⟩
end
def okO (y : T) : Option T := if okT y = true then some y else none
def doR (t : T) : Option T → V
  | some y => .tup [.agg y.cells, .bool true]
  | none => .tup [.agg t.cells, .bool false]
theorem okT_size {t : T} (h : okT t = true) : t.size ≤ 20 := by
  have := ((okT_iff' t).1 h).2.2
  rwa [T.ids_size] at this
theorem doT_none {t : T} {s : Stp} (h : editT t s = none) : doT t s = none := by unfold doT; rw [h]
theorem doT_some {t y : T} {s : Stp} (h : editT t s = some y) : doT t s = okO y := by unfold doT okO; rw [h]
end Go.Cod

namespace Go.Cod
open Go Go.Proofs
set_option maxRecDepth 10000

theorem okO_some {y z : T} (h : okO y = some z) : y = z ∧ okT y = true := by
  unfold okO at h
  split at h
  · rename_i h1
    exact ⟨Option.some.inj h, h1⟩
  · cases h
theorem doT_ok {t : T} {s : Stp} {y : T} (h : doT t s = some y) : editT t s = some y ∧ okT y = true := by
  unfold doT at h
  cases he : editT t s with
  | none => rw [he] at h; cases h
  | some z =>
    rw [he] at h
    obtain ⟨rfl, h2⟩ := okO_some h
    exact ⟨rfl, h2⟩
theorem editT_small {t : T} {s : Stp} {y : T} (ht : t.Small) (hz : t.size ≤ 1000000) (hs : s.node.Small) (htx : s.text.length ≤ 1048576) (h : editT t s = some y) : y.Small := by
  have hsm := fun x => fT_small t s.id ht x
  unfold editT at h
  cases hf : fT t s.id with
  | none => rw [hf] at h; cases h
  | some x =>
    rw [hf] at h
    have hx := hsm x hf
    have hxk : x.kind.length ≤ 1048576 ∧ x.text.length ≤ 1048576 := by
      cases hx with
      | mk g1 g2 g3 g4 g5 => exact ⟨g2, g3⟩
    simp only at h
    split at h
    · cases h
    split at h
    · split at h
      · cases h
        exact T.mapAt_small _ _ 1000000 (fun y h1 _ h2 => putKidT_small _ s.node y h1 hs h2) t ht hz
      · cases h
    split at h
    · split at h
      · cases h
      · cases h
        exact (T.cut_small s.id t ht).1
    split at h
    · cases h
      exact T.mapAt_small _ _ 1000000 (fun y h1 _ _ => setT_small _ _ y h1 hxk.1 htx) t ht hz
    split at h
    · cases h
      exact T.mapAt_small _ _ 1000000 (fun y h1 _ _ => setT_small _ _ y h1 htx hxk.2) t ht hz
    · cases h
end Go.Cod

namespace Go.Cod
open Go Go.Proofs
set_option maxRecDepth 10000

end Go.Cod

namespace Go.Cod
open Go Go.Proofs
set_option maxRecDepth 10000

/-- The block of what is in a thing behind an insertion: its own, or another one. -/
def hdr (inp : Bool) (p : Nat × Nat) (h : Option (Nat × Nat)) : Nat × Nat := match inp, h with
  | true, some q => q
  | _, _ => p
end Go.Cod

namespace Go.Cod
open Go Go.Proofs
set_option maxRecDepth 10000

end Go.Cod

namespace Go.Cod
open Go Go.Proofs
set_option maxRecDepth 10000

end Go.Cod

namespace Go.Cod
open Go Go.Proofs
set_option maxRecDepth 10000

/- The other deeds, in the same form. -/
end Go.Cod

namespace Go.Cod
open Go Go.Proofs
set_option maxRecDepth 10000

end Go.Cod

namespace Go.Cod
open Go Go.Proofs
set_option maxRecDepth 10000

end Go.Cod

namespace Go.Cod
open Go Go.Proofs
set_option maxRecDepth 10000

end Go.Cod

namespace Go.Cod
open Go Go.Proofs
set_option maxRecDepth 10000

end Go.Cod

namespace Go.Cod
open Go Go.Proofs Go.ChangeShapes Go.WideShapes Go.ChangeAt Go.RowKit
set_option maxRecDepth 10000

/- Steps as arguments. -/
structure Stp.Ok (s : Stp) : Prop where
  k : -9223372036854775808 ≤ s.kind ∧ s.kind ≤ 9223372036854775807
  i : -9223372036854775808 ≤ s.id ∧ s.id ≤ 9223372036854775807
  a : -9223372036854775808 ≤ s.at_ ∧ s.at_ ≤ 9223372036854775807
  n : s.node.Ok
  t : s.text.length ≤ maxLen

end Go.Cod

namespace Go.Cod
open Go Go.Proofs Go.ChangeShapes Go.WideShapes Go.ChangeAt Go.RowKit
set_option maxRecDepth 10000

end Go.Cod

namespace Go.Cod
open Go Go.Proofs Go.ChangeShapes Go.WideShapes Go.ChangeAt Go.RowKit
set_option maxRecDepth 10000

/-- A drawn step. -/
def Stp.Dr (s : Stp) : Prop := s.node.Small ∧ s.node.size ≤ 256 ∧ s.text.length ≤ 1000
def EdR (bs : List UInt8) (p k : Int) (o : Out) (st' : St) : Prop := ∃ (s : Stp) (p' k' : Int), s.Dr ∧ p ≤ p' ∧ p' ≤ p + 1000 ∧ 0 ≤ k' ∧ k' ≤ k + 1000 ∧ o = .ret (.agg s.cells) ∧ st' = [rdO bs p', nxO k']
theorem noneS_small : (T.mk 0 [] [] []).Small := .mk (by omega) (by simp) (by simp) (by simp) (by simp)
set_option maxHeartbeats 8000000 in
theorem l11Edit_full (bs : List UInt8) (hb : bs.length ≤ 2000) (p k : Int) (p0 : 0 ≤ p) (p1 : p ≤ 10000000) (k0 : 0 ≤ k) (k1 : k ≤ 1000000) (t : T) (ht : t.Small) (hz : t.size ≤ 600000) :
    Full Try.prog noY 59 [.ptr 0 0 0, .agg t.cells, .ptr 1 0 0] [rdO bs p, nxO k] (EdR bs p k) := by
  have hn := T.ids_size t
  have hi := l2Ids_pure t ht (by omega)
  have hl : (irows t.ids).length = t.ids.length := by simp [irows]
  have hp : ∀ (q n : Int), 0 ≤ q → q ≤ 1073741824 → Full Try.prog noY 30 [.ptr 0 0 0, .int .i64 n] [rdO bs q] fun o st' => ∃ m : Int, 0 ≤ m ∧ (1 ≤ n → m < n) ∧ o = .ret (.int .i64 m) ∧ st' = [rdO bs (q + 1)] := fun q n h0 h1 => pick_full bs q n hb h0 h1
  have ho : ∀ (q : Int) (ss : List (List UInt8)), 0 ≤ q → q ≤ 1073741824 → 1 ≤ ss.length → ss.length ≤ 1048576 → Full Try.prog noY 63 [.ptr 0 0 0, .sl (drows ss)] [rdO bs q] fun o st' => ∃ s ∈ ss, o = .ret (.str s) ∧ st' = [rdO bs (q + 1)] := fun q ss h0 h1 h2 h3 => of_full bs q ss hb h0 h1 h2 h3
  have hx := fun q h0 h1 => l11Text_full bs q hb h0 h1
  have hT := l11Tree_3 bs hb
  have hpos := size_pos t
  have hg : ∀ (m : Int), 0 ≤ m → m < t.ids.length → ∃ x : Int, (irows t.ids)[m.toNat]? = some [.int .i64 x] := fun m h0 h1 => by
    have : m.toNat < t.ids.length := by omega
    exact ⟨t.ids[m.toNat], by simp [irows, this]⟩
  have hf := fun x => l2Find_pure t ht x
  have hfx : ∀ x, ∃ (s : T) (b : Bool), fR (fT t x) = .tup [.agg s.cells, .bool b] ∧ s.size ≤ 600000 := fun x => by
    cases h : fT t x with
    | none => exact ⟨TZ, false, rfl, by simp [TZ, T.size, T.sizeL]⟩
    | some s => exact ⟨s, true, rfl, by have := fT_size t x s h; omega⟩
  have hkl : ∀ s : T, s.size ≤ 600000 → s.kids.length ≤ 600000 := fun s h => by
    have h2 : ∀ ts : List T, ts.length ≤ T.sizeL ts := length_le_sizeL
    have h3 := T.kids_size s
    have := h2 s.kids
    omega
  generalize irows t.ids = rows at *
  generalize t.ids.length = n at *
  cases t with
  | mk id kind text kids =>
  refine full_of_awp good Try.func59 rfl (by kernel_rfl) (by decide) ?_
  conv => whnf
  refine .inl (hi.mono ?_)
  rintro r rfl
  conv => whnf
  refine ⟨[0], false, ?_⟩
  conv => whnf
  refine (hp p _ p0 (by omega)).mono ?_
  rintro o st' ⟨c, c0, c1, rfl, rfl⟩
  obtain ⟨x, hgx⟩ := hg c c0 (by have := c1 (by omega); omega)
  conv => whnf
  refine ⟨c0, _, _, 1, rfl, hgx, rfl, rfl, ?_⟩
  conv => whnf
  refine .inl ((hf x).mono ?_)
  rintro r rfl
  obtain ⟨y, yb, hy1, hy2⟩ := hfx x
  rw [hy1]
  have hyk := hkl y hy2
  cases y with
  | mk yid yk yt yks =>
  simp only [T.kids] at hyk
  have hyl := Go.Cod.rows_len yks
  conv => whnf
  refine ⟨[0], false, ?_⟩
  conv => whnf
  refine (hp (p + 1) 7 (by omega) (by omega)).mono ?_
  rintro o st' ⟨d, d0, d1, rfl, rfl⟩
  conv => whnf
  have hend : ∀ (s : Stp) (p' k' : Int), s.Dr → p ≤ p' → p' ≤ p + 1000 → 0 ≤ k' → k' ≤ k + 1000 → EdR bs p k (.ret (.agg s.cells)) [rdO bs p', nxO k'] := fun s p' k' h1 h2 h3 h4 h5 => ⟨s, p', k', h1, h2, h3, h4, h5, rfl, rfl⟩
  have hsec : kSec ∈ kinds11 := by decide
  have hput : ∀ (kd : List UInt8) (k' : Int), kd ∈ kinds11 → 0 ≤ k' → k' ≤ 1000000 → Full Try.prog noY 80 [.ptr 0 0 0, .str kd, .int .i64 3, .ptr 1 0 0] [rdO bs (p + 1 + 1 + 1 + 1), nxO k'] (TreeR bs (p + 1 + 1 + 1 + 1) k' 256) := fun kd k' h1 h2 h3 => hT (p + 1 + 1 + 1 + 1) k' kd (by omega) (by omega) h2 (by omega) h1
  have hw : 90 < k.tmod 100 → IntKind.i64.wrap (k - 50) = k - 50 ∧ 0 ≤ k - 50 := fun h3 => by
    have h5 : k.tmod 100 ≤ k := by rw [Int.tmod_eq_emod_of_nonneg k0]; omega
    exact ⟨wrap64 (by omega) (by omega), by omega⟩
  have hw0 : 90 < k.tmod 100 → 0 ≤ k - 50 := fun h => (hw h).2
  have hsec : kSec ∈ kinds11 := by decide
  have hput : ∀ (kd : List UInt8) (k' : Int), kd ∈ kinds11 → 0 ≤ k' → k' ≤ 1000000 → Full Try.prog noY 80 [.ptr 0 0 0, .str kd, .int .i64 3, .ptr 1 0 0] [rdO bs (p + 1 + 1 + 1 + 1), nxO k'] (TreeR bs (p + 1 + 1 + 1 + 1) k' 256) := fun kd k' h1 h2 h3 => hT (p + 1 + 1 + 1 + 1) k' kd (by omega) (by omega) h2 (by omega) h1
  have hw : 90 < k.tmod 100 → IntKind.i64.wrap (k - 50) = k - 50 ∧ 0 ≤ k - 50 := fun h3 => by
    have h5 : k.tmod 100 ≤ k := by rw [Int.tmod_eq_emod_of_nonneg k0]; omega
    exact ⟨wrap64 (by omega) (by omega), by omega⟩
  have hw0 : 90 < k.tmod 100 → 0 ≤ k - 50 := fun h => (hw h).2
  by_cases e0 : d = 0
  · rw [eqB_t e0]
    conv => whnf
    refine ⟨[0], false, ?_⟩
    conv => whnf
    refine (ho (p + 1 + 1) [[112, 97, 114], [112, 97, 114], [115, 101, 99], [110, 111, 116, 101], [116, 105, 116, 108, 101]] (by omega) (by omega) (by simp) (by simp)).mono ?_
    rintro o st' ⟨kd, hkd, rfl, rfl⟩
    have hkd : kd ∈ kinds11 := by
      simp only [List.mem_cons, List.not_mem_nil, or_false] at hkd
      simp only [kinds11, kPar, kSec, kNote, kTitle, List.mem_cons, List.not_mem_nil, or_false]
      rcases hkd with rfl | rfl | rfl | rfl | rfl <;> simp
    conv => whnf
    by_cases hdoc : yk = [100, 111, 99]
    case' pos =>
      rw [eqS_t hdoc]
      conv => whnf
    case' neg =>
      rw [eqS_f hdoc]
      conv => whnf
    all_goals
      refine ⟨by omega, ?_⟩
      conv => whnf
      by_cases hm : 90 < k.tmod 100
      · rw [ltB_t hm]
        conv => whnf
        rw [(hw hm).1]
        refine ⟨[0], false, ?_⟩
        conv => whnf
        refine (hp (p + 1 + 1 + 1) _ (by omega) (by omega)).mono ?_
        rintro o st' ⟨c, c0, c1, rfl, rfl⟩
        conv => whnf
        refine ⟨[0, 1], false, ?_⟩
        conv => whnf
        first
          | refine (hput kSec (k - 50) hsec (by first | omega | exact hw0 hm) (by omega)).mono ?_
          | refine (hput kd (k - 50) hkd (by first | omega | exact hw0 hm) (by omega)).mono ?_
        rintro o st' ⟨nt, p', k', n1, n2, n3, n4, n5, n6, rfl, rfl⟩
        rcases nt with ⟨ni, nk, nx, nks⟩
        conv => whnf
        refine ⟨[], false, ?_⟩
        conv => whnf
        exact hend ⟨1, x, c, .mk ni nk nx nks, []⟩ p' k' ⟨n1, by show (T.mk ni nk nx nks).size ≤ 256; omega, by simp⟩ (by omega) (by omega) (by omega) (by omega)
      · rw [ltB_f (by omega)]
        conv => whnf
        refine ⟨[0], false, ?_⟩
        conv => whnf
        refine (hp (p + 1 + 1 + 1) _ (by omega) (by omega)).mono ?_
        rintro o st' ⟨c, c0, c1, rfl, rfl⟩
        conv => whnf
        refine ⟨[0, 1], false, ?_⟩
        conv => whnf
        first
          | refine (hput kSec k hsec (by first | omega | exact hw0 hm) (by omega)).mono ?_
          | refine (hput kd k hkd (by first | omega | exact hw0 hm) (by omega)).mono ?_
        rintro o st' ⟨nt, p', k', n1, n2, n3, n4, n5, n6, rfl, rfl⟩
        rcases nt with ⟨ni, nk, nx, nks⟩
        conv => whnf
        refine ⟨[], false, ?_⟩
        conv => whnf
        exact hend ⟨1, x, c, .mk ni nk nx nks, []⟩ p' k' ⟨n1, by show (T.mk ni nk nx nks).size ≤ 256; omega, by simp⟩ (by omega) (by omega) (by omega) (by omega)
  rw [eqB_f e0]
  conv => whnf
  by_cases e1 : d = 1
  · rw [eqB_t e1]
    conv => whnf
    refine ⟨[0], false, ?_⟩
    conv => whnf
    refine (ho (p + 1 + 1) [[112, 97, 114], [112, 97, 114], [115, 101, 99], [110, 111, 116, 101], [116, 105, 116, 108, 101]] (by omega) (by omega) (by simp) (by simp)).mono ?_
    rintro o st' ⟨kd, hkd, rfl, rfl⟩
    have hkd : kd ∈ kinds11 := by
      simp only [List.mem_cons, List.not_mem_nil, or_false] at hkd
      simp only [kinds11, kPar, kSec, kNote, kTitle, List.mem_cons, List.not_mem_nil, or_false]
      rcases hkd with rfl | rfl | rfl | rfl | rfl <;> simp
    conv => whnf
    by_cases hdoc : yk = [100, 111, 99]
    case' pos =>
      rw [eqS_t hdoc]
      conv => whnf
    case' neg =>
      rw [eqS_f hdoc]
      conv => whnf
    all_goals
      refine ⟨by omega, ?_⟩
      conv => whnf
      by_cases hm : 90 < k.tmod 100
      · rw [ltB_t hm]
        conv => whnf
        rw [(hw hm).1]
        refine ⟨[0], false, ?_⟩
        conv => whnf
        refine (hp (p + 1 + 1 + 1) _ (by omega) (by omega)).mono ?_
        rintro o st' ⟨c, c0, c1, rfl, rfl⟩
        conv => whnf
        refine ⟨[0, 1], false, ?_⟩
        conv => whnf
        first
          | refine (hput kSec (k - 50) hsec (by first | omega | exact hw0 hm) (by omega)).mono ?_
          | refine (hput kd (k - 50) hkd (by first | omega | exact hw0 hm) (by omega)).mono ?_
        rintro o st' ⟨nt, p', k', n1, n2, n3, n4, n5, n6, rfl, rfl⟩
        rcases nt with ⟨ni, nk, nx, nks⟩
        conv => whnf
        refine ⟨[], false, ?_⟩
        conv => whnf
        exact hend ⟨1, x, c, .mk ni nk nx nks, []⟩ p' k' ⟨n1, by show (T.mk ni nk nx nks).size ≤ 256; omega, by simp⟩ (by omega) (by omega) (by omega) (by omega)
      · rw [ltB_f (by omega)]
        conv => whnf
        refine ⟨[0], false, ?_⟩
        conv => whnf
        refine (hp (p + 1 + 1 + 1) _ (by omega) (by omega)).mono ?_
        rintro o st' ⟨c, c0, c1, rfl, rfl⟩
        conv => whnf
        refine ⟨[0, 1], false, ?_⟩
        conv => whnf
        first
          | refine (hput kSec k hsec (by first | omega | exact hw0 hm) (by omega)).mono ?_
          | refine (hput kd k hkd (by first | omega | exact hw0 hm) (by omega)).mono ?_
        rintro o st' ⟨nt, p', k', n1, n2, n3, n4, n5, n6, rfl, rfl⟩
        rcases nt with ⟨ni, nk, nx, nks⟩
        conv => whnf
        refine ⟨[], false, ?_⟩
        conv => whnf
        exact hend ⟨1, x, c, .mk ni nk nx nks, []⟩ p' k' ⟨n1, by show (T.mk ni nk nx nks).size ≤ 256; omega, by simp⟩ (by omega) (by omega) (by omega) (by omega)
  rw [eqB_f e1]
  conv => whnf
  by_cases e2 : d = 2
  · rw [eqB_t e2]
    conv => whnf
    refine ⟨[], false, ?_⟩
    conv => whnf
    exact hend ⟨2, x, 0, .mk 0 [] [] [], []⟩ _ k ⟨noneS_small, by simp [T.size, T.sizeL], by simp⟩ (by omega) (by omega) (by omega) (by omega)
  rw [eqB_f e2]
  conv => whnf
  by_cases e3 : d = 3
  · rw [eqB_t e3]
    conv => whnf
    refine ⟨[0], false, ?_⟩
    conv => whnf
    refine (hp (p + 1 + 1) 3 (by omega) (by omega)).mono ?_
    rintro o st' ⟨c, c0, c1, rfl, rfl⟩
    conv => whnf
    by_cases e4 : c = 0
    · rw [eqB_t e4]
      conv => whnf
      refine ⟨[0], false, ?_⟩
      conv => whnf
      refine (ho (p + 1 + 1 + 1) [[112, 97, 114], [110, 111, 116, 101], [115, 101, 99], [116, 105, 116, 108, 101], [120]] (by omega) (by omega) (by simp) (by simp)).mono ?_
      rintro o st' ⟨kd, hkd, rfl, rfl⟩
      have hkl : kd.length ≤ 1000 := by
        simp only [List.mem_cons, List.not_mem_nil, or_false] at hkd
        rcases hkd with rfl | rfl | rfl | rfl | rfl <;> decide
      conv => whnf
      refine ⟨[], false, ?_⟩
      conv => whnf
      exact hend ⟨4, x, 0, .mk 0 [] [] [], kd⟩ _ k ⟨noneS_small, by simp [T.size, T.sizeL], hkl⟩ (by omega) (by omega) (by omega) (by omega)
    · rw [eqB_f e4]
      conv => whnf
      refine ⟨[0], false, ?_⟩
      conv => whnf
      refine (hx (p + 1 + 1 + 1) (by omega) (by omega)).mono ?_
      rintro o st' ⟨tx, htx, rfl, rfl⟩
      conv => whnf
      refine ⟨[], false, ?_⟩
      conv => whnf
      exact hend ⟨3, x, 0, .mk 0 [] [] [], tx⟩ _ k ⟨noneS_small, by simp [T.size, T.sizeL], by simp only; omega⟩ (by omega) (by omega) (by omega) (by omega)
  · rw [eqB_f e3]
    conv => whnf
    refine ⟨[0], false, ?_⟩
    conv => whnf
    refine (hx (p + 1 + 1) (by omega) (by omega)).mono ?_
    rintro o st' ⟨tx, htx, rfl, rfl⟩
    conv => whnf
    refine ⟨[], false, ?_⟩
    conv => whnf
    exact hend ⟨3, x, 0, .mk 0 [] [] [], tx⟩ _ k ⟨noneS_small, by simp [T.size, T.sizeL], by simp only; omega⟩ (by omega) (by omega) (by omega) (by omega)
end Go.Cod

namespace Go.Cod
open Go Go.Proofs Go.ChangeShapes Go.WideShapes Go.ChangeAt Go.RowKit
set_option maxRecDepth 10000

end Go.Cod

namespace Go.Cod
open Go Go.Proofs
set_option maxRecDepth 10000

/- What a step leaves as it was. -/
mutual
def T.hd : T → List (Int × List UInt8 × List UInt8)
  | .mk id kind text kids => (id, kind, text) :: T.hdL kids
def T.hdL : List T → List (Int × List UInt8 × List UInt8)
  | [] => []
  | t :: ts => t.hd ++ T.hdL ts
end
end Go.Cod

namespace Go.Cod
open Go Go.Proofs
set_option maxRecDepth 10000

/- Steps, one behind the other. -/
def prows (ls : List Stp) : List (List V) := ls.map Stp.cells
theorem prows_len (ls : List Stp) : (prows ls).length = ls.length := by simp [prows]
theorem prows_get (ls : List Stp) (i : Nat) (h : i < ls.length) : (prows ls)[i]? = some ls[i].cells := by simp [prows, h]
theorem treeCopy_pure (t : T) (ht : t.Small) : Pure Try.prog 42 [.agg t.cells] (· = .agg t.cells) := by
  refine Full.freeze (Full.start (treeCopy_acc t ht [])) ?_
  rintro o st' ⟨l, h1, h2, rfl, rfl⟩
  refine ⟨_, _, .agg l.erase.cells, rfl, rfl, l.viewA h2 (fun e he => by simpa using he), ?_, by rw [h1]⟩
  cases l with
  | mk id kind text h kids => rcases h with _ | ⟨b, c⟩ <;> rfl
end Go.Cod

namespace Go.Cod
open Go Go.Proofs
set_option linter.all false
set_option maxRecDepth 10000

/-- Steps as they are laid: of those that put nothing the thing is a zero. -/
def Stp.cellsN (s : Stp) : List V := [.int .i64 s.kind, .int .i64 s.id, .int .i64 s.at_] ++ (if s.kind = 1 then s.node.cells else [.int .i64 0, .str [], .str [], .nils]) ++ [.str s.text]
def nrows (ls : List Stp) : List (List V) := ls.map Stp.cellsN
theorem nrows_len (ls : List Stp) : (nrows ls).length = ls.length := by simp [nrows]
theorem nrows_append (a b : List Stp) : nrows (a ++ b) = nrows a ++ nrows b := by simp [nrows]
theorem nrows_wid (ls : List Stp) : ∀ m ∈ nrows ls, m.length = 8 := by
  intro m hm
  obtain ⟨s, _, rfl⟩ := List.mem_map.1 hm
  unfold Stp.cellsN
  split
  · simp [T.cells_len4]
  · rfl
set_option maxHeartbeats 4000000 in
theorem diffWords_pure (w i : T) : Pure Try.prog 34 [.agg (w.cells ++ i.cells)] (· = .sl (nrows (wordsOf (w, i)))) := by
  obtain ⟨wi, wk, wx, wks⟩ := w
  obtain ⟨ii, ik, ix, iks⟩ := i
  have hwd : wordsOf (T.mk wi wk wx wks, T.mk ii ik ix iks) = (if wk ≠ ik then [⟨4, ii, 0, TZ, ik⟩] else []) ++ (if wx ≠ ix then [⟨3, ii, 0, TZ, ix⟩] else []) := rfl
  rw [hwd]
  refine pure_of_awp good Try.func34 rfl (by kernel_rfl) (by decide) ?_
  conv => whnf
  rw [eqS_def]
  by_cases h1 : wk = ik
  · rw [decide_eq_true h1, if_neg (by simp [h1])]
    conv => whnf
    rw [eqS_def]
    by_cases h2 : wx = ix
    · rw [decide_eq_true h2, if_neg (by simp [h2])]
      conv => whnf
      rfl
    · rw [decide_eq_false h2, if_pos h2]
      conv => whnf
      refine ⟨fun m hm => by rw [List.mem_singleton.1 hm]; rfl, ?_⟩
      conv => whnf
      refine ⟨by show 1 * 104 ≤ _; omega, .inr ⟨(by intro e; cases e), ?_⟩⟩
      conv => whnf
      rfl
  · rw [decide_eq_false h1, if_pos h1]
    conv => whnf
    refine ⟨fun m hm => by rw [List.mem_singleton.1 hm]; rfl, ?_⟩
    conv => whnf
    refine ⟨by show 1 * 104 ≤ _; omega, .inr ⟨(by intro e; cases e), ?_⟩⟩
    conv => whnf
    rw [eqS_def]
    by_cases h2 : wx = ix
    · rw [decide_eq_true h2, if_neg (by simp [h2])]
      conv => whnf
      rfl
    · rw [decide_eq_false h2, if_pos h2]
      conv => whnf
      refine ⟨fun m hm => by rw [List.mem_singleton.1 hm]; rfl, ?_⟩
      conv => whnf
      refine ⟨by show (1 + 1) * 104 ≤ _; omega, ?_⟩
      conv => whnf
      rfl
end Go.Cod

namespace Go.Cod
open Go Go.Proofs
set_option linter.all false
set_option maxRecDepth 10000

/-- What is kept, as a map. -/
def kbO (rows : List (List V)) : O := ⟨rows, kindCode .i64, false, true, false, .map⟩
def KeptMap (kept : Int → Bool) (rows : List (List V)) : Prop := ∀ x : Int, findRow (.int .i64 x) rows = if kept x then some (.bool true) else none
set_option maxHeartbeats 8000000 in
theorem diffCuts_full (kept : Int → Bool) (rows : List (List V)) (hK : KeptMap kept rows) (id : Int) (kind text : List UInt8) (kids : List T) (hl : kids.length ≤ 1048576) (i : T) :
    Full Try.prog noY 33 [.agg (T.mk id kind text kids).cells, .map 0] [kbO rows] fun o st' => o = .ret (.sl (nrows (cutsOf kept (.mk id kind text kids, i)))) ∧ st' = [kbO rows] := by
  have hlr := Go.Cod.rows_len kids
  have hres : cutsOf kept (.mk id kind text kids, i) = (kids.filter fun k => !kept k.id).map fun k => cutStp k.id := rfl
  rw [hres]
  refine full_of_awp good Try.func33 rfl (by kernel_rfl) (by decide) ?_
  conv => whnf
  refine loop_drop (fun n fr st => ∃ k : Nat, n + k = kids.length ∧
      ((((kids.take k).filter fun k => !kept k.id) = [] ∧ Holds fr [(1, .map 0), (5, .nils), (9, .sl (T.rows kids)), (10, .int .i64 kids.length), (11, .int .i64 k)] ∧ st = [kbO rows, ⟨[[.int .i64 id, .str kind, .str text, .sl (T.rows kids)]], 4, true, true, true, .cell⟩]) ∨
       (((kids.take k).filter fun k => !kept k.id) ≠ [] ∧ Holds fr [(1, .map 0), (5, .own 2), (9, .sl (T.rows kids)), (10, .int .i64 kids.length), (11, .int .i64 k)] ∧ st = [kbO rows, ⟨[[.int .i64 id, .str kind, .str text, .sl (T.rows kids)]], 4, true, true, true, .cell⟩, ⟨nrows (((kids.take k).filter fun k => !kept k.id).map fun k => cutStp k.id), 8, true, true, false, .cell⟩]))) kids.length none
    ⟨0, rfl, .inl ⟨rfl, ⟨rfl, rfl, rfl, by rw [← hlr]; rfl, rfl, trivial⟩, rfl⟩⟩ ?_
  rintro n fr st ⟨k, hk, hst⟩
  by_cases hlt : k < kids.length
  · have hg := Go.Cod.rows_get kids k hlt
    have htk : (kids.take (k + 1)).filter (fun k => !kept k.id) = ((kids.take k).filter fun k => !kept k.id) ++ if kept kids[k].id then [] else [kids[k]] := by
      rw [List.take_succ_eq_append_getElem hlt, List.filter_append]
      congr 1
      cases h : kept kids[k].id <;> simp [h]
    have hf := hK kids[k].id
    have hwk : V.int .i64 (IntKind.i64.wrap ((k : Int) + 1)) = .int .i64 ((k + 1 : Nat) : Int) := by rw [wrapJ1 k (by omega)]
    have hln : ((kids.take k).filter fun k => !kept k.id).length ≤ k := Nat.le_trans (List.length_filter_le _ _) (by rw [List.length_take]; omega)
    generalize kids[k] = t at *
    generalize (kids.take k).filter (fun k => !kept k.id) = L at *
    obtain ⟨ti, tk, tx, tks⟩ := t
    have hti : (T.mk ti tk tx tks).id = ti := rfl
    rw [hti] at hf htk
    cases hkp : kept ti with
    | true =>
      simp only [hkp, if_true] at hf
      simp only [hkp, if_true, List.append_nil] at htk
      rcases hst with ⟨rfl, hh, rfl⟩ | ⟨hL, hh, rfl⟩
      · obtain ⟨fr, rfl⟩ := hh.split
        clear hh
        conv => whnf
        rw [ltB_t (by omega)]
        conv => whnf
        refine ⟨by omega, T.rows kids, _, 4, rfl, hg, rfl, rfl, ?_⟩
        conv => whnf
        refine AtKey_intro _ hf ?_
        conv => whnf
        refine ⟨n - 1, by omega, some [0, 1], ?_⟩
        conv => whnf
        exact ⟨k + 1, by omega, .inl ⟨htk, ⟨rfl, rfl, rfl, rfl, hwk, trivial⟩, rfl⟩⟩
      · obtain ⟨fr, rfl⟩ := hh.split
        clear hh
        conv => whnf
        rw [ltB_t (by omega)]
        conv => whnf
        refine ⟨by omega, T.rows kids, _, 4, rfl, hg, rfl, rfl, ?_⟩
        conv => whnf
        refine AtKey_intro _ hf ?_
        conv => whnf
        refine ⟨n - 1, by omega, some [0, 1, 2], ?_⟩
        conv => whnf
        exact ⟨k + 1, by omega, .inr ⟨by rw [htk]; exact hL, ⟨rfl, rfl, rfl, rfl, hwk, trivial⟩, by rw [htk]; rfl⟩⟩
    | false =>
      simp only [hkp, Bool.false_eq_true, if_false] at hf
      simp only [hkp, Bool.false_eq_true, if_false] at htk
      rcases hst with ⟨rfl, hh, rfl⟩ | ⟨hL, hh, rfl⟩
      · obtain ⟨fr, rfl⟩ := hh.split
        clear hh
        conv => whnf
        rw [ltB_t (by omega)]
        conv => whnf
        refine ⟨by omega, T.rows kids, _, 4, rfl, hg, rfl, rfl, ?_⟩
        conv => whnf
        refine AtKey_intro _ hf ?_
        conv => whnf
        refine ⟨fun m hm => by rw [List.mem_singleton.1 hm]; rfl, ?_⟩
        conv => whnf
        refine ⟨by show 1 * 104 ≤ _; omega, .inr ⟨(by intro e; cases e), ?_⟩⟩
        conv => whnf
        refine ⟨n - 1, by omega, some [0, 1, 4], ?_⟩
        conv => whnf
        exact ⟨k + 1, by omega, .inr ⟨by rw [htk]; simp, ⟨rfl, rfl, rfl, rfl, hwk, trivial⟩, by rw [htk]; rfl⟩⟩
      · obtain ⟨fr, rfl⟩ := hh.split
        clear hh
        have hnl : (nrows (L.map fun k => cutStp k.id)).length = L.length := by rw [nrows_len, List.length_map]
        conv => whnf
        rw [ltB_t (by omega)]
        conv => whnf
        refine ⟨by omega, T.rows kids, _, 4, rfl, hg, rfl, rfl, ?_⟩
        conv => whnf
        refine AtKey_intro _ hf ?_
        conv => whnf
        refine ⟨fun m hm => by rw [List.mem_singleton.1 hm]; rfl, ?_⟩
        conv => whnf
        refine ⟨by
          show ((nrows (L.map fun k => cutStp k.id)).length + 1) * 104 ≤ _
          omega, ?_⟩
        conv => whnf
        refine ⟨n - 1, by omega, some [0, 1, 5], ?_⟩
        conv => whnf
        refine ⟨k + 1, by omega, .inr ⟨by rw [htk]; simp, ⟨rfl, rfl, rfl, rfl, hwk, trivial⟩, ?_⟩⟩
        rw [htk, List.map_append, nrows_append]
        rfl
  · have htk : kids.take k = kids := List.take_of_length_le (by omega)
    rw [htk] at hst
    rcases hst with ⟨hL, hh, rfl⟩ | ⟨hL, hh, rfl⟩
    all_goals
      obtain ⟨fr, rfl⟩ := hh.split
      clear hh
      conv => whnf
      rw [ltB_f (by omega)]
      conv => whnf
      refine ⟨[], false, ?_⟩
      conv => whnf
    · exact ⟨by rw [hL]; rfl, rfl⟩
    · exact ⟨rfl, rfl⟩
end Go.Cod

namespace Go.Cod
open Go Go.Proofs
set_option linter.all false
set_option maxRecDepth 10000

theorem putsL_append (kept : Int → Bool) (x : Int) : ∀ (a b : List T) (n : Nat), putsL kept x n (a ++ b) = putsL kept x n a ++ putsL kept x (n + a.length) b
  | [], b, n => by simp [putsL]
  | k :: ks, b, n => by
    simp only [List.cons_append, putsL, putsL_append kept x ks b (n + 1), List.append_assoc, List.length_cons]
    congr 3
    omega
mutual
theorem puts_len (kept : Int → Bool) : ∀ t : T, (putsT kept t).length + 1 ≤ t.size
  | .mk id kind text kids => by
    have := putsL_len kept id 0 kids
    simp only [putsT, T.size]
    omega
theorem putsL_len (kept : Int → Bool) (x : Int) : ∀ (n : Nat) (ks : List T), (putsL kept x n ks).length ≤ T.sizeL ks
  | _, [] => by simp [putsL]
  | n, k :: ks => by
    have h1 := puts_len kept k
    have h2 := putsL_len kept x (n + 1) ks
    simp only [putsL, List.length_append, T.sizeL]
    split
    · omega
    · simp only [List.length_singleton]
      omega
end
theorem sizeL_take (ks : List T) (k : Nat) : T.sizeL (ks.take k) ≤ T.sizeL ks := by
  induction ks generalizing k with
  | nil => simp
  | cons s ks ih =>
    cases k with
    | zero => simp [T.sizeL]
    | succ k => simp only [List.take_succ_cons, T.sizeL]; have := ih k; omega
set_option maxHeartbeats 8000000 in
theorem diffPuts_run (kept : Int → Bool) (rows : List (List V)) (hK : KeptMap kept rows) (id : Int) (kind text : List UInt8) (kids : List T) (hl : kids.length ≤ 1048576) (hz : T.sizeL kids ≤ 1048576) (hsm : ∀ t ∈ kids, t.Small)
    (ih : ∀ t ∈ kids, Full Try.prog noY 35 [.agg t.cells, .map 0] [kbO rows] fun o st' => o = .ret (.sl (nrows (putsT kept t))) ∧ st' = [kbO rows]) :
    Full Try.prog noY 35 [.agg (T.mk id kind text kids).cells, .map 0] [kbO rows] fun o st' => o = .ret (.sl (nrows (putsT kept (.mk id kind text kids)))) ∧ st' = [kbO rows] := by
  have hlr := Go.Cod.rows_len kids
  have hres : putsT kept (.mk id kind text kids) = putsL kept id 0 kids := by rw [putsT]
  rw [hres]
  refine full_of_draw good Try.func35 rfl (by kernel_rfl) (by decide) fun X hX => ?_
  conv => whnf
  refine loop_drop (fun n fr st => ∃ k : Nat, n + k = kids.length ∧
      ((putsL kept id 0 (kids.take k) = [] ∧ Holds fr [(1, .map 0), (2, .ptr 1 0 0), (5, .nils), (9, .sl (T.rows kids)), (10, .int .i64 kids.length), (11, .int .i64 k)] ∧ st = [kbO rows, ⟨[[.int .i64 id, .str kind, .str text, .sl (T.rows kids)]], 4, true, true, true, .cell⟩]) ∨
       (putsL kept id 0 (kids.take k) ≠ [] ∧ Holds fr [(1, .map 0), (2, .ptr 1 0 0), (5, .own 2), (9, .sl (T.rows kids)), (10, .int .i64 kids.length), (11, .int .i64 k)] ∧ st = [kbO rows, ⟨[[.int .i64 id, .str kind, .str text, .sl (T.rows kids)]], 4, true, true, true, .cell⟩, ⟨nrows (putsL kept id 0 (kids.take k)), 8, true, true, false, .cell⟩]))) kids.length none
    ⟨0, rfl, .inl ⟨rfl, ⟨rfl, rfl, rfl, rfl, by rw [← hlr]; rfl, rfl, trivial⟩, rfl⟩⟩ ?_
  rintro n fr st ⟨k, hk, hst⟩
  by_cases hlt : k < kids.length
  · have hg := Go.Cod.rows_get kids k hlt
    have htk : putsL kept id 0 (kids.take (k + 1)) = putsL kept id 0 (kids.take k) ++ if kept kids[k].id then putsT kept kids[k] else [⟨1, id, k, kids[k], []⟩] := by
      rw [List.take_succ_eq_append_getElem hlt, putsL_append, List.length_take, Nat.min_eq_left (by omega), Nat.zero_add]
      congr 1
      simp only [putsL, List.append_nil]
    have hf := hK kids[k].id
    have hwk : V.int .i64 (IntKind.i64.wrap ((k : Int) + 1)) = .int .i64 ((k + 1 : Nat) : Int) := by rw [wrapJ1 k (by omega)]
    have hln : (putsL kept id 0 (kids.take k)).length ≤ 1048576 := Nat.le_trans (putsL_len kept id 0 _) (Nat.le_trans (sizeL_take _ _) hz)
    have hpn : (putsT kept kids[k]).length ≤ 1048576 := by
      have h1 := puts_len kept kids[k]
      have h2 := sizeL_mem (List.getElem_mem hlt)
      omega
    have hrec := ih kids[k] (List.getElem_mem hlt)
    have hcp := treeCopy_pure kids[k] (hsm _ (List.getElem_mem hlt))
    generalize kids[k] = t at *
    generalize putsL kept id 0 (kids.take k) = L at *
    generalize putsT kept t = Q at *
    obtain ⟨ti, tk, tx, tks⟩ := t
    have hti : (T.mk ti tk tx tks).id = ti := rfl
    rw [hti] at hf htk
    cases hkp : kept ti with
    | true =>
      simp only [hkp, if_true] at hf
      simp only [hkp, if_true] at htk
      have hql := nrows_len Q
      have hqw := nrows_wid Q
      rcases hst with ⟨rfl, hh, rfl⟩ | ⟨hL, hh, rfl⟩
      · obtain ⟨fr, rfl⟩ := hh.split
        clear hh
        conv => whnf
        rw [ltB_t (by omega)]
        conv => whnf
        refine ⟨by omega, T.rows kids, _, 4, rfl, hg, rfl, rfl, ?_⟩
        conv => whnf
        refine AtKey_intro _ hf ?_
        conv => whnf
        refine ⟨[0], false, ?_⟩
        conv => whnf
        refine hrec.mono ?_
        rintro o st' ⟨rfl, rfl⟩
        conv => whnf
        refine ⟨hqw, ?_⟩
        conv => whnf
        refine ⟨by
          show (nrows Q).length * 104 ≤ _
          omega, ?_⟩
        by_cases hq : Q = []
        · refine .inl ⟨by rw [hq]; rfl, ?_⟩
          conv => whnf
          refine ⟨n - 1, by omega, some [0, 1], ?_⟩
          conv => whnf
          exact ⟨k + 1, by omega, .inl ⟨by rw [htk, hq]; rfl, ⟨rfl, rfl, rfl, rfl, rfl, hwk, trivial⟩, rfl⟩⟩
        · refine .inr ⟨by intro e; exact hq (by simpa [nrows] using e), ?_⟩
          conv => whnf
          refine ⟨n - 1, by omega, some [0, 1, 3], ?_⟩
          conv => whnf
          exact ⟨k + 1, by omega, .inr ⟨by rw [htk]; simpa using hq, ⟨rfl, rfl, rfl, rfl, rfl, hwk, trivial⟩, by rw [htk]; rfl⟩⟩
      · obtain ⟨fr, rfl⟩ := hh.split
        clear hh
        have hnl := nrows_len L
        conv => whnf
        rw [ltB_t (by omega)]
        conv => whnf
        refine ⟨by omega, T.rows kids, _, 4, rfl, hg, rfl, rfl, ?_⟩
        conv => whnf
        refine AtKey_intro _ hf ?_
        conv => whnf
        refine ⟨[0], false, ?_⟩
        conv => whnf
        refine hrec.mono ?_
        rintro o st' ⟨rfl, rfl⟩
        conv => whnf
        refine ⟨hqw, ?_⟩
        conv => whnf
        refine ⟨by
          show ((nrows L).length + (nrows Q).length) * 104 ≤ _
          omega, ?_⟩
        conv => whnf
        refine ⟨n - 1, by omega, some [0, 1, 4], ?_⟩
        conv => whnf
        refine ⟨k + 1, by omega, .inr ⟨by rw [htk]; simp [hL], ⟨rfl, rfl, rfl, rfl, rfl, hwk, trivial⟩, ?_⟩⟩
        rw [htk, nrows_append]
        rfl
    | false =>
      simp only [hkp, Bool.false_eq_true, if_false] at hf
      simp only [hkp, Bool.false_eq_true, if_false] at htk
      rcases hst with ⟨rfl, hh, rfl⟩ | ⟨hL, hh, rfl⟩
      · obtain ⟨fr, rfl⟩ := hh.split
        clear hh
        conv => whnf
        rw [ltB_t (by omega)]
        conv => whnf
        refine ⟨by omega, T.rows kids, _, 4, rfl, hg, rfl, rfl, ?_⟩
        conv => whnf
        refine AtKey_intro _ hf ?_
        conv => whnf
        refine draw_go hX ?_
        conv => whnf
        refine .inl (hcp.mono ?_)
        rintro r rfl
        conv => whnf
        repeat' (first
          | (refine ⟨fun m hm => by rw [List.mem_singleton.1 hm]; rfl, ?_⟩
             conv => whnf)
          | (refine And.intro (by (conv => whnf); rfl) ?_
             conv => whnf)
          | fail)
        refine ⟨by show 1 * 104 ≤ _; omega, .inr ⟨(by intro e; cases e), ?_⟩⟩
        conv => whnf
        refine ⟨n - 1, by omega, some [0, 1, 4], ?_⟩
        conv => whnf
        exact ⟨k + 1, by omega, .inr ⟨by rw [htk]; simp, ⟨rfl, rfl, rfl, rfl, rfl, hwk, trivial⟩, by rw [htk]; rfl⟩⟩
      · obtain ⟨fr, rfl⟩ := hh.split
        clear hh
        have hnl := nrows_len L
        conv => whnf
        rw [ltB_t (by omega)]
        conv => whnf
        refine ⟨by omega, T.rows kids, _, 4, rfl, hg, rfl, rfl, ?_⟩
        conv => whnf
        refine AtKey_intro _ hf ?_
        conv => whnf
        refine draw_go hX ?_
        conv => whnf
        refine .inl (hcp.mono ?_)
        rintro r rfl
        conv => whnf
        repeat' (first
          | (refine ⟨fun m hm => by rw [List.mem_singleton.1 hm]; rfl, ?_⟩
             conv => whnf)
          | (refine And.intro (by (conv => whnf); rfl) ?_
             conv => whnf)
          | fail)
        refine ⟨by
          show ((nrows L).length + 1) * 104 ≤ _
          omega, ?_⟩
        conv => whnf
        refine ⟨n - 1, by omega, some [0, 1, 5], ?_⟩
        conv => whnf
        refine ⟨k + 1, by omega, .inr ⟨by rw [htk]; simp, ⟨rfl, rfl, rfl, rfl, rfl, hwk, trivial⟩, ?_⟩⟩
        rw [htk, nrows_append]
        rfl
  · have htk : kids.take k = kids := List.take_of_length_le (by omega)
    rw [htk] at hst
    rcases hst with ⟨hL, hh, rfl⟩ | ⟨hL, hh, rfl⟩
    all_goals
      obtain ⟨fr, rfl⟩ := hh.split
      clear hh
      conv => whnf
      rw [ltB_f (by omega)]
      conv => whnf
      refine ⟨[], false, ?_⟩
      conv => whnf
    · exact ⟨by rw [hL]; rfl, rfl⟩
    · exact ⟨rfl, rfl⟩
theorem diffPuts_full (kept : Int → Bool) (rows : List (List V)) (hK : KeptMap kept rows) : ∀ t : T, t.Small → t.size ≤ 1048577 → Full Try.prog noY 35 [.agg t.cells, .map 0] [kbO rows] fun o st' => o = .ret (.sl (nrows (putsT kept t))) ∧ st' = [kbO rows] := by
  intro t
  induction t using T.ind with
  | h id kd tx ks ih =>
    intro ht hz
    cases ht with
    | mk i1 i2 i3 i4 i5 =>
    simp only [T.size] at hz
    refine diffPuts_run kept rows hK id kd tx ks i4 (by omega) i5 fun t ht => ?_
    have := sizeL_mem ht
    exact ih t ht (i5 t ht) (by omega)
end Go.Cod

namespace Go.Cod
open Go Go.Proofs
set_option linter.all false
set_option maxRecDepth 10000

theorem putRow_in (l : List Int) (x : Int) (h : x ∈ l) : putRow (.int .i64 x) (.bool true) (seenRows l) = seenRows l := by
  induction l with
  | nil => cases h
  | cons a l ih =>
    simp only [seenRows, List.map_cons] at ih ⊢
    by_cases e : a = x
    · subst e; simp [putRow, rowKey, keyEq]
    · have h2 : x ∈ l := by
        rcases List.mem_cons.1 h with h | h
        · exact absurd h.symm e
        · exact h
      simp only [putRow, rowKey, keyEq, e, decide_false, Bool.false_eq_true, if_false, ih h2]
def seenAdd (l : List Int) (x : Int) : List Int := if x ∈ l then l else l ++ [x]
theorem putRow_add (l : List Int) (x : Int) : putRow (.int .i64 x) (.bool true) (seenRows l) = seenRows (seenAdd l x) := by
  unfold seenAdd
  by_cases h : x ∈ l
  · rw [if_pos h, putRow_in l x h]
  · rw [if_neg h, putRow_seen l x h]
theorem mem_add {l : List Int} {x y : Int} : y ∈ seenAdd l x ↔ y ∈ l ∨ y = x := by
  unfold seenAdd
  by_cases h : x ∈ l
  · rw [if_pos h]
    exact ⟨.inl, fun q => q.elim id fun e => e ▸ h⟩
  · rw [if_neg h]; simp
theorem prRows_get (P : List (T × T)) (k : Nat) (h : k < P.length) : (prRows P)[k]? = some (P[k].1.cells ++ P[k].2.cells) := by simp [prRows, h]
def accV : List Stp → V
  | [] => .nils
  | _ :: _ => .own 3
def accO : List Stp → St
  | [] => []
  | s :: ss => [⟨nrows (s :: ss), 8, true, true, false, .cell⟩]
theorem fm_len {α : Type} {f : α → List Stp} {m : Nat} : ∀ {l : List α}, (∀ p ∈ l, (f p).length ≤ m) → (l.flatMap f).length ≤ l.length * m
  | [], _ => by simp
  | p :: l, h => by
    rw [List.flatMap_cons, List.length_append, List.length_cons, Nat.succ_mul]
    have h1 := h p List.mem_cons_self
    have h2 := fm_len (l := l) fun q hq => h q (List.mem_cons_of_mem _ hq)
    omega
theorem pairs_small : ∀ (i w w' i' : T), w.Small → i.Small → (w', i') ∈ pairsT w i → w'.Small ∧ i'.Small := by
  intro i
  induction i using T.ind with
  | h id kd tx ks ih =>
    intro w w' i' hw hi hp
    rw [pairsT_eq] at hp
    rcases List.mem_cons.1 hp with hp | hp
    · cases hp; exact ⟨hw, hi⟩
    · obtain ⟨k, k1, k2, k3⟩ := pairsL_mem hp
      obtain ⟨s, s1, s2, s3⟩ := kidOf_some (common_l k2)
      rw [s2] at k3
      cases hi with
      | mk i1 i2 i3 i4 i5 =>
      obtain ⟨wi, wk, wx, wks⟩ := w
      cases hw with
      | mk w1 w2 w3 w4 w5 => exact ih k k1 s w' i' (w5 _ s1) (i5 _ k1) k3
theorem cuts_len (kept : Int → Bool) (w i : T) (h : w.Small) : (cutsOf kept (w, i)).length ≤ 1048576 := by
  obtain ⟨wi, wk, wx, wks⟩ := w
  cases h with
  | mk w1 w2 w3 w4 w5 =>
  unfold cutsOf
  rw [List.length_map]
  exact Nat.le_trans (List.length_filter_le _ _) w4
theorem words_len (p : T × T) : (wordsOf p).length ≤ 2 := by
  unfold wordsOf
  split <;> split <;> simp
/-- What DiffSteps comes to. -/
def dsT (a b : T) : List Stp × Bool := if okT a = true ∧ okT b = true ∧ a.id = b.id then (diffT a b, true) else ([], false)
set_option maxHeartbeats 16000000 in
theorem implDiffSteps_no (a b : T) (ha : a.Small) (hb : b.Small) (h : ¬ (okT a = true ∧ okT b = true ∧ a.id = b.id)) : Pure Try.prog 8 [.agg a.cells, .agg b.cells] (· = .tup [.sl [], .bool false]) := by
  have f1 := implTreeOk a ha
  have f2 := implTreeOk b hb
  obtain ⟨ai, ak, ax, aks⟩ := a
  obtain ⟨bi, bk, bx, bks⟩ := b
  simp only [T.id] at h
  refine pure_of_awp good Try.func8 rfl (by kernel_rfl) (by decide) ?_
  conv => whnf
  refine .inl (f1.mono ?_)
  rintro r rfl
  cases h1 : okT (.mk ai ak ax aks) with
  | false =>
    conv => whnf
    rfl
  | true =>
    conv => whnf
    refine .inl (f2.mono ?_)
    rintro r rfl
    cases h2 : okT (.mk bi bk bx bks) with
    | false =>
      conv => whnf
      rfl
    | true =>
      conv => whnf
      rw [eqB_f (fun e => h ⟨h1, h2, e⟩)]
      conv => whnf
      rfl
set_option maxHeartbeats 16000000 in
theorem implDiffSteps_yes (a b : T) (ha : a.Small) (hb : b.Small) (h1 : okT a = true) (h2 : okT b = true) (h3 : a.id = b.id) : Pure Try.prog 8 [.agg a.cells, .agg b.cells] (· = .tup [.sl (nrows (diffT a b)), .bool true]) := by
  have f1 := implTreeOk a ha
  have f2 := implTreeOk b hb
  rw [h1] at f1
  rw [h2] at f2
  have hbn := ((okT_iff' b).1 h2).2.1
  have hbz := okT_size h2
  have fp := diffPairs_pure b a ha hb hbn (by omega)
  have hpz := pairs_len a b
  have hps := pairs_small b a
  have fc := fun kept rows (hK : KeptMap kept rows) (w i : T) (hw : w.Small) => (show Full Try.prog noY 33 [.agg w.cells, .map 0] [kbO rows] fun o st' => o = .ret (.sl (nrows (cutsOf kept (w, i)))) ∧ st' = [kbO rows] by
    obtain ⟨wi, wk, wx, wks⟩ := w
    cases hw with
    | mk w1 w2 w3 w4 w5 => exact diffCuts_full kept rows hK wi wk wx wks w4 i)
  have fu := fun kept rows (hK : KeptMap kept rows) => diffPuts_full kept rows hK b hb (by omega)
  have hpl : ∀ kept, (putsT kept b).length ≤ 20 := fun kept => by have := puts_len kept b; omega
  have hres : diffT a b = (pairsT a b).flatMap (cutsOf (keptB (pairsT a b))) ++ ((pairsT a b).flatMap wordsOf ++ putsT (keptB (pairsT a b)) b) := rfl
  rw [hres]
  have hsm : ∀ p ∈ pairsT a b, p.1.Small := fun p hp => (hps p.1 p.2 ha hb hp).1
  clear hres hps
  generalize hP : pairsT a b = P at *
  generalize hkp : keptB P = kept at *
  obtain ⟨ai, ak, ax, aks⟩ := a
  obtain ⟨bi, bk, bx, bks⟩ := b
  simp only [T.id] at h3
  have hgl := prRows_len P
  refine pure_of_awp good Try.func8 rfl (by kernel_rfl) (by decide) ?_
  conv => whnf
  refine .inl (f1.mono ?_)
  rintro r rfl
  conv => whnf
  refine .inl (f2.mono ?_)
  rintro r rfl
  conv => whnf
  rw [eqB_t h3]
  conv => whnf
  refine .inl (fp.mono ?_)
  rintro r rfl
  conv => whnf
  refine loop_drop (fun n fr st => ∃ (k : Nat) (l : List Int), n + k = P.length ∧ (∀ x, x ∈ l ↔ x ∈ keptOf (P.take k)) ∧ Holds fr [(2, .ptr 0 0 0), (3, .ptr 1 0 0), (6, .sl (prRows P)), (7, .map 2), (34, .sl (prRows P)), (35, .int .i64 P.length), (36, .int .i64 k)] ∧
      st = [⟨[[.int .i64 ai, .str ak, .str ax, .sl (T.rows aks)]], 4, true, true, true, .cell⟩, ⟨[[.int .i64 bi, .str bk, .str bx, .sl (T.rows bks)]], 4, true, true, true, .cell⟩, kbO (seenRows l)]) P.length none
    ⟨0, [], rfl, by simp [keptOf], ⟨rfl, rfl, rfl, rfl, rfl, by rw [← hgl]; rfl, rfl, trivial⟩, rfl⟩ ?_
  rintro n fr st ⟨k, l, hk, hl, hh, rfl⟩
  obtain ⟨fr, rfl⟩ := hh.split
  clear hh
  by_cases hlt : k < P.length
  · have hg := prRows_get P k hlt
    have hwk : V.int .i64 (IntKind.i64.wrap ((k : Int) + 1)) = .int .i64 ((k + 1 : Nat) : Int) := by rw [wrapJ1 k (by omega)]
    have hnext : ∀ x, x ∈ seenAdd l P[k].2.id ↔ x ∈ keptOf (P.take (k + 1)) := fun x => by
      rw [mem_add, hl x, List.take_succ_eq_append_getElem hlt]
      simp only [keptOf, List.map_append, List.mem_append, List.map_cons, List.map_nil, List.mem_singleton]
    generalize P[k] = p at *
    obtain ⟨⟨wi, wk, wx, wks⟩, ⟨ii, ik, ix, iks⟩⟩ := p
    conv => whnf
    rw [ltB_t (by omega)]
    conv => whnf
    refine ⟨by omega, prRows P, _, 8, rfl, hg, rfl, rfl, ?_⟩
    conv => whnf
    refine ⟨n - 1, by omega, some [0, 1, 2], ?_⟩
    conv => whnf
    refine ⟨k + 1, _, by omega, hnext, ⟨rfl, rfl, rfl, rfl, rfl, rfl, hwk, trivial⟩, ?_⟩
    show [_, _, _] = [_, _, _]
    rw [← putRow_add]
    rfl
  · rw [List.take_of_length_le (by omega)] at hl
    have hK : KeptMap kept (seenRows l) := fun x => by
      rw [findRow_seen, ← hkp]
      unfold keptB
      by_cases hx : x ∈ l
      · rw [if_pos hx, decide_eq_true ((hl x).1 hx), if_pos rfl]
      · rw [if_neg hx, decide_eq_false fun z => hx ((hl x).2 z), if_neg (by simp)]
    replace fc := fun w i hw => fc kept (seenRows l) hK w i hw
    replace fu := fu kept (seenRows l) hK
    replace hpl := hpl kept
    generalize seenRows l = rows at *
    clear hK hl hP hkp fp f1 f2
    conv => whnf
    rw [ltB_f (by omega)]
    conv => whnf
    refine loop_drop (fun n fr st => ∃ (k : Nat) (acc : List Stp), n + k = P.length ∧ acc = (P.take k).flatMap (cutsOf kept) ∧ Holds fr [(2, .ptr 0 0 0), (3, .ptr 1 0 0), (6, .sl (prRows P)), (7, .map 2), (10, accV acc), (45, .sl (prRows P)), (46, .int .i64 P.length), (47, .int .i64 k)] ∧ st = [⟨[[.int .i64 ai, .str ak, .str ax, .sl (T.rows aks)]], 4, true, true, true, .cell⟩, ⟨[[.int .i64 bi, .str bk, .str bx, .sl (T.rows bks)]], 4, true, true, true, .cell⟩, kbO rows] ++ accO acc) P.length none ?_ ?_
    · exact ⟨0, [], rfl, rfl, ⟨rfl, rfl, rfl, rfl, rfl, rfl, by rw [← hgl]; rfl, rfl, trivial⟩, rfl⟩
    rintro n fr st ⟨k, acc, hk, hacc, hh, rfl⟩
    obtain ⟨fr, rfl⟩ := hh.split
    clear hh
    by_cases hlt : k < P.length
    · have hg := prRows_get P k hlt
      have hmem := List.getElem_mem hlt
      have hQ : acc ++ cutsOf kept P[k] = (P.take (k + 1)).flatMap (cutsOf kept) := by
        rw [List.take_succ_eq_append_getElem hlt, List.flatMap_append, List.flatMap_singleton, hacc]
      have hwk : V.int .i64 (IntKind.i64.wrap ((k : Int) + 1)) = .int .i64 ((k + 1 : Nat) : Int) := by rw [wrapJ1 k (by omega)]
      have hlb : acc.length ≤ 200000000 := by
        rw [hacc]
        have h1 := fm_len (f := cutsOf kept) (l := P.take k) (m := 1048576) fun p hp => cuts_len kept _ _ (hsm _ (List.mem_of_mem_take hp))
        have h2 : (P.take k).length ≤ 20 := by rw [List.length_take]; omega
        have h3 : (P.take k).length * 1048576 ≤ 20 * 1048576 := Nat.mul_le_mul_right _ h2
        omega
      have hlq : (cutsOf kept P[k]).length ≤ 2000000 := Nat.le_trans (cuts_len kept _ _ (hsm _ hmem)) (by omega)
      have hc := fc P[k].1 P[k].2 (hsm _ hmem)
      have hqw := nrows_wid (cutsOf kept P[k])
      have hql := nrows_len (cutsOf kept P[k])
      have hal := nrows_len acc
      generalize cutsOf kept P[k] = Q at *
      generalize P[k] = p at *
      obtain ⟨⟨wi, wk, wx, wks⟩, ⟨ii, ik, ix, iks⟩⟩ := p
      clear hacc hmem
      rcases acc with _ | ⟨s0, acc⟩
      · conv => whnf
        rw [ltB_t (by omega)]
        conv => whnf
        refine ⟨by omega, prRows P, _, 8, rfl, hg, rfl, rfl, ?_⟩
        conv => whnf
        refine ⟨[2], false, ?_⟩
        conv => whnf
        refine hc.mono ?_
        rintro o st' ⟨rfl, rfl⟩
        conv => whnf
        refine ⟨hqw, ?_⟩
        conv => whnf
        refine ⟨by
          show (nrows Q).length * 104 ≤ _
          omega, ?_⟩
        rcases Q with _ | ⟨q, Q⟩
        · refine .inl ⟨rfl, ?_⟩
          conv => whnf
          refine ⟨n - 1, by omega, some [0, 1, 2], ?_⟩
          conv => whnf
          exact ⟨k + 1, [], by omega, hQ, ⟨rfl, rfl, rfl, rfl, rfl, rfl, rfl, hwk, trivial⟩, rfl⟩
        · refine .inr ⟨(by intro e; cases e), ?_⟩
          conv => whnf
          refine ⟨n - 1, by omega, some [0, 1, 2, 4], ?_⟩
          conv => whnf
          exact ⟨k + 1, q :: Q, by omega, hQ, ⟨rfl, rfl, rfl, rfl, rfl, rfl, rfl, hwk, trivial⟩, rfl⟩
      · conv => whnf
        rw [ltB_t (by omega)]
        conv => whnf
        refine ⟨by omega, prRows P, _, 8, rfl, hg, rfl, rfl, ?_⟩
        conv => whnf
        refine ⟨[2], false, ?_⟩
        conv => whnf
        refine hc.mono ?_
        rintro o st' ⟨rfl, rfl⟩
        conv => whnf
        refine ⟨hqw, ?_⟩
        conv => whnf
        refine ⟨by
          show ((nrows (s0 :: acc)).length + (nrows Q).length) * 104 ≤ _
          omega, ?_⟩
        conv => whnf
        refine ⟨n - 1, by omega, some [0, 1, 2, 5], ?_⟩
        conv => whnf
        refine ⟨k + 1, s0 :: (acc ++ Q), by omega, hQ, ⟨rfl, rfl, rfl, rfl, rfl, rfl, rfl, hwk, trivial⟩, ?_⟩
        show [_, _, _, _] = [_, _, _, _]
        rw [show s0 :: (acc ++ Q) = (s0 :: acc) ++ Q from rfl, nrows_append]
        rfl
    rw [List.take_of_length_le (by omega)] at hacc
    have hC : acc.length ≤ 100000000 := by
      rw [hacc]
      have h1 := fm_len (f := cutsOf kept) (l := P) (m := 1048576) fun p hp => cuts_len kept _ _ (hsm _ hp)
      have h3 : P.length * 1048576 ≤ 20 * 1048576 := Nat.mul_le_mul_right _ (by omega)
      omega
    rw [← hacc]
    clear hacc
    generalize acc = C at *
    rcases C with _ | ⟨s0, C⟩
    all_goals
      conv => whnf
      rw [ltB_f (by omega)]
      conv => whnf
    · refine loop_drop (fun n fr st => ∃ (k : Nat) (acc : List Stp), n + k = P.length ∧ acc = [] ++ (P.take k).flatMap (wordsOf) ∧ Holds fr [(2, .ptr 0 0 0), (3, .ptr 1 0 0), (6, .sl (prRows P)), (7, .map 2), (10, accV acc), (58, .sl (prRows P)), (59, .int .i64 P.length), (60, .int .i64 k)] ∧ st = [⟨[[.int .i64 ai, .str ak, .str ax, .sl (T.rows aks)]], 4, true, true, true, .cell⟩, ⟨[[.int .i64 bi, .str bk, .str bx, .sl (T.rows bks)]], 4, true, true, true, .cell⟩, kbO rows] ++ accO acc) P.length none ?_ ?_
      · exact ⟨0, _, rfl, (List.append_nil _).symm, ⟨rfl, rfl, rfl, rfl, rfl, rfl, by rw [← hgl]; rfl, rfl, trivial⟩, rfl⟩
      rintro n fr st ⟨k, acc, hk, hacc, hh, rfl⟩
      obtain ⟨fr, rfl⟩ := hh.split
      clear hh
      by_cases hlt : k < P.length
      · have hg := prRows_get P k hlt
        have hmem := List.getElem_mem hlt
        have hQ : acc ++ wordsOf P[k] = [] ++ (P.take (k + 1)).flatMap (wordsOf) := by
          rw [List.take_succ_eq_append_getElem hlt, List.flatMap_append, List.flatMap_singleton, hacc, List.append_assoc]
        have hwk : V.int .i64 (IntKind.i64.wrap ((k : Int) + 1)) = .int .i64 ((k + 1 : Nat) : Int) := by rw [wrapJ1 k (by omega)]
        have hlb : acc.length ≤ 200000000 := by
          rw [hacc]
          rw [List.length_append]
          have h1 := fm_len (f := wordsOf) (l := P.take k) (m := 2) fun p hp => words_len p
          have h2 : (P.take k).length ≤ 20 := by rw [List.length_take]; omega
          simp only [List.length_cons, List.length_nil] at hC ⊢
          omega
        have hlq : (wordsOf P[k]).length ≤ 2000000 := Nat.le_trans (words_len _) (by omega)

        have hw := diffWords_pure P[k].1 P[k].2
        have hqw := nrows_wid (wordsOf P[k])
        have hql := nrows_len (wordsOf P[k])
        have hal := nrows_len acc
        generalize wordsOf P[k] = Q at *
        generalize P[k] = p at *
        obtain ⟨⟨wi, wk, wx, wks⟩, ⟨ii, ik, ix, iks⟩⟩ := p
        clear hacc hmem
        rcases acc with _ | ⟨s0, acc⟩
        · conv => whnf
          rw [ltB_t (by omega)]
          conv => whnf
          refine ⟨by omega, prRows P, _, 8, rfl, hg, rfl, rfl, ?_⟩
          conv => whnf
          refine .inl (hw.mono ?_)
          rintro r rfl
          conv => whnf
          refine ⟨hqw, ?_⟩
          conv => whnf
          refine ⟨by
            show (nrows Q).length * 104 ≤ _
            omega, ?_⟩
          rcases Q with _ | ⟨q, Q⟩
          · refine .inl ⟨rfl, ?_⟩
            conv => whnf
            refine ⟨n - 1, by omega, some [0, 1, 2], ?_⟩
            conv => whnf
            exact ⟨k + 1, [], by omega, hQ, ⟨rfl, rfl, rfl, rfl, rfl, rfl, rfl, hwk, trivial⟩, rfl⟩
          · refine .inr ⟨(by intro e; cases e), ?_⟩
            conv => whnf
            refine ⟨n - 1, by omega, some [0, 1, 2, 4], ?_⟩
            conv => whnf
            exact ⟨k + 1, q :: Q, by omega, hQ, ⟨rfl, rfl, rfl, rfl, rfl, rfl, rfl, hwk, trivial⟩, rfl⟩
        · conv => whnf
          rw [ltB_t (by omega)]
          conv => whnf
          refine ⟨by omega, prRows P, _, 8, rfl, hg, rfl, rfl, ?_⟩
          conv => whnf
          refine .inl (hw.mono ?_)
          rintro r rfl
          conv => whnf
          refine ⟨hqw, ?_⟩
          conv => whnf
          refine ⟨by
            show ((nrows (s0 :: acc)).length + (nrows Q).length) * 104 ≤ _
            omega, ?_⟩
          conv => whnf
          refine ⟨n - 1, by omega, some [0, 1, 2, 5], ?_⟩
          conv => whnf
          refine ⟨k + 1, s0 :: (acc ++ Q), by omega, hQ, ⟨rfl, rfl, rfl, rfl, rfl, rfl, rfl, hwk, trivial⟩, ?_⟩
          show [_, _, _, _] = [_, _, _, _]
          rw [show s0 :: (acc ++ Q) = (s0 :: acc) ++ Q from rfl, nrows_append]
          rfl
      · rw [List.take_of_length_le (by omega)] at hacc
        have hlb : acc.length ≤ 200000000 := by
          rw [hacc]
          rw [List.length_append]
          have h1 := fm_len (f := wordsOf) (l := P) (m := 2) fun p hp => words_len p
          simp only [List.length_cons, List.length_nil] at hC ⊢
          omega
        have hfin : [] ++ (P.flatMap wordsOf ++ putsT kept (.mk bi bk bx bks)) = acc ++ putsT kept (.mk bi bk bx bks) := by rw [hacc, List.append_assoc]
        rw [hfin]
        have hqw := nrows_wid (putsT kept (.mk bi bk bx bks))
        have hql := nrows_len (putsT kept (.mk bi bk bx bks))
        have hal := nrows_len acc
        clear hacc hfin
        generalize putsT kept (.mk bi bk bx bks) = Q at *
        rcases acc with _ | ⟨s1, acc⟩
        · conv => whnf
          rw [ltB_f (by omega)]
          conv => whnf
          refine ⟨[2], false, ?_⟩
          conv => whnf
          refine fu.mono ?_
          rintro o st' ⟨rfl, rfl⟩
          conv => whnf
          refine ⟨hqw, ?_⟩
          conv => whnf
          refine ⟨by
            show (nrows Q).length * 104 ≤ _
            omega, ?_⟩
          rcases Q with _ | ⟨q, Q⟩
          · refine .inl ⟨rfl, ?_⟩
            conv => whnf
            rfl
          · refine .inr ⟨(by intro e; cases e), ?_⟩
            conv => whnf
            rfl
        · conv => whnf
          rw [ltB_f (by omega)]
          conv => whnf
          refine ⟨[2], false, ?_⟩
          conv => whnf
          refine fu.mono ?_
          rintro o st' ⟨rfl, rfl⟩
          conv => whnf
          refine ⟨hqw, ?_⟩
          conv => whnf
          refine ⟨by
            show ((nrows (s1 :: acc)).length + (nrows Q).length) * 104 ≤ _
            omega, ?_⟩
          conv => whnf
          rw [nrows_append]
          rfl
    · refine loop_drop (fun n fr st => ∃ (k : Nat) (acc : List Stp), n + k = P.length ∧ acc = (s0 :: C) ++ (P.take k).flatMap (wordsOf) ∧ Holds fr [(2, .ptr 0 0 0), (3, .ptr 1 0 0), (6, .sl (prRows P)), (7, .map 2), (10, accV acc), (58, .sl (prRows P)), (59, .int .i64 P.length), (60, .int .i64 k)] ∧ st = [⟨[[.int .i64 ai, .str ak, .str ax, .sl (T.rows aks)]], 4, true, true, true, .cell⟩, ⟨[[.int .i64 bi, .str bk, .str bx, .sl (T.rows bks)]], 4, true, true, true, .cell⟩, kbO rows] ++ accO acc) P.length none ?_ ?_
      · exact ⟨0, _, rfl, (List.append_nil _).symm, ⟨rfl, rfl, rfl, rfl, rfl, rfl, by rw [← hgl]; rfl, rfl, trivial⟩, rfl⟩
      rintro n fr st ⟨k, acc, hk, hacc, hh, rfl⟩
      obtain ⟨fr, rfl⟩ := hh.split
      clear hh
      by_cases hlt : k < P.length
      · have hg := prRows_get P k hlt
        have hmem := List.getElem_mem hlt
        have hQ : acc ++ wordsOf P[k] = (s0 :: C) ++ (P.take (k + 1)).flatMap (wordsOf) := by
          rw [List.take_succ_eq_append_getElem hlt, List.flatMap_append, List.flatMap_singleton, hacc, List.append_assoc]
        have hwk : V.int .i64 (IntKind.i64.wrap ((k : Int) + 1)) = .int .i64 ((k + 1 : Nat) : Int) := by rw [wrapJ1 k (by omega)]
        have hlb : acc.length ≤ 200000000 := by
          rw [hacc]
          rw [List.length_append]
          have h1 := fm_len (f := wordsOf) (l := P.take k) (m := 2) fun p hp => words_len p
          have h2 : (P.take k).length ≤ 20 := by rw [List.length_take]; omega
          simp only [List.length_cons, List.length_nil] at hC ⊢
          omega
        have hlq : (wordsOf P[k]).length ≤ 2000000 := Nat.le_trans (words_len _) (by omega)

        have hw := diffWords_pure P[k].1 P[k].2
        have hqw := nrows_wid (wordsOf P[k])
        have hql := nrows_len (wordsOf P[k])
        have hal := nrows_len acc
        generalize wordsOf P[k] = Q at *
        generalize P[k] = p at *
        obtain ⟨⟨wi, wk, wx, wks⟩, ⟨ii, ik, ix, iks⟩⟩ := p
        clear hacc hmem
        rcases acc with _ | ⟨s0, acc⟩
        · conv => whnf
          rw [ltB_t (by omega)]
          conv => whnf
          refine ⟨by omega, prRows P, _, 8, rfl, hg, rfl, rfl, ?_⟩
          conv => whnf
          refine .inl (hw.mono ?_)
          rintro r rfl
          conv => whnf
          refine ⟨hqw, ?_⟩
          conv => whnf
          refine ⟨by
            show (nrows Q).length * 104 ≤ _
            omega, ?_⟩
          rcases Q with _ | ⟨q, Q⟩
          · refine .inl ⟨rfl, ?_⟩
            conv => whnf
            refine ⟨n - 1, by omega, some [0, 1, 2], ?_⟩
            conv => whnf
            exact ⟨k + 1, [], by omega, hQ, ⟨rfl, rfl, rfl, rfl, rfl, rfl, rfl, hwk, trivial⟩, rfl⟩
          · refine .inr ⟨(by intro e; cases e), ?_⟩
            conv => whnf
            refine ⟨n - 1, by omega, some [0, 1, 2, 4], ?_⟩
            conv => whnf
            exact ⟨k + 1, q :: Q, by omega, hQ, ⟨rfl, rfl, rfl, rfl, rfl, rfl, rfl, hwk, trivial⟩, rfl⟩
        · conv => whnf
          rw [ltB_t (by omega)]
          conv => whnf
          refine ⟨by omega, prRows P, _, 8, rfl, hg, rfl, rfl, ?_⟩
          conv => whnf
          refine .inl (hw.mono ?_)
          rintro r rfl
          conv => whnf
          refine ⟨hqw, ?_⟩
          conv => whnf
          refine ⟨by
            show ((nrows (s0 :: acc)).length + (nrows Q).length) * 104 ≤ _
            omega, ?_⟩
          conv => whnf
          refine ⟨n - 1, by omega, some [0, 1, 2, 5], ?_⟩
          conv => whnf
          refine ⟨k + 1, s0 :: (acc ++ Q), by omega, hQ, ⟨rfl, rfl, rfl, rfl, rfl, rfl, rfl, hwk, trivial⟩, ?_⟩
          show [_, _, _, _] = [_, _, _, _]
          rw [show s0 :: (acc ++ Q) = (s0 :: acc) ++ Q from rfl, nrows_append]
          rfl
      · rw [List.take_of_length_le (by omega)] at hacc
        have hlb : acc.length ≤ 200000000 := by
          rw [hacc]
          rw [List.length_append]
          have h1 := fm_len (f := wordsOf) (l := P) (m := 2) fun p hp => words_len p
          simp only [List.length_cons, List.length_nil] at hC ⊢
          omega
        have hfin : (s0 :: C) ++ (P.flatMap wordsOf ++ putsT kept (.mk bi bk bx bks)) = acc ++ putsT kept (.mk bi bk bx bks) := by rw [hacc, List.append_assoc]
        rw [hfin]
        have hqw := nrows_wid (putsT kept (.mk bi bk bx bks))
        have hql := nrows_len (putsT kept (.mk bi bk bx bks))
        have hal := nrows_len acc
        clear hacc hfin
        generalize putsT kept (.mk bi bk bx bks) = Q at *
        rcases acc with _ | ⟨s1, acc⟩
        · conv => whnf
          rw [ltB_f (by omega)]
          conv => whnf
          refine ⟨[2], false, ?_⟩
          conv => whnf
          refine fu.mono ?_
          rintro o st' ⟨rfl, rfl⟩
          conv => whnf
          refine ⟨hqw, ?_⟩
          conv => whnf
          refine ⟨by
            show (nrows Q).length * 104 ≤ _
            omega, ?_⟩
          rcases Q with _ | ⟨q, Q⟩
          · refine .inl ⟨rfl, ?_⟩
            conv => whnf
            rfl
          · refine .inr ⟨(by intro e; cases e), ?_⟩
            conv => whnf
            rfl
        · conv => whnf
          rw [ltB_f (by omega)]
          conv => whnf
          refine ⟨[2], false, ?_⟩
          conv => whnf
          refine fu.mono ?_
          rintro o st' ⟨rfl, rfl⟩
          conv => whnf
          refine ⟨hqw, ?_⟩
          conv => whnf
          refine ⟨by
            show ((nrows (s1 :: acc)).length + (nrows Q).length) * 104 ≤ _
            omega, ?_⟩
          conv => whnf
          rw [nrows_append]
          rfl
theorem implDiffSteps_pure (a b : T) (ha : a.Small) (hb : b.Small) : Pure Try.prog 8 [.agg a.cells, .agg b.cells] (· = .tup [.sl (nrows (dsT a b).1), .bool (dsT a b).2]) := by
  unfold dsT
  by_cases h : okT a = true ∧ okT b = true ∧ a.id = b.id
  · rw [if_pos h]; exact implDiffSteps_yes a b ha hb h.1 h.2.1 h.2.2
  · rw [if_neg h]; exact implDiffSteps_no a b ha hb h
end Go.Cod

namespace Go.Cod
open Go Go.Proofs
set_option linter.all false
variable [Lam]

end Go.Cod

namespace Go.Cod
set_option linter.all false

/-! The least cost to make one forest another, by places: p and q tell where what is in a thing begins, u what it costs that one becomes the other. -/
def dist (p q : Nat → Nat) (u : Nat → Nat → Nat) (l1 h1 l2 h2 : Nat) : Nat :=
  if h1 ≤ l1 then h2 - l2 else if h2 ≤ l2 then h1 - l1 else
    min (min (dist p q u l1 (h1 - 1) l2 h2 + 1) (dist p q u l1 h1 l2 (h2 - 1) + 1))
      (dist p q u l1 (max l1 (min (p (h1 - 1)) (h1 - 1))) l2 (max l2 (min (q (h2 - 1)) (h2 - 1))) + dist p q u (max l1 (min (p (h1 - 1)) (h1 - 1))) (h1 - 1) (max l2 (min (q (h2 - 1)) (h2 - 1))) (h2 - 1) + u (h1 - 1) (h2 - 1))
termination_by (h1 - l1) + (h2 - l2)
decreasing_by all_goals omega

def Closed (p : Nat → Nat) (l h : Nat) : Prop := ∀ x, l ≤ x → x < h → l ≤ p x
structure Lamin (p : Nat → Nat) (n : Nat) : Prop where
  le : ∀ x, x < n → p x ≤ x
  nest : ∀ x y, x < y → y < n → x < p y ∨ p y ≤ p x
theorem Closed.le {p l h h'} (H : Closed p l h) (hh : h' ≤ h) : Closed p l h' := fun x a b => H x a (by omega)
theorem Closed.from {p l h m} (H : Closed p m h) (hh : l ≤ m) : ∀ x, m ≤ x → x < h → l ≤ p x := fun x a b => Nat.le_trans hh (H x a b)
variable {p q : Nat → Nat} {u : Nat → Nat → Nat}
end Go.Cod

namespace Go.Cod
set_option linter.all false

/-! The things of a tree, each behind what is in it. -/
structure Th where
  k : List UInt8
  t : List UInt8
  f : Nat
mutual
def nT : T → Nat
  | .mk _ _ _ ks => nL ks + 1
def nL : List T → Nat
  | [] => 0
  | t :: ts => nT t + nL ts
end
mutual
def postT (n : Nat) : T → List Th
  | .mk _ k x ks => postL n ks ++ [⟨k, x, n⟩]
def postL (n : Nat) : List T → List Th
  | [] => []
  | t :: ts => postT n t ++ postL (n + nT t) ts
end
def Th.add (s : Nat) (h : Th) : Th := ⟨h.k, h.t, h.f + s⟩
/-- What is in a thing stands side by side, or one in the other. -/
structure Nest (n : Nat) (L : List Th) : Prop where
  le : ∀ (x : Nat) e, L[x]? = some e → n ≤ e.f ∧ e.f ≤ n + x
  nest : ∀ (x y : Nat) e e', x < y → L[x]? = some e → L[y]? = some e' → n + x < e'.f ∨ e'.f ≤ e.f
theorem Nest.app {n : Nat} {L M : List Th} (h1 : Nest n L) (h2 : Nest (n + L.length) M) : Nest n (L ++ M) := by
  refine ⟨fun x e h => ?_, fun x y e e' hxy h h' => ?_⟩
  · by_cases hx : x < L.length
    · rw [List.getElem?_append_left hx] at h; exact h1.le x e h
    · rw [List.getElem?_append_right (by omega)] at h
      have := h2.le _ e h; omega
  · by_cases hy : y < L.length
    · rw [List.getElem?_append_left hy] at h'
      rw [List.getElem?_append_left (by omega)] at h
      exact h1.nest x y e e' hxy h h'
    · rw [List.getElem?_append_right (by omega)] at h'
      by_cases hx : x < L.length
      · have := h2.le _ e' h'; omega
      · rw [List.getElem?_append_right (by omega)] at h
        have := h2.nest _ _ e e' (by omega) h h'; omega
theorem Nest.root {n : Nat} {L : List Th} (h1 : Nest n L) (e0 : Th) (h0 : e0.f = n) : Nest n (L ++ [e0]) := by
  refine ⟨fun x e h => ?_, fun x y e e' hxy h h' => ?_⟩
  · by_cases hx : x < L.length
    · rw [List.getElem?_append_left hx] at h; exact h1.le x e h
    · rw [List.getElem?_append_right (by omega), List.getElem?_singleton] at h
      split at h
      · cases h; omega
      · cases h
  · by_cases hy : y < L.length
    · rw [List.getElem?_append_left hy] at h'
      rw [List.getElem?_append_left (by omega)] at h
      exact h1.nest x y e e' hxy h h'
    · rw [List.getElem?_append_right (by omega), List.getElem?_singleton] at h'
      split at h'
      · cases h'
        by_cases hx : x < L.length
        · rw [List.getElem?_append_left hx] at h
          have := h1.le x e h; omega
        · omega
      · cases h'
def fstOf (L : List Th) (x : Nat) : Nat := match L[x]? with
  | some e => e.f
  | none => 0
def labAt (L : List Th) (x : Nat) : Option (List UInt8 × List UInt8) := (L[x]?).map fun e => (e.k, e.t)
def unl (L M : List Th) (a b : Nat) : Nat := if labAt L a = labAt M b then 0 else 1
/-- What it costs to make one list of trees another. -/
def fd (F G : List T) : Nat := dist (fstOf (postL 0 F)) (fstOf (postL 0 G)) (unl (postL 0 F) (postL 0 G)) 0 (nL F) 0 (nL G)
/- Alike, but for numbers. -/
end Go.Cod

namespace Go.Cod
open Go Go.Proofs
set_option linter.all false
set_option maxRecDepth 10000

/-! Tables of numbers in a pool. -/
def numR (m : Nat) (g : Nat → Int) : List (List V) := (List.range m).map fun j => [V.int .i64 (g j)]
theorem numR_len (m : Nat) (g : Nat → Int) : (numR m g).length = m := by simp [numR]
theorem numR_get {m : Nat} (g : Nat → Int) {j : Nat} (h : j < m) : (numR m g)[j]? = some [.int .i64 (g j)] := by simp [numR, h]
theorem numR_zero {m : Nat} {g : Nat → Int} (h : ∀ j, g j = 0) : List.replicate m [V.int .i64 0] = numR m g := by
  apply List.ext_getElem?
  intro j
  by_cases hj : j < m
  · rw [numR_get g hj, List.getElem?_replicate, if_pos hj, h]
  · rw [List.getElem?_eq_none (by simp; omega), List.getElem?_eq_none (by rw [numR_len]; omega)]
def upd1 (g : Nat → Int) (j : Nat) (v : Int) : Nat → Int := fun y => if y = j then v else g y
def upd2 (f : Nat → Nat → Int) (i j : Nat) (v : Int) : Nat → Nat → Int := fun x y => if x = i ∧ y = j then v else f x y
theorem numR_set (m : Nat) (g : Nat → Int) (j : Nat) (v : Int) : (numR m g).set j [.int .i64 v] = numR m (upd1 g j v) := by
  apply List.ext_getElem?
  intro y
  rw [List.getElem?_set]
  by_cases hy : y < m
  · rw [numR_get (upd1 g j v) hy]
    by_cases e : j = y
    · subst e; rw [if_pos rfl, if_pos (by rw [numR_len]; exact hy)]; unfold upd1; rw [if_pos rfl]
    · rw [if_neg e, numR_get g hy]; unfold upd1; rw [if_neg (Ne.symm e)]
  · rw [List.getElem?_eq_none (l := numR m (upd1 g j v)) (by rw [numR_len]; omega)]
    split
    · rw [if_neg (by rw [numR_len]; omega)]
    · rw [List.getElem?_eq_none (by rw [numR_len]; omega)]
/-- A table's rows, as far as they are made. -/
def rootR (n : Nat) (bs : List Nat) (m : Nat) : List (List V) := bs.map (fun x => [V.dref x m m]) ++ List.replicate (n - bs.length) [.nils]
theorem rootR_get {n : Nat} {bs : List Nat} {m i x : Nat} (h : bs[i]? = some x) : (rootR n bs m)[i]? = some [.dref x m m] := by
  have hi := (List.getElem?_eq_some_iff.1 h).1
  unfold rootR
  rw [List.getElem?_append_left (by simpa using hi), List.getElem?_map, h]; rfl
theorem rootR_set {n : Nat} {bs : List Nat} {m x : Nat} (h : bs.length < n) : (rootR n bs m).set bs.length [.dref x m m] = rootR n (bs ++ [x]) m := by
  unfold rootR
  obtain ⟨d, hd⟩ : ∃ d, n - bs.length = d + 1 := ⟨n - bs.length - 1, by omega⟩
  rw [List.set_append_right _ _ (by simp), hd, List.replicate_succ]
  simp only [List.length_map, Nat.sub_self, List.set_cons_zero, List.map_append, List.map_cons, List.map_nil, List.length_append, List.length_cons, List.length_nil, List.append_assoc, List.singleton_append]
  rw [show n - (bs.length + (0 + 1)) = d by omega]
structure Tab (es : List (List V)) (b n : Nat) (bs : List Nat) (m : Nat) (f : Nat → Nat → Int) : Prop where
  root : ent b n 1 (rootR n bs m) ∈ es
  row : ∀ (i x : Nat), bs[i]? = some x → ent x m 1 (numR m (f i)) ∈ es
  nd : (b :: bs).Nodup
  le : bs.length ≤ n
theorem lab_ent (b c s : Nat) (r : List (List V)) : labOf (ent b c s r) = b := rfl
theorem Tab.fresh {es b n bs m f} (h : Tab es b n bs m f) {x : Nat} (hx : ∀ e ∈ es, labOf e ≠ x) : x ∉ b :: bs := by
  intro hm
  rcases List.mem_cons.1 hm with rfl | hm
  · exact hx _ h.root rfl
  · obtain ⟨i, hi⟩ := List.getElem?_of_mem hm
    exact hx _ (h.row i x hi) rfl
theorem Tab.more {es b n bs m f} (h : Tab es b n bs m f) (es' : List (List V)) : Tab (es ++ es') b n bs m f :=
  ⟨List.mem_append_left _ h.root, fun i x hi => List.mem_append_left _ (h.row i x hi), h.nd, h.le⟩
theorem Tab.other {es b n bs m f} (h : Tab es b n bs m f) {x : Nat} (hx : x ∉ b :: bs) (r : List (List V)) : Tab (putEnt x r es) b n bs m f :=
  ⟨putEnt_other h.root (by rw [lab_ent]; rintro rfl; exact hx (by simp)), fun i y hi => putEnt_other (h.row i y hi) (by rw [lab_ent]; rintro rfl; exact hx (List.mem_cons_of_mem _ (List.mem_of_getElem? hi))), h.nd, h.le⟩
theorem Tab.put {es b n bs m f} (h : Tab es b n bs m f) {i x : Nat} (hi : bs[i]? = some x) (j : Nat) (v : Int) : Tab (putEnt x ((numR m (f i)).set j [.int .i64 v]) es) b n bs m (upd2 f i j v) := by
  have hnd := List.nodup_cons.1 h.nd
  refine ⟨putEnt_other h.root ?_, fun i' y hi' => ?_, h.nd, h.le⟩
  · rw [lab_ent]; rintro rfl; exact hnd.1 (List.mem_of_getElem? hi)
  · by_cases e : i' = i
    · subst e
      rw [hi] at hi'; cases hi'
      have := putEnt_mem (rows' := (numR m (f i')).set j [.int .i64 v]) (h.row i' x hi)
      rw [numR_set] at this ⊢
      rw [show upd2 f i' j v i' = upd1 (f i') j v by funext y; simp [upd2, upd1]]
      exact this
    · have hne : y ≠ x := by
        rintro rfl
        exact e ((List.getElem?_inj (List.getElem?_eq_some_iff.1 hi').1 hnd.2).1 (hi'.trans hi.symm))
      rw [show upd2 f i j v i' = f i' by funext y; simp [upd2, e]]
      exact putEnt_other (h.row i' y hi') (by rw [lab_ent]; exact hne)
theorem Tab.begin (es : List (List V)) (b n m : Nat) (f : Nat → Nat → Int) : Tab (es ++ [ent b n 1 (List.replicate n [.nils])]) b n [] m f :=
  ⟨List.mem_append_right _ (by simp [rootR]), fun i x hi => by simp at hi, by simp, Nat.zero_le _⟩
theorem Tab.grow {es b n bs m f} (h : Tab es b n bs m f) (hn : bs.length < n) (hf : ∀ j, f bs.length j = 0) {x : Nat} (hx : ∀ e ∈ es, labOf e ≠ x) :
    Tab (putEnt b ((rootR n bs m).set bs.length [.dref x m m]) (es ++ [ent x m 1 (List.replicate m [.int .i64 0])])) b n (bs ++ [x]) m f := by
  have hxb := h.fresh hx
  have hnd := List.nodup_cons.1 h.nd
  refine ⟨?_, fun i y hi => putEnt_other ?_ ?_, ?_, by simp; omega⟩
  · rw [rootR_set hn]
    exact putEnt_mem (List.mem_append_left _ h.root)
  · by_cases hi' : i < bs.length
    · rw [List.getElem?_append_left hi'] at hi
      exact List.mem_append_left _ (h.row i y hi)
    · rw [List.getElem?_append_right (by omega), List.getElem?_singleton] at hi
      split at hi
      · cases hi
        have : i = bs.length := by omega
        subst this
        rw [← numR_zero hf]
        simp
      · cases hi
  · rw [lab_ent]
    rintro rfl
    by_cases hi' : i < bs.length
    · rw [List.getElem?_append_left hi'] at hi
      exact hnd.1 (List.mem_of_getElem? hi)
    · rw [List.getElem?_append_right (by omega), List.getElem?_singleton] at hi
      split at hi
      · cases hi; exact hxb (by simp)
      · cases hi
  · rw [List.nodup_cons]
    refine ⟨?_, ?_⟩
    · intro hm
      rcases List.mem_append.1 hm with hm | hm
      · exact hnd.1 hm
      · simp at hm; subst hm; exact hxb (by simp)
    · rw [List.nodup_append]
      refine ⟨hnd.2, by simp, ?_⟩
      intro a ha c hc
      simp at hc; subst hc
      rintro rfl
      exact hxb (List.mem_cons_of_mem _ ha)
theorem Tab.at {es b n bs m f} (h : Tab es b n bs m f) {i : Nat} (hi : i < bs.length) : ∃ x, bs[i]? = some x ∧ (rootR n bs m)[i]? = some [.dref x m m] ∧ ent x m 1 (numR m (f i)) ∈ es := by
  have e := List.getElem?_eq_getElem hi
  exact ⟨_, e, rootR_get e, h.row _ _ e⟩
end Go.Cod

namespace Go.Cod
open Go Go.Proofs
set_option linter.all false
set_option maxRecDepth 10000

/-! Tables of numbers in a pool, whose rows come in any order. -/
def updO (lab : Nat → Option Nat) (i x : Nat) : Nat → Option Nat := fun y => if y = i then some x else lab y
def cellO (lab : Nat → Option Nat) (m i : Nat) : V := match lab i with
  | some x => .dref x m m
  | none => .nils
structure TabP (es : List (List V)) (b n m : Nat) (lab : Nat → Option Nat) (f : Nat → Nat → Int) : Prop where
  root : ∃ R : List (List V), R.length = n ∧ ent b n 1 R ∈ es ∧ ∀ i, i < n → R[i]? = some [cellO lab m i]
  row : ∀ i x, lab i = some x → ent x m 1 (numR m (f i)) ∈ es
  nb : ∀ i x, lab i = some x → x ≠ b
  inj : ∀ i j x, lab i = some x → lab j = some x → i = j
  lt : ∀ i x, lab i = some x → i < n
theorem TabP.begin (es : List (List V)) (b n m : Nat) (f : Nat → Nat → Int) : TabP (es ++ [ent b n 1 (List.replicate n [.nils])]) b n m (fun _ => none) f :=
  ⟨⟨List.replicate n [.nils], List.length_replicate, List.mem_append_right _ (by simp), fun i hi => by rw [List.getElem?_replicate, if_pos hi]; rfl⟩, fun i x h => (by cases h), fun i x h => (by cases h), fun i j x h => (by cases h), fun i x h => (by cases h)⟩
theorem TabP.put {es b n m lab f} (h : TabP es b n m lab f) {i x : Nat} (hi : lab i = some x) (j : Nat) (v : Int) : TabP (putEnt x ((numR m (f i)).set j [.int .i64 v]) es) b n m lab (upd2 f i j v) := by
  obtain ⟨R, r1, r2, r3⟩ := h.root
  refine ⟨⟨R, r1, putEnt_other r2 ?_, r3⟩, fun i' y hi' => ?_, h.nb, h.inj, h.lt⟩
  · rw [lab_ent]; exact fun e => h.nb i x hi e.symm
  · by_cases e : i' = i
    · subst e
      rw [hi] at hi'; cases hi'
      have := putEnt_mem (rows' := (numR m (f i')).set j [.int .i64 v]) (h.row i' x hi)
      rw [numR_set] at this ⊢
      rw [show upd2 f i' j v i' = upd1 (f i') j v by funext y; simp [upd2, upd1]]
      exact this
    · have hne : y ≠ x := by
        rintro rfl
        exact e (h.inj i' i y hi' hi)
      rw [show upd2 f i j v i' = f i' by funext y; simp [upd2, e]]
      exact putEnt_other (h.row i' y hi') (by rw [lab_ent]; exact hne)
theorem TabP.fresh {es b n m lab f} (h : TabP es b n m lab f) {x : Nat} (hx : ∀ e ∈ es, labOf e ≠ x) : x ≠ b ∧ ∀ i, lab i ≠ some x := by
  obtain ⟨R, r1, r2, r3⟩ := h.root
  exact ⟨fun e => hx _ r2 e.symm, fun i hi => hx _ (h.row i x hi) rfl⟩
theorem TabP.grow {es b n m lab f} (h : TabP es b n m lab f) {i : Nat} (hi : i < n) (hf : ∀ j, f i j = 0) {x : Nat} (hx : ∀ e ∈ es, labOf e ≠ x) {R : List (List V)} (r1 : R.length = n) (r2 : ent b n 1 R ∈ es) (r3 : ∀ i, i < n → R[i]? = some [cellO lab m i]) :
    TabP (putEnt b (R.set i [.dref x m m]) (es ++ [ent x m 1 (List.replicate m [.int .i64 0])])) b n m (updO lab i x) f := by
  obtain ⟨x1, x2⟩ := h.fresh hx
  refine ⟨⟨_, by rw [List.length_set]; exact r1, putEnt_mem (List.mem_append_left _ r2), fun j hj => ?_⟩, fun j y hy => ?_, fun j y hy => ?_, fun j k y hj hk => ?_, fun j y hy => ?_⟩
  · rw [List.getElem?_set]
    by_cases e : i = j
    · subst e
      rw [if_pos rfl, if_pos (by omega)]
      unfold cellO updO
      rw [if_pos rfl]
    · rw [if_neg e, r3 j hj]
      unfold cellO updO
      rw [if_neg (Ne.symm e)]
  · unfold updO at hy
    by_cases e : j = i
    · rw [if_pos e] at hy
      cases hy; subst e
      refine putEnt_other (List.mem_append_right _ ?_) (by rw [lab_ent]; exact x1)
      rw [← numR_zero hf]; simp
    · rw [if_neg e] at hy
      exact putEnt_other (List.mem_append_left _ (h.row j y hy)) (by rw [lab_ent]; exact h.nb j y hy)
  · unfold updO at hy
    by_cases e : j = i
    · rw [if_pos e] at hy
      cases hy; exact x1
    · rw [if_neg e] at hy; exact h.nb j y hy
  · unfold updO at hj hk
    by_cases e : j = i <;> by_cases g : k = i
    · rw [e, g]
    · rw [if_pos e] at hj; rw [if_neg g] at hk
      cases hj; exact absurd hk (x2 k)
    · rw [if_neg e] at hj; rw [if_pos g] at hk
      cases hk; exact absurd hj (x2 j)
    · rw [if_neg e] at hj; rw [if_neg g] at hk
      exact h.inj j k y hj hk
  · unfold updO at hy
    by_cases e : j = i
    · rw [e]; exact hi
    · rw [if_neg e] at hy; exact h.lt j y hy
/-- What is known of how long lists are, from behind. -/
def lq (a b : List Int) (i k : Nat) : Int := (lcsL (a.drop i) (b.drop k) : Nat)
theorem lq_a (a b : List Int) (k : Nat) : lq a b a.length k = 0 := by unfold lq; rw [List.drop_length, nil_lcsL]; rfl
theorem lq_b (a b : List Int) (i : Nat) : lq a b i b.length = 0 := by unfold lq; rw [List.drop_length, lcsL_nil]; rfl
theorem lq_step (a b : List Int) (i k : Nat) (hi : i < a.length) (hk : k < b.length) : lq a b i k = (let n := if lq a b i (k + 1) > lq a b (i + 1) k then lq a b i (k + 1) else lq a b (i + 1) k
    if a[i] = b[k] ∧ lq a b (i + 1) (k + 1) + 1 > n then lq a b (i + 1) (k + 1) + 1 else n) := by
  have ha := List.drop_eq_getElem_cons (l := a) (i := i) hi
  have hb := List.drop_eq_getElem_cons (l := b) (i := k) hk
  have hs := lcsL_spec a[i] b[k] (a.drop (i + 1)) (b.drop (k + 1))
  rw [← ha, ← hb] at hs
  unfold lq
  rw [hs]
  by_cases e : a[i] = b[k]
  · rw [if_pos e]
    simp only [e, true_and]
    split <;> split <;> omega
  · rw [if_neg e]
    simp only [e, false_and, if_false]
    split <;> omega
theorem lq_step' (a b : List Int) (i k : Nat) (hi : i < a.length) (hk : k < b.length) (N : Int) (hN : N = if lq a b (i + 1) k < lq a b i (k + 1) then lq a b i (k + 1) else lq a b (i + 1) k) : lq a b i k = if a[i] = b[k] ∧ N < lq a b (i + 1) (k + 1) + 1 then lq a b (i + 1) (k + 1) + 1 else N := by
  subst hN
  exact lq_step a b i k hi hk
theorem lq_le (a b : List Int) (i k : Nat) : 0 ≤ lq a b i k ∧ lq a b i k ≤ a.length := by
  unfold lq
  have := lcsL_le (a.drop i) (b.drop k)
  rw [List.length_drop] at this
  omega
theorem TabP.congr {es b n m lab f g} (h : TabP es b n m lab f) (hg : ∀ i x j, lab i = some x → j < m → f i j = g i j) : TabP es b n m lab g :=
  ⟨h.root, fun i x hi => by
    have : numR m (f i) = numR m (g i) := by
      unfold numR
      exact List.map_congr_left fun j hj => by rw [hg i x j hi (List.mem_range.1 hj)]
    rw [← this]; exact h.row i x hi, h.nb, h.inj, h.lt⟩
end Go.Cod

namespace Go.Cod
open Go Go.Proofs
set_option linter.all false
set_option maxRecDepth 10000

theorem wrapD1 (n : Nat) (h : n ≤ 10000000) : IntKind.i64.wrap ((n : Int) - 1) = (n : Int) - 1 := wrap64 (by omega) (by omega)
set_option maxHeartbeats 8000000 in
theorem l5Longest_new (a b : List Int) (la : a.length ≤ 1048576) (lb : b.length ≤ 1048576) : Full Try.prog noY 91 [.sl (irows a), .sl (irows b)] [poolO []] fun o st' => ∃ (t : Nat) (lab : Nat → Option Nat) (es : List (List V)),
    o = .ret (.dref t (a.length + 1) (a.length + 1)) ∧ st' = [poolO es] ∧ TabP es t (a.length + 1) (b.length + 1) lab (lq a b) ∧ ∀ i, i ≤ a.length → ∃ x, lab i = some x := by
  refine full_of_draw good Try.func91 rfl (by kernel_rfl) (by decide) fun X hX => ?_
  conv => whnf
  rw [irows_len, wrapJ1 _ (by omega)]
  refine semMake (k := 0) (m := a.length + 1) good rfl rfl rfl rfl rfl rfl rfl rfl (by show (a.length + 1) * 24 ≤ _; omega) (by omega) fun t ht => ?_
  conv => whnf
  have hT := TabP.begin [] t (a.length + 1) (b.length + 1) (fun _ _ => 0)
  simp only [List.nil_append] at hT
  refine loop_drop (fun n fr st => ∃ (lab : Nat → Option Nat) (es : List (List V)) (f : Nat → Nat → Int), n ≤ a.length + 1 ∧ st = [poolO es] ∧ TabP es t (a.length + 1) (b.length + 1) lab f ∧ (∀ i, n ≤ i → i ≤ a.length → ∃ x, lab i = some x) ∧ (∀ i k, n ≤ i → i ≤ a.length → k ≤ b.length → f i k = lq a b i k) ∧ (∀ i k, i < n → f i k = 0) ∧
      Holds fr [(0, .sl (irows a)), (1, .sl (irows b)), (5, .dref t (a.length + 1) (a.length + 1)), (6, .int .i64 ((n : Int) - 1))]) (a.length + 1) none ?_ ?_
  · exact ⟨_, _, _, Nat.le_refl _, rfl, hT, fun i h1 h2 => absurd h1 (by omega), fun i k h1 h2 => absurd h1 (by omega), fun _ _ _ => rfl, rfl, rfl, rfl, by show V.int .i64 _ = .int .i64 _; rw [irows_len]; congr 1; omega, trivial⟩
  clear hT ht
  rintro n fr st ⟨lab, es, f, hn, rfl, hT, hL, hF, hZ, hh⟩
  obtain ⟨fr, rfl⟩ := hh.split
  clear hh
  rcases n with _ | i
  · conv => whnf
    rw [leB_f (by omega)]
    conv => whnf
    refine ⟨[], false, ?_⟩
    conv => whnf
    refine ⟨t, lab, es, rfl, rfl, hT.congr fun i x j hx hj => ?_, fun i hi => hL i (Nat.zero_le _) hi⟩
    have := hT.lt i x hx
    exact hF i j (Nat.zero_le _) (by omega) (by omega)
  · rw [show (((i + 1 : Nat) : Int) - 1) = (i : Int) by omega]
    conv => whnf
    rw [leB_t (by omega)]
    conv => whnf
    rw [irows_len, wrapJ1 b.length (by omega)]
    refine semMake (k := 0) (m := b.length + 1) good rfl rfl rfl rfl rfl rfl rfl rfl (by show (b.length + 1) * 8 ≤ _; omega) (by omega) fun x hx => ?_
    conv => whnf
    obtain ⟨R, r1, r2, r3⟩ := hT.root
    have hG := hT.grow (i := i) (by omega) (fun j => hZ i j (by omega)) hx r1 r2 r3
    refine ⟨by omega, by omega, ?_⟩
    conv => whnf
    refine ⟨0, a.length + 1, R, [cellO lab (b.length + 1) i], _, List.mem_append_left _ r2, r3 i (by omega), rfl, ?_⟩
    conv => whnf
    have hLx : updO lab i x i = some x := by unfold updO; rw [if_pos rfl]
    have hLL : ∀ i', i ≤ i' → i' ≤ a.length → ∃ y, updO lab i x i' = some y := fun i' h1 h2 => by
      by_cases e : i' = i
      · exact ⟨x, by rw [e]; exact hLx⟩
      · obtain ⟨y, hy⟩ := hL i' (by omega) h2
        exact ⟨y, by unfold updO; rw [if_neg e]; exact hy⟩
    generalize updO lab i x = lab' at *
    have hFi : ∀ k, b.length ≤ k → k ≤ b.length → f i k = lq a b i k := fun k h1 h2 => by
      obtain rfl : k = b.length := by omega
      rw [lq_b, hZ i _ (by omega)]
    have hwb : V.int .i64 (IntKind.i64.wrap ((b.length : Int) - 1)) = .int .i64 ((b.length : Int) - 1) := by rw [wrapD1 _ (by omega)]
    have hwi : V.int .i64 (IntKind.i64.wrap ((i : Int) - 1)) = .int .i64 ((i : Int) - 1) := by rw [wrapD1 _ (by omega)]
    clear hT hL
    refine loop_drop (fun m fr st => ∃ (es : List (List V)) (f : Nat → Nat → Int), m ≤ b.length ∧ st = [poolO es] ∧ TabP es t (a.length + 1) (b.length + 1) lab' f ∧ (∀ i' k, i + 1 ≤ i' → i' ≤ a.length → k ≤ b.length → f i' k = lq a b i' k) ∧ (∀ i' k, i' < i → f i' k = 0) ∧ (∀ k, m ≤ k → k ≤ b.length → f i k = lq a b i k) ∧ (∀ k, k < m → f i k = 0) ∧
        Holds fr [(0, .sl (irows a)), (1, .sl (irows b)), (5, .dref t (a.length + 1) (a.length + 1)), (6, .int .i64 i), (7, .int .i64 ((m : Int) - 1))]) b.length none ?_ ?_
    · exact ⟨_, f, Nat.le_refl _, rfl, hG, hF, fun i' k h => hZ i' k (by omega), hFi, fun k _ => hZ i k (by omega), rfl, rfl, rfl, rfl, by rw [← hwb, ← irows_len b]; rfl, trivial⟩
    clear hG hF hZ hFi r1 r2 r3 hx fr
    rintro m fr st ⟨es, f, hm, rfl, hT, hF, hZ, hFi, hZi, hh⟩
    obtain ⟨fr, rfl⟩ := hh.split
    clear hh
    rcases m with _ | k
    · conv => whnf
      rw [leB_f (by omega)]
      conv => whnf
      refine ⟨i, by omega, none, lab', es, f, by omega, rfl, hT, hLL, fun i' k h1 h2 h3 => ?_, hZ, rfl, rfl, rfl, hwi, trivial⟩
      by_cases e : i' = i
      · rw [e]; exact hFi k (Nat.zero_le _) h3
      · exact hF i' k (by omega) h2 h3
    · rw [show (((k + 1 : Nat) : Int) - 1) = (k : Int) by omega]
      conv => whnf
      rw [leB_t (by omega)]
      conv => whnf
      rw [irows_len]
      by_cases hia : i < a.length
      · rw [ltB_t (by omega)]
        conv => whnf
        obtain ⟨x', hx'⟩ := hLL i (Nat.le_refl _) (by omega)
        obtain rfl : x = x' := by rw [hLx] at hx'; exact Option.some.inj hx'
        obtain ⟨y, hy⟩ := hLL (i + 1) (by omega) (by omega)
        obtain ⟨R, r1, r2, r3⟩ := hT.root
        have g0 : R[i]? = some [.dref x (b.length + 1) (b.length + 1)] := by rw [r3 i (by omega)]; unfold cellO; rw [hLx]
        have g1 : R[i + 1]? = some [.dref y (b.length + 1) (b.length + 1)] := by rw [r3 (i + 1) (by omega)]; unfold cellO; rw [hy]
        have t0 := hT.row i x hLx
        have t1 := hT.row (i + 1) y hy
        have wi1 := wrapJ1 i (by omega)
        have wk1 := wrapJ1 k (by omega)
        have v1 := numR_get (m := b.length + 1) (f (i + 1)) (show k < b.length + 1 by omega)
        have v2 := numR_get (m := b.length + 1) (f i) (show k + 1 < b.length + 1 by omega)
        have v3 := numR_get (m := b.length + 1) (f (i + 1)) (show k + 1 < b.length + 1 by omega)
        have e1 := hF (i + 1) k (by omega) (by omega) (by omega)
        have e2 := hFi (k + 1) (by omega) (by omega)
        have e3 := hF (i + 1) (k + 1) (by omega) (by omega) (by omega)
        rw [e1] at v1
        rw [e2] at v2
        rw [e3] at v3
        have hst := lq_step' a b i k hia (by omega)
        have b1 := lq_le a b (i + 1) (k + 1)
        have ga := irows_get a i hia
        have gb := irows_get b k (by omega)
        generalize hp : a[i] = p at *
        generalize hq : b[k] = q at *
        refine ⟨by rw [wi1]; omega, by rw [wi1]; omega, ?_⟩
        conv => whnf
        refine ⟨0, a.length + 1, _, _, r2, by rw [wi1]; exact g1, ?_⟩
        conv => whnf
        refine ⟨by omega, by omega, ?_⟩
        conv => whnf
        refine ⟨0, b.length + 1, _, _, t1, v1, ?_⟩
        conv => whnf
        refine ⟨by omega, by omega, ?_⟩
        conv => whnf
        refine ⟨0, a.length + 1, _, _, r2, g0, ?_⟩
        conv => whnf
        refine ⟨by rw [wk1]; omega, by rw [wk1]; omega, ?_⟩
        conv => whnf
        refine ⟨0, b.length + 1, _, _, t0, by rw [wk1]; exact v2, ?_⟩
        conv => whnf
        have hput := hT.put (i := i) hLx k (lq a b i k)
        have hF' : ∀ i' k', i + 1 ≤ i' → i' ≤ a.length → k' ≤ b.length → upd2 f i k (lq a b i k) i' k' = lq a b i' k' := fun i' k' h1 h2 h3 => by
          unfold upd2; rw [if_neg (by omega)]; exact hF i' k' h1 h2 h3
        have hZ' : ∀ i' k', i' < i → upd2 f i k (lq a b i k) i' k' = 0 := fun i' k' h => by
          unfold upd2; rw [if_neg (by omega)]; exact hZ i' k' h
        have hFi' : ∀ k', k ≤ k' → k' ≤ b.length → upd2 f i k (lq a b i k) i k' = lq a b i k' := fun k' h1 h2 => by
          unfold upd2
          by_cases e : k' = k
          · rw [if_pos ⟨rfl, e⟩, e]
          · rw [if_neg (fun h => e h.2)]; exact hFi k' (by omega) h2
        have hZi' : ∀ k', k' < k → upd2 f i k (lq a b i k) i k' = 0 := fun k' h => by
          unfold upd2; rw [if_neg (by omega)]; exact hZi k' (by omega)
        have hwk : V.int .i64 (IntKind.i64.wrap ((k : Int) - 1)) = .int .i64 ((k : Int) - 1) := by rw [wrapD1 _ (by omega)]
        have wT : IntKind.i64.wrap (lq a b (i + 1) (k + 1) + 1) = lq a b (i + 1) (k + 1) + 1 := wrap64 (by omega) (by omega)
        have v0 := numR_get (m := b.length + 1) (f i) (show k < b.length + 1 by omega)
        by_cases hUD : lq a b (i + 1) k < lq a b i (k + 1)
        · rw [ltB_t hUD]
          conv => whnf
          refine ⟨by omega, by omega, ?_⟩
          conv => whnf
          refine ⟨0, a.length + 1, _, _, r2, g0, ?_⟩
          conv => whnf
          refine ⟨by rw [wk1]; omega, by rw [wk1]; omega, ?_⟩
          conv => whnf
          refine ⟨0, b.length + 1, _, _, t0, by rw [wk1]; exact v2, ?_⟩
          conv => whnf
          replace hst := hst (lq a b i (k + 1)) (by rw [if_pos hUD])
          refine draw_with hX [(0, .sl (irows a)), (1, .sl (irows b)), (5, .dref t (a.length + 1) (a.length + 1)), (6, .int .i64 i), (7, .int .i64 k), (8, .int .i64 (lq a b i (k + 1)))] ⟨rfl, rfl, rfl, rfl, rfl, rfl, trivial⟩ fun C hC fr => ?_
          conv => whnf
          refine ⟨by omega, irows a, _, 1, rfl, ga, rfl, rfl, ?_⟩
          conv => whnf
          refine ⟨by omega, irows b, _, 1, rfl, gb, rfl, rfl, ?_⟩
          conv => whnf
          by_cases hpq : p = q
          · rw [eqB_t hpq]
            conv => whnf
            refine ⟨by rw [wi1]; omega, by rw [wi1]; omega, ?_⟩
            conv => whnf
            refine ⟨0, a.length + 1, _, _, r2, by rw [wi1]; exact g1, ?_⟩
            conv => whnf
            refine ⟨by rw [wk1]; omega, by rw [wk1]; omega, ?_⟩
            conv => whnf
            refine ⟨0, b.length + 1, _, _, t1, by rw [wk1]; exact v3, ?_⟩
            conv => whnf
            by_cases hTN : lq a b i (k + 1) < lq a b (i + 1) (k + 1) + 1
            · have hE : lq a b i k = lq a b (i + 1) (k + 1) + 1 := by rw [hst, if_pos ⟨hpq, hTN⟩]
              rw [wT, ltB_t hTN]
              conv => whnf
              refine hC _ _ ?_
              conv => whnf
              refine ⟨by rw [wi1]; omega, by rw [wi1]; omega, ?_⟩
              conv => whnf
              refine ⟨0, a.length + 1, _, _, r2, by rw [wi1]; exact g1, ?_⟩
              conv => whnf
              refine ⟨by rw [wk1]; omega, by rw [wk1]; omega, ?_⟩
              conv => whnf
              refine ⟨0, b.length + 1, _, _, t1, by rw [wk1]; exact v3, ?_⟩
              conv => whnf
              rw [wT]
              refine ⟨by omega, by omega, ?_⟩
              conv => whnf
              refine ⟨0, a.length + 1, _, _, r2, g0, ?_⟩
              conv => whnf
              refine ⟨by omega, by omega, ?_⟩
              conv => whnf
              refine ⟨0, b.length + 1, _, _, _, t0, v0, rfl, ?_⟩
              conv => whnf
              refine ⟨k, by omega, none, _, _, by omega, ?_, hput, hF', hZ', hFi', hZi', rfl, rfl, rfl, rfl, hwk, trivial⟩
              show [_] = [_]
              rw [hE]
              rfl
            · have hE : lq a b i k = lq a b i (k + 1) := by rw [hst, if_neg (fun h => hTN h.2)]
              rw [wT, ltB_f (by omega)]
              conv => whnf
              refine hC _ _ ?_
              conv => whnf
              refine ⟨by omega, by omega, ?_⟩
              conv => whnf
              refine ⟨0, a.length + 1, _, _, r2, g0, ?_⟩
              conv => whnf
              refine ⟨by omega, by omega, ?_⟩
              conv => whnf
              refine ⟨0, b.length + 1, _, _, _, t0, v0, rfl, ?_⟩
              conv => whnf
              refine ⟨k, by omega, none, _, _, by omega, ?_, hput, hF', hZ', hFi', hZi', rfl, rfl, rfl, rfl, hwk, trivial⟩
              show [_] = [_]
              rw [hE]
              rfl
          · have hE : lq a b i k = lq a b i (k + 1) := by rw [hst, if_neg (fun h => hpq h.1)]
            rw [eqB_f hpq]
            conv => whnf
            refine hC _ _ ?_
            conv => whnf
            refine ⟨by omega, by omega, ?_⟩
            conv => whnf
            refine ⟨0, a.length + 1, _, _, r2, g0, ?_⟩
            conv => whnf
            refine ⟨by omega, by omega, ?_⟩
            conv => whnf
            refine ⟨0, b.length + 1, _, _, _, t0, v0, rfl, ?_⟩
            conv => whnf
            refine ⟨k, by omega, none, _, _, by omega, ?_, hput, hF', hZ', hFi', hZi', rfl, rfl, rfl, rfl, hwk, trivial⟩
            show [_] = [_]
            rw [hE]
            rfl
        · rw [ltB_f (by omega)]
          conv => whnf
          replace hst := hst (lq a b (i + 1) k) (by rw [if_neg hUD])
          refine draw_with hX [(0, .sl (irows a)), (1, .sl (irows b)), (5, .dref t (a.length + 1) (a.length + 1)), (6, .int .i64 i), (7, .int .i64 k), (8, .int .i64 (lq a b (i + 1) k))] ⟨rfl, rfl, rfl, rfl, rfl, rfl, trivial⟩ fun C hC fr => ?_
          conv => whnf
          refine ⟨by omega, irows a, _, 1, rfl, ga, rfl, rfl, ?_⟩
          conv => whnf
          refine ⟨by omega, irows b, _, 1, rfl, gb, rfl, rfl, ?_⟩
          conv => whnf
          by_cases hpq : p = q
          · rw [eqB_t hpq]
            conv => whnf
            refine ⟨by rw [wi1]; omega, by rw [wi1]; omega, ?_⟩
            conv => whnf
            refine ⟨0, a.length + 1, _, _, r2, by rw [wi1]; exact g1, ?_⟩
            conv => whnf
            refine ⟨by rw [wk1]; omega, by rw [wk1]; omega, ?_⟩
            conv => whnf
            refine ⟨0, b.length + 1, _, _, t1, by rw [wk1]; exact v3, ?_⟩
            conv => whnf
            by_cases hTN : lq a b (i + 1) k < lq a b (i + 1) (k + 1) + 1
            · have hE : lq a b i k = lq a b (i + 1) (k + 1) + 1 := by rw [hst, if_pos ⟨hpq, hTN⟩]
              rw [wT, ltB_t hTN]
              conv => whnf
              refine hC _ _ ?_
              conv => whnf
              refine ⟨by rw [wi1]; omega, by rw [wi1]; omega, ?_⟩
              conv => whnf
              refine ⟨0, a.length + 1, _, _, r2, by rw [wi1]; exact g1, ?_⟩
              conv => whnf
              refine ⟨by rw [wk1]; omega, by rw [wk1]; omega, ?_⟩
              conv => whnf
              refine ⟨0, b.length + 1, _, _, t1, by rw [wk1]; exact v3, ?_⟩
              conv => whnf
              rw [wT]
              refine ⟨by omega, by omega, ?_⟩
              conv => whnf
              refine ⟨0, a.length + 1, _, _, r2, g0, ?_⟩
              conv => whnf
              refine ⟨by omega, by omega, ?_⟩
              conv => whnf
              refine ⟨0, b.length + 1, _, _, _, t0, v0, rfl, ?_⟩
              conv => whnf
              refine ⟨k, by omega, none, _, _, by omega, ?_, hput, hF', hZ', hFi', hZi', rfl, rfl, rfl, rfl, hwk, trivial⟩
              show [_] = [_]
              rw [hE]
              rfl
            · have hE : lq a b i k = lq a b (i + 1) k := by rw [hst, if_neg (fun h => hTN h.2)]
              rw [wT, ltB_f (by omega)]
              conv => whnf
              refine hC _ _ ?_
              conv => whnf
              refine ⟨by omega, by omega, ?_⟩
              conv => whnf
              refine ⟨0, a.length + 1, _, _, r2, g0, ?_⟩
              conv => whnf
              refine ⟨by omega, by omega, ?_⟩
              conv => whnf
              refine ⟨0, b.length + 1, _, _, _, t0, v0, rfl, ?_⟩
              conv => whnf
              refine ⟨k, by omega, none, _, _, by omega, ?_, hput, hF', hZ', hFi', hZi', rfl, rfl, rfl, rfl, hwk, trivial⟩
              show [_] = [_]
              rw [hE]
              rfl
          · have hE : lq a b i k = lq a b (i + 1) k := by rw [hst, if_neg (fun h => hpq h.1)]
            rw [eqB_f hpq]
            conv => whnf
            refine hC _ _ ?_
            conv => whnf
            refine ⟨by omega, by omega, ?_⟩
            conv => whnf
            refine ⟨0, a.length + 1, _, _, r2, g0, ?_⟩
            conv => whnf
            refine ⟨by omega, by omega, ?_⟩
            conv => whnf
            refine ⟨0, b.length + 1, _, _, _, t0, v0, rfl, ?_⟩
            conv => whnf
            refine ⟨k, by omega, none, _, _, by omega, ?_, hput, hF', hZ', hFi', hZi', rfl, rfl, rfl, rfl, hwk, trivial⟩
            show [_] = [_]
            rw [hE]
            rfl
      · rw [ltB_f (by omega)]
        conv => whnf
        refine ⟨i, by omega, none, lab', es, f, by omega, rfl, hT, hLL, fun i' k' h1 h2 h3 => ?_, hZ, rfl, rfl, rfl, hwi, trivial⟩
        by_cases e : i' = i
        · obtain rfl : i = a.length := by omega
          rw [e]
          by_cases hk' : k' < k + 1
          · rw [lq_a, hZi k' hk']
          · exact hFi k' (by omega) h3
        · exact hF i' k' (by omega) h2 h3
end Go.Cod

namespace Go.Cod
open Go Go.Proofs
set_option linter.all false
set_option maxRecDepth 10000

set_option maxHeartbeats 8000000 in
theorem l5Both_pure (a b : List Int) (la : a.length ≤ 1048576) (lb : b.length ≤ 1048576) : Pure Try.prog 68 [.sl (irows a), .sl (irows b)] (· = .sl (irows (lcs a b))) := by
  have hlo := Full.start (st0 := []) (l5Longest_new a b la lb)
  refine pure_of_draw good Try.func68 rfl (by kernel_rfl) (by decide) fun X hX => ?_
  conv => whnf
  refine .inr (.inl ⟨[], false, ?_⟩)
  conv => whnf
  refine hlo.mono ?_
  rintro o st' ⟨t, lab, es, rfl, rfl, hT, hL⟩
  clear hlo
  conv => whnf
  refine loop_drop (fun n fr st => ∃ (i j : Nat) (c : List Int), n = (a.length - i) + (b.length - j) ∧ i ≤ a.length ∧ j ≤ b.length ∧ c ++ lcs (a.drop i) (b.drop j) = lcs a b ∧ c.length ≤ i ∧
      ((c = [] ∧ Holds fr [(0, .sl (irows a)), (1, .sl (irows b)), (5, .dref t (a.length + 1) (a.length + 1)), (6, .nils), (7, .int .i64 i), (8, .int .i64 j)] ∧ st = [poolO es]) ∨
       (c ≠ [] ∧ Holds fr [(0, .sl (irows a)), (1, .sl (irows b)), (5, .dref t (a.length + 1) (a.length + 1)), (6, .own 1), (7, .int .i64 i), (8, .int .i64 j)] ∧ st = [poolO es, ⟨irows c, 1, true, true, false, .cell⟩]))) (a.length + b.length) none
    ⟨0, 0, [], by omega, by omega, by omega, rfl, Nat.le_refl _, .inl ⟨rfl, ⟨rfl, rfl, rfl, rfl, rfl, rfl, trivial⟩, rfl⟩⟩ ?_
  rintro n fr st ⟨i, j, c, hn, hi, hj, hc, hcl, ⟨rfl, hh, rfl⟩ | ⟨hc0, hh, rfl⟩⟩
  · obtain ⟨fr, rfl⟩ := hh.split
    clear hh
    have wi1 := fun (h : i < a.length) => wrapJ1 i (by omega)
    have wj1 := fun (h : j < b.length) => wrapJ1 j (by omega)
    conv => whnf
    by_cases hlt : i < a.length
    · rw [irows_len, ltB_t (by omega)]
      conv => whnf
      by_cases hlt2 : j < b.length
      · rw [irows_len, ltB_t (by omega)]
        conv => whnf
        have ha := List.drop_eq_getElem_cons (l := a) (i := i) (by omega)
        have hb := List.drop_eq_getElem_cons (l := b) (i := j) (by omega)
        have hs := lcs_cons a[i] b[j] (a.drop (i + 1)) (b.drop (j + 1))
        rw [← ha, ← hb] at hs
        have hga := irows_get a i (by omega)
        have hgb := irows_get b j (by omega)
        replace wi1 := wi1 hlt
        replace wj1 := wj1 hlt2
        have hwi : V.int .i64 (IntKind.i64.wrap ((i : Int) + 1)) = .int .i64 ((i + 1 : Nat) : Int) := by rw [wi1]
        have hwj : V.int .i64 (IntKind.i64.wrap ((j : Int) + 1)) = .int .i64 ((j + 1 : Nat) : Int) := by rw [wj1]
        generalize hp : a[i] = p at *
        generalize hq : b[j] = q at *
        refine draw_go hX ?_
        conv => whnf
        repeat' (first
          | (refine ⟨by omega, irows a, _, 1, rfl, hga, rfl, rfl, ?_⟩
             conv => whnf)
          | (refine ⟨by omega, irows b, _, 1, rfl, hgb, rfl, rfl, ?_⟩
             conv => whnf)
          | fail)
        by_cases hpq : p = q
        · rw [eqB_t hpq]
          rw [if_pos hpq] at hs
          rw [hs] at hc
          conv => whnf
          refine ⟨by omega, irows a, _, 1, rfl, hga, rfl, rfl, ?_⟩
          conv => whnf
          refine ⟨fun m hm => by rw [List.mem_singleton.1 hm]; rfl, ?_⟩
          conv => whnf
          refine ⟨by show 1 * 8 ≤ _; omega, .inr ⟨(by intro e; cases e), ?_⟩⟩
          conv => whnf
          refine ⟨(a.length - (i + 1)) + (b.length - (j + 1)), by omega, some [0, 2], ?_⟩
          conv => whnf
          refine ⟨i + 1, j + 1, [p], rfl, by omega, by omega, hc, by simp, .inr ⟨by simp, ⟨rfl, rfl, rfl, rfl, hwi, hwj, trivial⟩, ?_⟩⟩
          rfl
        · rw [eqB_f hpq]
          rw [if_neg hpq] at hs
          obtain ⟨x, hx⟩ := hL i (by omega)
          obtain ⟨y, hy⟩ := hL (i + 1) (by omega)
          obtain ⟨R, r1, r2, r3⟩ := hT.root
          have g0 : R[i]? = some [.dref x (b.length + 1) (b.length + 1)] := by rw [r3 i (by omega)]; unfold cellO; rw [hx]
          have g1 : R[i + 1]? = some [.dref y (b.length + 1) (b.length + 1)] := by rw [r3 (i + 1) (by omega)]; unfold cellO; rw [hy]
          have t0 := hT.row i x hx
          have t1 := hT.row (i + 1) y hy
          have v1 := numR_get (m := b.length + 1) (lq a b (i + 1)) (show j < b.length + 1 by omega)
          have v2 := numR_get (m := b.length + 1) (lq a b i) (show j + 1 < b.length + 1 by omega)
          conv => whnf
          refine draw_go hX ?_
          conv => whnf
          refine ⟨by rw [wi1]; omega, by rw [wi1]; omega, ?_⟩
          conv => whnf
          refine ⟨0, a.length + 1, _, _, r2, by rw [wi1]; exact g1, ?_⟩
          conv => whnf
          refine ⟨by omega, by omega, ?_⟩
          conv => whnf
          refine ⟨0, b.length + 1, _, _, t1, v1, ?_⟩
          conv => whnf
          refine ⟨by omega, by omega, ?_⟩
          conv => whnf
          refine ⟨0, a.length + 1, _, _, r2, g0, ?_⟩
          conv => whnf
          refine ⟨by rw [wj1]; omega, by rw [wj1]; omega, ?_⟩
          conv => whnf
          refine ⟨0, b.length + 1, _, _, t0, by rw [wj1]; exact v2, ?_⟩
          conv => whnf
          by_cases hle : lcsL (a.drop i) (b.drop (j + 1)) ≤ lcsL (a.drop (i + 1)) (b.drop j)
          · rw [leB_t (show lq a b i (j + 1) ≤ lq a b (i + 1) j by unfold lq; omega)]
            rw [if_pos hle] at hs
            rw [hs] at hc
            conv => whnf
            refine ⟨(a.length - (i + 1)) + (b.length - j), by omega, none, ?_⟩
            conv => whnf
            exact ⟨i + 1, j, [], rfl, by omega, by omega, hc, Nat.zero_le _, .inl ⟨rfl, ⟨rfl, rfl, rfl, rfl, hwi, rfl, trivial⟩, rfl⟩⟩
          · rw [leB_f (show lq a b (i + 1) j < lq a b i (j + 1) by unfold lq; omega)]
            rw [if_neg hle] at hs
            rw [hs] at hc
            conv => whnf
            refine ⟨(a.length - i) + (b.length - (j + 1)), by omega, none, ?_⟩
            conv => whnf
            exact ⟨i, j + 1, [], rfl, by omega, by omega, hc, Nat.zero_le _, .inl ⟨rfl, ⟨rfl, rfl, rfl, rfl, rfl, hwj, trivial⟩, rfl⟩⟩
      · rw [irows_len, ltB_f (by omega)]
        conv => whnf
        have hz : lcs (a.drop i) (b.drop j) = [] := by rw [List.drop_of_length_le (l := b) (by omega), lcs_nil]
        rw [hz, List.append_nil] at hc
        rw [← hc]
        try rfl
    · rw [irows_len, ltB_f (by omega)]
      conv => whnf
      have hz : lcs (a.drop i) (b.drop j) = [] := by rw [List.drop_of_length_le (l := a) (by omega), nil_lcs]
      rw [hz, List.append_nil] at hc
      rw [← hc]
      try rfl
  · obtain ⟨fr, rfl⟩ := hh.split
    clear hh
    have wi1 := fun (h : i < a.length) => wrapJ1 i (by omega)
    have wj1 := fun (h : j < b.length) => wrapJ1 j (by omega)
    conv => whnf
    by_cases hlt : i < a.length
    · rw [irows_len, ltB_t (by omega)]
      conv => whnf
      by_cases hlt2 : j < b.length
      · rw [irows_len, ltB_t (by omega)]
        conv => whnf
        have ha := List.drop_eq_getElem_cons (l := a) (i := i) (by omega)
        have hb := List.drop_eq_getElem_cons (l := b) (i := j) (by omega)
        have hs := lcs_cons a[i] b[j] (a.drop (i + 1)) (b.drop (j + 1))
        rw [← ha, ← hb] at hs
        have hga := irows_get a i (by omega)
        have hgb := irows_get b j (by omega)
        replace wi1 := wi1 hlt
        replace wj1 := wj1 hlt2
        have hwi : V.int .i64 (IntKind.i64.wrap ((i : Int) + 1)) = .int .i64 ((i + 1 : Nat) : Int) := by rw [wi1]
        have hwj : V.int .i64 (IntKind.i64.wrap ((j : Int) + 1)) = .int .i64 ((j + 1 : Nat) : Int) := by rw [wj1]
        generalize hp : a[i] = p at *
        generalize hq : b[j] = q at *
        refine draw_go hX ?_
        conv => whnf
        repeat' (first
          | (refine ⟨by omega, irows a, _, 1, rfl, hga, rfl, rfl, ?_⟩
             conv => whnf)
          | (refine ⟨by omega, irows b, _, 1, rfl, hgb, rfl, rfl, ?_⟩
             conv => whnf)
          | fail)
        by_cases hpq : p = q
        · rw [eqB_t hpq]
          rw [if_pos hpq] at hs
          rw [hs] at hc
          conv => whnf
          refine ⟨by omega, irows a, _, 1, rfl, hga, rfl, rfl, ?_⟩
          conv => whnf
          refine ⟨fun m hm => by rw [List.mem_singleton.1 hm]; rfl, ?_⟩
          conv => whnf
          refine ⟨by show ((irows c).length + 1) * 8 ≤ _; rw [irows_len]; omega, ?_⟩
          conv => whnf
          refine ⟨(a.length - (i + 1)) + (b.length - (j + 1)), by omega, some [0, 3], ?_⟩
          conv => whnf
          refine ⟨i + 1, j + 1, c ++ [p], rfl, by omega, by omega, by rw [← hc]; simp, by simp; omega, .inr ⟨by simp, ⟨rfl, rfl, rfl, rfl, hwi, hwj, trivial⟩, ?_⟩⟩
          rw [irows_snoc]; rfl
        · rw [eqB_f hpq]
          rw [if_neg hpq] at hs
          obtain ⟨x, hx⟩ := hL i (by omega)
          obtain ⟨y, hy⟩ := hL (i + 1) (by omega)
          obtain ⟨R, r1, r2, r3⟩ := hT.root
          have g0 : R[i]? = some [.dref x (b.length + 1) (b.length + 1)] := by rw [r3 i (by omega)]; unfold cellO; rw [hx]
          have g1 : R[i + 1]? = some [.dref y (b.length + 1) (b.length + 1)] := by rw [r3 (i + 1) (by omega)]; unfold cellO; rw [hy]
          have t0 := hT.row i x hx
          have t1 := hT.row (i + 1) y hy
          have v1 := numR_get (m := b.length + 1) (lq a b (i + 1)) (show j < b.length + 1 by omega)
          have v2 := numR_get (m := b.length + 1) (lq a b i) (show j + 1 < b.length + 1 by omega)
          conv => whnf
          refine draw_go hX ?_
          conv => whnf
          refine ⟨by rw [wi1]; omega, by rw [wi1]; omega, ?_⟩
          conv => whnf
          refine ⟨0, a.length + 1, _, _, r2, by rw [wi1]; exact g1, ?_⟩
          conv => whnf
          refine ⟨by omega, by omega, ?_⟩
          conv => whnf
          refine ⟨0, b.length + 1, _, _, t1, v1, ?_⟩
          conv => whnf
          refine ⟨by omega, by omega, ?_⟩
          conv => whnf
          refine ⟨0, a.length + 1, _, _, r2, g0, ?_⟩
          conv => whnf
          refine ⟨by rw [wj1]; omega, by rw [wj1]; omega, ?_⟩
          conv => whnf
          refine ⟨0, b.length + 1, _, _, t0, by rw [wj1]; exact v2, ?_⟩
          conv => whnf
          by_cases hle : lcsL (a.drop i) (b.drop (j + 1)) ≤ lcsL (a.drop (i + 1)) (b.drop j)
          · rw [leB_t (show lq a b i (j + 1) ≤ lq a b (i + 1) j by unfold lq; omega)]
            rw [if_pos hle] at hs
            rw [hs] at hc
            conv => whnf
            refine ⟨(a.length - (i + 1)) + (b.length - j), by omega, none, ?_⟩
            conv => whnf
            exact ⟨i + 1, j, c, rfl, by omega, by omega, hc, by omega, .inr ⟨hc0, ⟨rfl, rfl, rfl, rfl, hwi, rfl, trivial⟩, rfl⟩⟩
          · rw [leB_f (show lq a b (i + 1) j < lq a b i (j + 1) by unfold lq; omega)]
            rw [if_neg hle] at hs
            rw [hs] at hc
            conv => whnf
            refine ⟨(a.length - i) + (b.length - (j + 1)), by omega, none, ?_⟩
            conv => whnf
            exact ⟨i, j + 1, c, rfl, by omega, by omega, hc, by omega, .inr ⟨hc0, ⟨rfl, rfl, rfl, rfl, rfl, hwj, trivial⟩, rfl⟩⟩
      · rw [irows_len, ltB_f (by omega)]
        conv => whnf
        have hz : lcs (a.drop i) (b.drop j) = [] := by rw [List.drop_of_length_le (l := b) (by omega), lcs_nil]
        rw [hz, List.append_nil] at hc
        rw [← hc]
        try rfl
    · rw [irows_len, ltB_f (by omega)]
      conv => whnf
      have hz : lcs (a.drop i) (b.drop j) = [] := by rw [List.drop_of_length_le (l := a) (by omega), nil_lcs]
      rw [hz, List.append_nil] at hc
      rw [← hc]
      try rfl
end Go.Cod

namespace Go.Cod
open Go Go.Proofs
set_option linter.all false
set_option maxRecDepth 10000

/-! Three lists of steps in a pool. -/
def SlIn (es : List (List V)) (h : Option (Nat × Nat)) (L : List Stp) : Prop := match h with
  | none => L = []
  | some (b, c) => ent b c 8 (nrows L) ∈ es
def Apart (h k : Option (Nat × Nat)) : Prop := ∀ b c b' c', h = some (b, c) → k = some (b', c') → b ≠ b'
theorem Apart.symm {h k : Option (Nat × Nat)} (a : Apart h k) : Apart k h := fun b c b' c' p q e => a b' c' b c q p e.symm
structure D3 (es : List (List V)) (h1 h2 h3 : Option (Nat × Nat)) (c s p : List Stp) : Prop where
  i1 : SlIn es h1 c
  i2 : SlIn es h2 s
  i3 : SlIn es h3 p
  d12 : Apart h1 h2
  d13 : Apart h1 h3
  d23 : Apart h2 h3
theorem D3.s12 {es h1 h2 h3 c s p} (h : D3 es h1 h2 h3 c s p) : D3 es h2 h1 h3 s c p := ⟨h.i2, h.i1, h.i3, h.d12.symm, h.d23, h.d13⟩
theorem D3.s13 {es h1 h2 h3 c s p} (h : D3 es h1 h2 h3 c s p) : D3 es h3 h2 h1 p s c := ⟨h.i3, h.i2, h.i1, h.d23.symm, h.d13.symm, h.d12.symm⟩
theorem SlIn.put {es : List (List V)} {b c : Nat} {k : Option (Nat × Nat)} {L : List Stp} (h : SlIn es k L) (ha : Apart (some (b, c)) k) (r : List (List V)) : SlIn (putEnt b r es) k L := by
  rcases k with _ | ⟨b', c'⟩
  · exact h
  · exact putEnt_other h (by rw [lab_ent]; exact fun e => ha b c b' c' rfl rfl e.symm)
theorem SlIn.more {es : List (List V)} {k : Option (Nat × Nat)} {L : List Stp} (h : SlIn es k L) (es' : List (List V)) : SlIn (es ++ es') k L := by
  rcases k with _ | ⟨b', c'⟩
  · exact h
  · exact List.mem_append_left _ h
theorem SlIn.fresh {es : List (List V)} {k : Option (Nat × Nat)} {L : List Stp} (h : SlIn es k L) {b c : Nat} (hb : ∀ e ∈ es, labOf e ≠ b) : Apart (some (b, c)) k := by
  intro x y b' c' e1 e2
  cases e1
  subst e2
  exact fun e => hb _ h (by rw [lab_ent]; exact e.symm)
theorem D3.room {es b c0 h2 h3 c s p} (h : D3 es (some (b, c0)) h2 h3 c s p) (c' : List Stp) : D3 (putEnt b (nrows c') es) (some (b, c0)) h2 h3 c' s p :=
  ⟨putEnt_mem h.i1, h.i2.put h.d12 _, h.i3.put h.d13 _, h.d12, h.d13, h.d23⟩
theorem D3.new {es h1 h2 h3 c s p} (h : D3 es h1 h2 h3 c s p) {b c0 : Nat} (hb : ∀ e ∈ es, labOf e ≠ b) (c' : List Stp) : D3 (es ++ [ent b c0 8 (nrows c')]) (some (b, c0)) h2 h3 c' s p :=
  ⟨List.mem_append_right _ (by simp), h.i2.more _, h.i3.more _, h.i2.fresh hb, h.i3.fresh hb, h.d23⟩
theorem laid_nrows (c q : List Stp) : laidRows (nrows c) (nrows q) c.length = nrows (c ++ q) := by
  unfold laidRows
  rw [List.take_of_length_le (by rw [nrows_len]; omega), List.drop_of_length_le (by rw [nrows_len, nrows_len]; omega), nrows_append, List.append_nil]
theorem semStep {o : Oper} {sl x : Operand} {t u e : TypeId} {ti : TI} (ho : o.op = .call { callee := .builtin .append, args := #[sl, x], argTypes := #[t, u] }) (hk : kindOf (tauOf tauL) t = some (.slice e)) (hti : tauOf tauL e = some ti) (hu : notInt (kindOf (tauOf tauL) u) = true)
    (hz : ti.zero.cells.length = ti.size) (hsz : ti.size = 8) (hby : ti.bytes = 104) {vs : List V} {vx : V} {k : Nat} {h : Option (Nat × Nat)} {L : List Stp} {q : Stp} {es : List (List V)} {st : St} {K : V → St → Prop} (hvs : vs = [hdV h L.length, vx]) (hpe : st[k]? = some (poolO es)) (hin : SlIn es h L)
    (hsrc : PSrc st vx (nrows [q])) (hl : L.length ≤ 1000000) (hr : ∀ b c, h = some (b, c) → K (.dref b (L.length + 1) c) (st.set k (poolO (putEnt b (nrows (L ++ [q])) es))))
    (hg : ∀ b c, (∀ e ∈ es, labOf e ≠ b) → K (.dref b (L.length + 1) c) (st.set k (poolO (es ++ [ent b c 8 (nrows (L ++ [q]))])))) : SemOp Try.prog o vs st K := by
  have hw : ∀ m ∈ nrows [q], m.length = ti.size := by rw [hsz]; exact nrows_wid _
  rcases h with _ | ⟨b, c⟩
  · have hL : L = [] := hin
    subst hL
    refine semAppendNil (m := 1) good ho hk hti hu hz (by omega) hvs hpe hsrc hw rfl (by omega) (by rw [hby]; omega) fun b c _ hf => ?_
    rw [hsz]
    exact hg b c hf
  · have hm : ent b c ti.size (nrows L) ∈ es := by rw [hsz]; exact hin
    refine semAppendE (m := 1) (rows := nrows L) (es1 := putEnt b (nrows (L ++ [q])) es) good ho hk hti hu hz (by omega) hvs (by simp only [poolEs, hpe]; rfl) hm hsrc hw rfl (by rw [nrows_len]; omega) (by rw [hby]; omega) (by rw [laid_nrows]) (fun _ => hr b c rfl) fun _ b' c' _ hf => ?_
    rw [List.take_of_length_le (by rw [nrows_len]; omega), ← nrows_append, hsz]
    exact hg b' c' hf
theorem semStep1 {o : Oper} {sl x : Operand} {t u e : TypeId} {ti : TI} (ho : o.op = .call { callee := .builtin .append, args := #[sl, x], argTypes := #[t, u] }) (hk : kindOf (tauOf tauL) t = some (.slice e)) (hti : tauOf tauL e = some ti) (hu : notInt (kindOf (tauOf tauL) u) = true)
    (hz : ti.zero.cells.length = ti.size) (hsz : ti.size = 8) (hby : ti.bytes = 104) {vs : List V} {vx : V} {k : Nat} {h1 h2 h3 : Option (Nat × Nat)} {c s p : List Stp} {q : Stp} {es : List (List V)} {st : St} {K : V → St → Prop} (hvs : vs = [hdV h1 c.length, vx]) (hpe : st[k]? = some (poolO es)) (hD : D3 es h1 h2 h3 c s p)
    (hsrc : PSrc st vx (nrows [q])) (hl : c.length ≤ 1000000) (hK : ∀ es' b cc, D3 es' (some (b, cc)) h2 h3 (c ++ [q]) s p → K (.dref b (c.length + 1) cc) (st.set k (poolO es'))) : SemOp Try.prog o vs st K :=
  semStep ho hk hti hu hz hsz hby hvs hpe hD.i1 hsrc hl (fun b cc e => by subst e; exact hK _ b cc (hD.room _)) fun b cc hf => hK _ b cc (hD.new hf _)
theorem semStep2 {o : Oper} {sl x : Operand} {t u e : TypeId} {ti : TI} (ho : o.op = .call { callee := .builtin .append, args := #[sl, x], argTypes := #[t, u] }) (hk : kindOf (tauOf tauL) t = some (.slice e)) (hti : tauOf tauL e = some ti) (hu : notInt (kindOf (tauOf tauL) u) = true)
    (hz : ti.zero.cells.length = ti.size) (hsz : ti.size = 8) (hby : ti.bytes = 104) {vs : List V} {vx : V} {k : Nat} {h1 h2 h3 : Option (Nat × Nat)} {c s p : List Stp} {q : Stp} {es : List (List V)} {st : St} {K : V → St → Prop} (hvs : vs = [hdV h2 s.length, vx]) (hpe : st[k]? = some (poolO es)) (hD : D3 es h1 h2 h3 c s p)
    (hsrc : PSrc st vx (nrows [q])) (hl : s.length ≤ 1000000) (hK : ∀ es' b cc, D3 es' h1 (some (b, cc)) h3 c (s ++ [q]) p → K (.dref b (s.length + 1) cc) (st.set k (poolO es'))) : SemOp Try.prog o vs st K :=
  semStep ho hk hti hu hz hsz hby hvs hpe hD.i2 hsrc hl (fun b cc e => by subst e; exact hK _ b cc (hD.s12.room _).s12) fun b cc hf => hK _ b cc (hD.s12.new hf _).s12
theorem semStep3 {o : Oper} {sl x : Operand} {t u e : TypeId} {ti : TI} (ho : o.op = .call { callee := .builtin .append, args := #[sl, x], argTypes := #[t, u] }) (hk : kindOf (tauOf tauL) t = some (.slice e)) (hti : tauOf tauL e = some ti) (hu : notInt (kindOf (tauOf tauL) u) = true)
    (hz : ti.zero.cells.length = ti.size) (hsz : ti.size = 8) (hby : ti.bytes = 104) {vs : List V} {vx : V} {k : Nat} {h1 h2 h3 : Option (Nat × Nat)} {c s p : List Stp} {q : Stp} {es : List (List V)} {st : St} {K : V → St → Prop} (hvs : vs = [hdV h3 p.length, vx]) (hpe : st[k]? = some (poolO es)) (hD : D3 es h1 h2 h3 c s p)
    (hsrc : PSrc st vx (nrows [q])) (hl : p.length ≤ 1000000) (hK : ∀ es' b cc, D3 es' h1 h2 (some (b, cc)) c s (p ++ [q]) → K (.dref b (p.length + 1) cc) (st.set k (poolO es'))) : SemOp Try.prog o vs st K :=
  semStep ho hk hti hu hz hsz hby hvs hpe hD.i3 hsrc hl (fun b cc e => by subst e; exact hK _ b cc (hD.s13.room _).s13) fun b cc hf => hK _ b cc (hD.s13.new hf _).s13
def dbox (x y z : V) : O := ⟨[[x, y, z]], 3, true, true, true, .cell⟩
def cutsL (w i : T) : List Stp := (pairsT w i).flatMap fun p => cutsOf (locB p) p
def setsL (w i : T) : List Stp := (pairsT w i).flatMap wordsOf
/-- What a node adds. -/
def NodeR (w i : T) (c s p : List Stp) (o : Out) (st' : St) : Prop := o = .ret (.tup []) ∧ ∃ (es : List (List V)) (h1 h2 h3 : Option (Nat × Nat)), D3 es h1 h2 h3 (c ++ cutsL w i) (s ++ setsL w i) (p ++ sputT w i) ∧
  st' = [dbox (hdV h1 (c ++ cutsL w i).length) (hdV h2 (s ++ setsL w i).length) (hdV h3 (p ++ sputT w i).length), poolO es]
end Go.Cod

namespace Go.Cod
open Go Go.Proofs
set_option linter.all false
set_option maxRecDepth 10000

theorem sputL_append (w : T) (x : Int) (c : List Int) : ∀ (a b : List T) (n : Nat), sputL w x c n (a ++ b) = sputL w x c n a ++ sputL w x c (n + a.length) b
  | [], b, n => by simp [sputL]
  | k :: ks, b, n => by
    simp only [List.cons_append, sputL, sputL_append w x c ks b (n + 1), List.append_assoc, List.length_cons]
    congr 3
    omega
theorem fL_mem2 : ∀ (ts : List T) (k : T), (T.idsL ts).Nodup → k ∈ ts → fL ts k.id = some k
  | [], _, _, h => by cases h
  | t :: ts, k, hn, h => by
    simp only [T.idsL, List.nodup_append] at hn
    simp only [fL]
    rcases List.mem_cons.1 h with rfl | h
    · cases k with
      | mk a b c d =>
      have : fT (T.mk a b c d) (T.mk a b c d).id = some (.mk a b c d) := by
        simp only [fT, T.id, if_true]
      rw [this]
    · have hm : k.id ∈ T.idsL ts := idsL_kid (List.mem_map.2 ⟨k, h, rfl⟩)
      have h3 : k.id ∉ t.ids := fun hc => hn.2.2 k.id hc k.id hm rfl
      rw [(fT_none t k.id).2 h3]
      exact fL_mem2 ts k hn.2.1 h
theorem fT_kid2 {t k : T} (hn : t.ids.Nodup) (hk : k ∈ t.kids) : fT t k.id = some k := by
  obtain ⟨a, b, c, d⟩ := t
  have hk : k ∈ d := hk
  have hm : k.id ∈ T.idsL d := kid_ids (t := .mk 0 [] [] d) hk _ (T.id_mem k)
  simp only [T.ids, List.nodup_cons] at hn
  have hne : ¬ a = k.id := fun e => hn.1 (by rw [e]; exact hm)
  simp only [fT, if_neg hne]
  exact fL_mem2 d k hn.2 hk
set_option maxHeartbeats 8000000 in
theorem node_tt (wi : Int) (wk wx : List UInt8) (wks : List T) (ik ix : List UInt8) (iks : List T) (lw : wks.length ≤ 1048576) (li : iks.length ≤ 1048576) (h4 : wk.length ≤ 1048576) (hws : (T.mk wi wk wx wks).Small) (his : ∀ t ∈ iks, t.Small) (hwn : (T.mk wi wk wx wks).ids.Nodup)
    (ih : ∀ k ∈ iks, k.id ∈ wks.map T.id → ∀ es h1 h2 h3 c s p, D3 es h1 h2 h3 c s p → c.length + (cutsL (kidIn wks k.id) k).length ≤ 1000000 → s.length + (setsL (kidIn wks k.id) k).length ≤ 1000000 → p.length + (sputT (kidIn wks k.id) k).length ≤ 1000000 →
      Full Try.prog noY 36 [.ptr 0 0 0, .agg (kidIn wks k.id).cells, .agg k.cells] [dbox (hdV h1 c.length) (hdV h2 s.length) (hdV h3 p.length), poolO es] (NodeR (kidIn wks k.id) k c s p))
    (e1 : wk = ik) (e2 : wx = ix) (es : List (List V)) (h1 h2 h3 : Option (Nat × Nat)) (c s p : List Stp) (hD : D3 es h1 h2 h3 c s p) (bc : c.length + (cutsL (.mk wi wk wx wks) (.mk wi ik ix iks)).length ≤ 1000000) (bs : s.length + (setsL (.mk wi wk wx wks) (.mk wi ik ix iks)).length ≤ 1000000) (bp : p.length + (sputT (.mk wi wk wx wks) (.mk wi ik ix iks)).length ≤ 1000000) :
    Full Try.prog noY 36 [.ptr 0 0 0, .agg (T.mk wi wk wx wks).cells, .agg (T.mk wi ik ix iks).cells] [dbox (hdV h1 c.length) (hdV h2 s.length) (hdV h3 p.length), poolO es] (NodeR (.mk wi wk wx wks) (.mk wi ik ix iks) c s p) := by
  have n1 := l5Numbers_pure (.mk wi wk wx wks) lw
  have n2 := l5Numbers_pure (.mk wi ik ix iks) li
  rw [show (T.mk wi wk wx wks).kidIds = wks.map T.id from rfl] at n1
  rw [show (T.mk wi ik ix iks).kidIds = iks.map T.id from rfl] at n2
  have n3 := l5Both_pure (wks.map T.id) (iks.map T.id) (by rw [List.length_map]; omega) (by rw [List.length_map]; omega)
  have hsub := lcs_sub _ (wks.map T.id) (iks.map T.id) (Nat.le_refl _)
  have hcut : cutsL (.mk wi wk wx wks) (.mk wi ik ix iks) = ((wks.filter fun k => !decide (k.id ∈ lcs (wks.map T.id) (iks.map T.id))).map fun k => cutStp k.id) ++ (pairsL (.mk wi wk wx wks) (lcs (wks.map T.id) (iks.map T.id)) iks).flatMap fun p => cutsOf (locB p) p := by
    unfold cutsL; rw [pairsT, List.flatMap_cons]; rfl
  have hset : setsL (.mk wi wk wx wks) (.mk wi ik ix iks) = ((if wk ≠ ik then [⟨4, wi, 0, TZ, ik⟩] else []) ++ (if wx ≠ ix then [⟨3, wi, 0, TZ, ix⟩] else [])) ++ (pairsL (.mk wi wk wx wks) (lcs (wks.map T.id) (iks.map T.id)) iks).flatMap wordsOf := by
    unfold setsL; rw [pairsT, List.flatMap_cons]; rfl
  have hput : sputT (.mk wi wk wx wks) (.mk wi ik ix iks) = sputL (.mk wi wk wx wks) wi (lcs (wks.map T.id) (iks.map T.id)) 0 iks := by rw [sputT]; rfl
  have hfind : ∀ x, x ∈ wks.map T.id → fT (.mk wi wk wx wks) x = some (kidIn wks x) := fun x hx => by
    obtain ⟨k1, k2⟩ := kidIn_mem hx
    have := fT_kid2 hwn (k := kidIn wks x) k1
    rwa [k2] at this
  unfold NodeR
  rw [hcut] at bc ⊢
  rw [hset] at bs ⊢
  rw [hput] at bp ⊢
  clear hcut hset hput
  have hcl : (lcs (wks.map T.id) (iks.map T.id)).length ≤ 1048576 := by have := hsub.1.length_le; rw [List.length_map] at this; omega
  have hhas := fun x => l2Has_pure (lcs (wks.map T.id) (iks.map T.id)) x (by omega)
  generalize lcs (wks.map T.id) (iks.map T.id) = cm at *
  have hlr := Go.Cod.rows_len wks
  have hlr2 := Go.Cod.rows_len iks
  refine full_of_draw good Try.func36 rfl (by kernel_rfl) (by decide) fun X hX => ?_
  conv => whnf
  refine draw_go hX ?_
  conv => whnf
  repeat' (first
    | (refine ⟨_, .inl n1, ?_⟩
       conv => whnf)
    | (refine ⟨_, .inl n2, ?_⟩
       conv => whnf)
    | (refine ⟨_, .inl n3, ?_⟩
       conv => whnf)
    | (rintro r rfl
       conv => whnf)
    | (refine And.intro ?_ ?_))
  clear n1 n2 n3
  -- what is cut
  refine loop_drop (fun n fr st => ∃ (k : Nat) (es : List (List V)) (h1 : Option (Nat × Nat)) (c' : List Stp), n + k = wks.length ∧ c' = c ++ (((wks.take k).filter fun k => !decide (k.id ∈ cm)).map fun k => cutStp k.id) ∧ D3 es h1 h2 h3 c' s p ∧
      Holds fr [(0, .ptr 0 0 0), (4, .ptr 2 0 0), (5, .ptr 3 0 0), (6, .sl (irows cm)), (7, .int .i64 k)] ∧
      st = [dbox (hdV h1 c'.length) (hdV h2 s.length) (hdV h3 p.length), poolO es, ⟨[[.int .i64 wi, .str wk, .str wx, .sl (T.rows wks)]], 4, true, true, true, .cell⟩, ⟨[[.int .i64 wi, .str ik, .str ix, .sl (T.rows iks)]], 4, true, true, true, .cell⟩]) wks.length none ?_ ?_
  · exact ⟨0, es, h1, c, rfl, by simp, hD, ⟨rfl, rfl, rfl, rfl, rfl, trivial⟩, rfl⟩
  clear hD
  rintro n fr st ⟨k, es, h1, c', hk, hc', hD, hh, rfl⟩
  obtain ⟨fr, rfl⟩ := hh.split
  clear hh
  conv => whnf
  rw [hlr]
  by_cases hlt : k < wks.length
  · rw [ltB_t (by omega)]
    conv => whnf
    have hg := Go.Cod.rows_get wks k hlt
    have htk : ((wks.take (k + 1)).filter fun k => !decide (k.id ∈ cm)) = ((wks.take k).filter fun k => !decide (k.id ∈ cm)) ++ if wks[k].id ∈ cm then [] else [wks[k]] := by
      rw [List.take_succ_eq_append_getElem hlt, List.filter_append]
      congr 1
      by_cases h : wks[k].id ∈ cm <;> simp [h]
    have hwk : V.int .i64 (IntKind.i64.wrap ((k : Int) + 1)) = .int .i64 ((k + 1 : Nat) : Int) := by rw [wrapJ1 k (by omega)]
    have hlb : c'.length ≤ 1000000 := by
      have h1 : ((wks.take k).filter fun k => !decide (k.id ∈ cm)).length ≤ (wks.filter fun k => !decide (k.id ∈ cm)).length := by
        conv => rhs; rw [← List.take_append_drop k wks, List.filter_append, List.length_append]
        omega
      rw [hc']
      simp only [List.length_append, List.length_map] at bc ⊢
      omega
    generalize wks[k] = t at *
    obtain ⟨ti, tk, tx, tks⟩ := t
    have hti : (T.mk ti tk tx tks).id = ti := rfl
    rw [hti] at htk
    have hha := hhas ti
    refine ⟨by omega, T.rows wks, _, 4, rfl, hg, rfl, rfl, ?_⟩
    conv => whnf
    refine .inl (hha.mono ?_)
    rintro r rfl
    by_cases hm : ti ∈ cm
    · rw [if_pos hm, List.append_nil] at htk
      rw [decide_eq_true hm]
      conv => whnf
      refine ⟨n - 1, by omega, none, k + 1, es, h1, c', by omega, by rw [htk]; exact hc', hD, ⟨rfl, rfl, rfl, rfl, hwk, trivial⟩, rfl⟩
    · rw [if_neg hm] at htk
      rw [decide_eq_false hm]
      conv => whnf
      refine draw_with hX [(0, .ptr 0 0 0), (4, .ptr 2 0 0), (5, .ptr 3 0 0), (6, .sl (irows cm)), (7, .int .i64 k)] ⟨rfl, rfl, rfl, rfl, rfl, trivial⟩ fun C hC fr => ?_
      have hJ : ∀ fr es' b cc tmp, D3 es' (some (b, cc)) h2 h3 (c' ++ [cutStp ti]) s p → Holds fr [(0, .ptr 0 0 0), (4, .ptr 2 0 0), (5, .ptr 3 0 0), (6, .sl (irows cm)), (7, .int .i64 k)] →
          C fr [dbox (.dref b (c'.length + 1) cc) (hdV h2 s.length) (hdV h3 p.length), poolO es', ⟨[[.int .i64 wi, .str wk, .str wx, .sl (T.rows wks)]], 4, true, true, true, .cell⟩, ⟨[[.int .i64 wi, .str ik, .str ix, .sl (T.rows iks)]], 4, true, true, true, .cell⟩, ⟨tmp, 8, true, true, false, .cell⟩] := by
        intro fr es' b cc tmp hD' hh
        obtain ⟨fr, rfl⟩ := hh.split
        refine hC _ _ ?_
        clear hC hh
        conv => whnf
        refine ⟨n - 1, by omega, some [0, 1, 2, 3], ?_⟩
        conv => whnf
        refine ⟨k + 1, es', some (b, cc), c' ++ [cutStp ti], by omega, by rw [htk, hc', List.map_append, ← List.append_assoc]; rfl, hD', ⟨rfl, rfl, rfl, rfl, hwk, trivial⟩, ?_⟩
        rw [List.length_append]
        rcases h2 with _ | ⟨_, _⟩ <;> rcases h3 with _ | ⟨_, _⟩ <;> rfl
      clear hC
      rcases h1 with _ | ⟨b0, cc0⟩
      all_goals
        conv => whnf
        refine ⟨by omega, T.rows wks, _, 4, rfl, hg, rfl, rfl, ?_⟩
        conv => whnf
        refine semStep1 (k := 1) (q := cutStp ti) rfl rfl rfl rfl rfl rfl rfl rfl rfl hD (.inl rfl) hlb fun es' b cc hD' => ?_
        conv => whnf
        exact hJ _ es' b cc _ hD' ⟨rfl, rfl, rfl, rfl, rfl, trivial⟩
  · rw [ltB_f (by omega)]
    rw [List.take_of_length_le (by omega)] at hc'
    conv => whnf
    have hsb : s.length + (0) ≤ 1000000 := by
      have hz := bs
      rw [if_neg (by simp [e1]), if_neg (by simp [e2])] at hz
      simp only [List.length_append, List.length_singleton, List.length_nil] at hz
      omega
    have hcl' : c'.length = c.length + (wks.filter fun k => !decide (k.id ∈ cm)).length := by rw [hc', List.length_append, List.length_map]
    rw [eqS_t e1]
    conv => whnf
    rw [eqS_t e2]
    conv => whnf
    obtain ⟨S, hSS⟩ : ∃ S, S = s ++ ((if wk ≠ ik then [(⟨4, wi, 0, TZ, ik⟩ : Stp)] else []) ++ (if wx ≠ ix then [(⟨3, wi, 0, TZ, ix⟩ : Stp)] else [])) := ⟨_, rfl⟩
    have hSs : S = s := by rw [hSS, if_neg (by simp [e1]), if_neg (by simp [e2])]; simp
    have hsl' : S.length = s.length + ((if wk ≠ ik then [(⟨4, wi, 0, TZ, ik⟩ : Stp)] else []).length + (if wx ≠ ix then [(⟨3, wi, 0, TZ, ix⟩ : Stp)] else []).length) := by rw [hSS]; simp only [List.length_append]
    refine loop_drop (fun n fr st => ∃ (k : Nat) (es : List (List V)) (h1 h2 h3 : Option (Nat × Nat)) (cc ss pp : List Stp), n + k = iks.length ∧ cc = c' ++ (pairsL (.mk wi wk wx wks) cm (iks.take k)).flatMap (fun p => cutsOf (locB p) p) ∧ ss = S ++ (pairsL (.mk wi wk wx wks) cm (iks.take k)).flatMap wordsOf ∧ pp = p ++ sputL (.mk wi wk wx wks) wi cm 0 (iks.take k) ∧ D3 es h1 h2 h3 cc ss pp ∧
        Holds fr [(0, .ptr 0 0 0), (4, .ptr 2 0 0), (5, .ptr 3 0 0), (6, .sl (irows cm)), (8, .int .i64 k)] ∧ st = [dbox (hdV h1 cc.length) (hdV h2 ss.length) (hdV h3 pp.length), poolO es, ⟨[[.int .i64 wi, .str wk, .str wx, .sl (T.rows wks)]], 4, true, true, true, .cell⟩, ⟨[[.int .i64 wi, .str ik, .str ix, .sl (T.rows iks)]], 4, true, true, true, .cell⟩]) iks.length (some [0, 1, 2, 3]) ?_ ?_
    · conv => whnf
      exact ⟨0, es, h1, h2, h3, c', S, p, rfl, by simp [pairsL], by simp [pairsL], by simp [sputL], by rw [hSs]; exact hD, ⟨rfl, rfl, rfl, rfl, rfl, trivial⟩, by rw [hSs]; rcases h1 with _ | ⟨_, _⟩ <;> rcases h2 with _ | ⟨_, _⟩ <;> rcases h3 with _ | ⟨_, _⟩ <;> rfl⟩
    clear hD
    rintro n fr st ⟨k, es, h1, h2, h3, cc, ss, pp, hk, hcc, hss, hpp, hD, hh, rfl⟩
    obtain ⟨fr, rfl⟩ := hh.split
    clear hh
    conv => whnf
    rw [hlr2]
    by_cases hlt : k < iks.length
    · rw [ltB_t (by omega)]
      conv => whnf
      have hg := Go.Cod.rows_get iks k hlt
      have hmem := List.getElem_mem hlt
      have htk : iks.take (k + 1) = iks.take k ++ [iks[k]] := by rw [List.take_succ_eq_append_getElem hlt]
      have hpk : pairsL (.mk wi wk wx wks) cm (iks.take (k + 1)) = pairsL (.mk wi wk wx wks) cm (iks.take k) ++ (if iks[k].id ∈ cm then pairsT (kidOf (.mk wi wk wx wks) iks[k].id) iks[k] else []) := by
        rw [htk, pairsL_append]; simp only [pairsL, List.append_nil]
      have hsk : sputL (.mk wi wk wx wks) wi cm 0 (iks.take (k + 1)) = sputL (.mk wi wk wx wks) wi cm 0 (iks.take k) ++ (if iks[k].id ∈ cm then sputT (kidOf (.mk wi wk wx wks) iks[k].id) iks[k] else [⟨1, wi, k, iks[k], []⟩]) := by
        rw [htk, sputL_append, List.length_take, Nat.min_eq_left (by omega), Nat.zero_add]; simp only [sputL, List.append_nil]
      have hpf : ∀ F : T × T → List Stp, ((pairsL (.mk wi wk wx wks) cm (iks.take (k + 1))).flatMap F).length ≤ ((pairsL (.mk wi wk wx wks) cm iks).flatMap F).length := fun F => by
        conv => rhs; rw [← List.take_append_drop (k + 1) iks, pairsL_append, List.flatMap_append, List.length_append]
        omega
      have hsf : (sputL (.mk wi wk wx wks) wi cm 0 (iks.take (k + 1))).length ≤ (sputL (.mk wi wk wx wks) wi cm 0 iks).length := by
        conv => rhs; rw [← List.take_append_drop (k + 1) iks, sputL_append, List.length_append]
        omega
      have hwk : V.int .i64 (IntKind.i64.wrap ((k : Int) + 1)) = .int .i64 ((k + 1 : Nat) : Int) := by rw [wrapJ1 k (by omega)]
      have f1 := hpf fun p => cutsOf (locB p) p
      have f2 := hpf wordsOf
      clear hpf htk
      have hcp := l2Copy_pure iks[k] (his _ hmem)
      have hfd := l2Find_pure (.mk wi wk wx wks) hws iks[k].id
      have hfi : iks[k].id ∈ cm → fT (.mk wi wk wx wks) iks[k].id = some (kidIn wks iks[k].id) := fun h => hfind _ (hsub.1.subset h)
      have hrec := fun h : iks[k].id ∈ cm => ih iks[k] hmem (hsub.1.subset h) es h1 h2 h3 cc ss pp hD
      rw [show kidOf (.mk wi wk wx wks) iks[k].id = kidIn wks iks[k].id from rfl] at hpk hsk
      have hha := hhas iks[k].id
      generalize iks[k] = t at *
      clear hmem
      by_cases hm : t.id ∈ cm
      · replace hfi := hfi hm
        replace hrec := hrec hm
        rw [if_pos hm] at hpk hsk
        rw [hfi] at hfd
        rw [hpk, List.flatMap_append] at f1 f2
        rw [hsk] at hsf
        simp only [List.length_append, List.length_map] at f1 f2 hsf bc bs bp
        have hrec := hrec (by rw [hcc]; simp only [List.length_append, hcl'] ; unfold cutsL; omega) (by rw [hss]; simp only [List.length_append, hsl']; unfold setsL; omega) (by rw [hpp]; simp only [List.length_append]; omega)
        rw [decide_eq_true hm] at hha
        unfold NodeR at hrec
        have q1 : cc ++ cutsL (kidIn wks t.id) t = c' ++ (pairsL (.mk wi wk wx wks) cm (iks.take (k + 1))).flatMap (fun p => cutsOf (locB p) p) := by rw [hpk, List.flatMap_append, hcc, List.append_assoc]; rfl
        have q2 : ss ++ setsL (kidIn wks t.id) t = S ++ (pairsL (.mk wi wk wx wks) cm (iks.take (k + 1))).flatMap wordsOf := by rw [hpk, List.flatMap_append, hss, List.append_assoc]; rfl
        have q3 : pp ++ sputT (kidIn wks t.id) t = p ++ sputL (.mk wi wk wx wks) wi cm 0 (iks.take (k + 1)) := by rw [hsk, hpp, List.append_assoc]
        clear hpk hsk f1 f2 hsf hcc hss hpp hfi
        generalize kidIn wks t.id = z at *
        obtain ⟨ti, tk, tx, tks⟩ := t
        obtain ⟨zi, zk, zx, zks⟩ := z
        refine ⟨by omega, T.rows iks, _, 4, rfl, hg, rfl, rfl, ?_⟩
        conv => whnf
        refine .inl (hha.mono ?_)
        rintro r rfl
        conv => whnf
        refine draw_go hX ?_
        conv => whnf
        repeat' (first
          | (refine ⟨by omega, T.rows iks, _, 4, rfl, hg, rfl, rfl, ?_⟩
             conv => whnf)
          | (refine ⟨_, .inl hfd, ?_⟩
             conv => whnf)
          | (rintro r rfl
             conv => whnf)
          | (refine And.intro ?_ ?_
             all_goals (conv => whnf))
          | fail)
        all_goals (try rfl)
        refine draw_with hX [(0, .ptr 0 0 0), (4, .ptr 2 0 0), (5, .ptr 3 0 0), (6, .sl (irows cm)), (8, .int .i64 k), (9, .ptr 4 0 0)] ⟨rfl, rfl, rfl, rfl, rfl, rfl, trivial⟩ fun C hC fr => ?_
        have hJ : ∀ fr es' g1 g2 g3, D3 es' g1 g2 g3 (cc ++ cutsL (.mk zi zk zx zks) (.mk ti tk tx tks)) (ss ++ setsL (.mk zi zk zx zks) (.mk ti tk tx tks)) (pp ++ sputT (.mk zi zk zx zks) (.mk ti tk tx tks)) → Holds fr [(0, .ptr 0 0 0), (4, .ptr 2 0 0), (5, .ptr 3 0 0), (6, .sl (irows cm)), (8, .int .i64 k)] →
            C fr [dbox (hdV g1 (cc ++ cutsL (.mk zi zk zx zks) (.mk ti tk tx tks)).length) (hdV g2 (ss ++ setsL (.mk zi zk zx zks) (.mk ti tk tx tks)).length) (hdV g3 (pp ++ sputT (.mk zi zk zx zks) (.mk ti tk tx tks)).length), poolO es', ⟨[[.int .i64 wi, .str wk, .str wx, .sl (T.rows wks)]], 4, true, true, true, .cell⟩, ⟨[[.int .i64 wi, .str ik, .str ix, .sl (T.rows iks)]], 4, true, true, true, .cell⟩, ⟨[[.int .i64 zi, .str zk, .str zx, .sl (T.rows zks)]], 4, true, true, true, .cell⟩] := by
          intro fr es' g1 g2 g3 hD' hh
          obtain ⟨fr, rfl⟩ := hh.split
          refine hC _ _ ?_
          clear hC hh
          rcases g1 with _ | ⟨_, _⟩ <;> rcases g2 with _ | ⟨_, _⟩ <;> rcases g3 with _ | ⟨_, _⟩
          all_goals
            conv => whnf
            refine ⟨n - 1, by omega, some [0, 1, 2, 3], ?_⟩
            conv => whnf
            exact ⟨k + 1, es', _, _, _, _, _, _, by omega, q1, q2, q3, hD', ⟨rfl, rfl, rfl, rfl, hwk, trivial⟩, rfl⟩
        clear hC hD
        rcases h1 with _ | ⟨a1, a2⟩ <;> rcases h2 with _ | ⟨a3, a4⟩ <;> rcases h3 with _ | ⟨a5, a6⟩
        all_goals
          conv => whnf
          refine ⟨by omega, T.rows iks, _, 4, rfl, hg, rfl, rfl, ?_⟩
          conv => whnf
          refine ⟨[0, 1], true, ?_⟩
          conv => whnf
          refine hrec.mono ?_
          rintro o st' ⟨rfl, es', g1, g2, g3, hD', rfl⟩
          have hz := fun fr => hJ fr es' g1 g2 g3 hD'
          rcases g1 with _ | ⟨_, _⟩ <;> rcases g2 with _ | ⟨_, _⟩ <;> rcases g3 with _ | ⟨_, _⟩
          all_goals
            conv => whnf
            exact hz _ ⟨rfl, rfl, rfl, rfl, rfl, trivial⟩
      · rw [if_neg hm] at hpk hsk
        rw [List.append_nil] at hpk
        have hlb : pp.length ≤ 1000000 := by
          rw [hsk] at hsf
          rw [hpp]
          simp only [List.length_append] at hsf bp ⊢
          omega
        rw [decide_eq_false hm] at hha
        have q3 : pp ++ [⟨1, wi, k, t, []⟩] = p ++ sputL (.mk wi wk wx wks) wi cm 0 (iks.take (k + 1)) := by rw [hsk, hpp, List.append_assoc]
        rw [← hpk] at hcc hss
        clear hpk hsk hpp f1 f2 hsf hrec hfi hfd
        obtain ⟨ti, tk, tx, tks⟩ := t
        refine ⟨by omega, T.rows iks, _, 4, rfl, hg, rfl, rfl, ?_⟩
        conv => whnf
        refine .inl (hha.mono ?_)
        rintro r rfl
        conv => whnf
        refine draw_with hX [(0, .ptr 0 0 0), (4, .ptr 2 0 0), (5, .ptr 3 0 0), (6, .sl (irows cm)), (8, .int .i64 k)] ⟨rfl, rfl, rfl, rfl, rfl, trivial⟩ fun C hC fr => ?_
        have hJ : ∀ fr es' b c0 tmp, D3 es' h1 h2 (some (b, c0)) cc ss (pp ++ [⟨1, wi, k, .mk ti tk tx tks, []⟩]) → Holds fr [(0, .ptr 0 0 0), (4, .ptr 2 0 0), (5, .ptr 3 0 0), (6, .sl (irows cm)), (8, .int .i64 k)] →
            C fr [dbox (hdV h1 cc.length) (hdV h2 ss.length) (.dref b (pp.length + 1) c0), poolO es', ⟨[[.int .i64 wi, .str wk, .str wx, .sl (T.rows wks)]], 4, true, true, true, .cell⟩, ⟨[[.int .i64 wi, .str ik, .str ix, .sl (T.rows iks)]], 4, true, true, true, .cell⟩, ⟨tmp, 8, true, true, false, .cell⟩] := by
          intro fr es' b c0 tmp hD' hh
          obtain ⟨fr, rfl⟩ := hh.split
          refine hC _ _ ?_
          clear hC hh
          conv => whnf
          refine ⟨n - 1, by omega, some [0, 1, 2, 3], ?_⟩
          conv => whnf
          refine ⟨k + 1, es', h1, h2, some (b, c0), cc, ss, pp ++ [⟨1, wi, k, .mk ti tk tx tks, []⟩], by omega, hcc, hss, q3, hD', ⟨rfl, rfl, rfl, rfl, hwk, trivial⟩, ?_⟩
          rw [List.length_append]
          rcases h1 with _ | ⟨_, _⟩ <;> rcases h2 with _ | ⟨_, _⟩ <;> rfl
        clear hC
        rcases h3 with _ | ⟨b0, cc0⟩
        all_goals
          conv => whnf
          repeat' (first
            | (refine ⟨by omega, T.rows iks, _, 4, rfl, hg, rfl, rfl, ?_⟩
               conv => whnf)
            | (refine ⟨_, .inl hcp, ?_⟩
               conv => whnf)
            | (rintro r rfl
               conv => whnf)
            | (refine semStep3 (k := 1) (q := ⟨1, wi, k, .mk ti tk tx tks, []⟩) rfl rfl rfl rfl rfl rfl rfl rfl rfl hD (.inl rfl) hlb ?_
               intro es' b c0 hD'
               conv => whnf
               exact hJ _ es' b c0 _ hD' ⟨rfl, rfl, rfl, rfl, rfl, trivial⟩)
            | fail)
    · rw [ltB_f (by omega)]
      rw [List.take_of_length_le (by omega)] at hcc hss hpp
      have E1 : c ++ (((wks.filter fun k => !decide (k.id ∈ cm)).map fun k => cutStp k.id) ++ (pairsL (.mk wi wk wx wks) cm iks).flatMap fun p => cutsOf (locB p) p) = cc := by rw [← List.append_assoc, ← hc', ← hcc]
      have E2 : s ++ (((if wk ≠ ik then [(⟨4, wi, 0, TZ, ik⟩ : Stp)] else []) ++ (if wx ≠ ix then [(⟨3, wi, 0, TZ, ix⟩ : Stp)] else [])) ++ (pairsL (.mk wi wk wx wks) cm iks).flatMap wordsOf) = ss := by rw [← List.append_assoc, ← hSS, ← hss]
      rcases h1 with _ | ⟨a1, a2⟩ <;> rcases h2 with _ | ⟨a3, a4⟩ <;> rcases h3 with _ | ⟨a5, a6⟩
      all_goals
        conv => whnf
        refine ⟨[], true, ?_⟩
        conv => whnf
        rw [E1, E2, ← hpp]
        exact ⟨rfl, es, _, _, _, hD, rfl⟩
end Go.Cod

namespace Go.Cod
open Go Go.Proofs
set_option linter.all false
set_option maxRecDepth 10000

set_option maxHeartbeats 8000000 in
theorem node_ft (wi : Int) (wk wx : List UInt8) (wks : List T) (ik ix : List UInt8) (iks : List T) (lw : wks.length ≤ 1048576) (li : iks.length ≤ 1048576) (h4 : wk.length ≤ 1048576) (hws : (T.mk wi wk wx wks).Small) (his : ∀ t ∈ iks, t.Small) (hwn : (T.mk wi wk wx wks).ids.Nodup)
    (ih : ∀ k ∈ iks, k.id ∈ wks.map T.id → ∀ es h1 h2 h3 c s p, D3 es h1 h2 h3 c s p → c.length + (cutsL (kidIn wks k.id) k).length ≤ 1000000 → s.length + (setsL (kidIn wks k.id) k).length ≤ 1000000 → p.length + (sputT (kidIn wks k.id) k).length ≤ 1000000 →
      Full Try.prog noY 36 [.ptr 0 0 0, .agg (kidIn wks k.id).cells, .agg k.cells] [dbox (hdV h1 c.length) (hdV h2 s.length) (hdV h3 p.length), poolO es] (NodeR (kidIn wks k.id) k c s p))
    (e1 : wk ≠ ik) (e2 : wx = ix) (es : List (List V)) (h1 h2 h3 : Option (Nat × Nat)) (c s p : List Stp) (hD : D3 es h1 h2 h3 c s p) (bc : c.length + (cutsL (.mk wi wk wx wks) (.mk wi ik ix iks)).length ≤ 1000000) (bs : s.length + (setsL (.mk wi wk wx wks) (.mk wi ik ix iks)).length ≤ 1000000) (bp : p.length + (sputT (.mk wi wk wx wks) (.mk wi ik ix iks)).length ≤ 1000000) :
    Full Try.prog noY 36 [.ptr 0 0 0, .agg (T.mk wi wk wx wks).cells, .agg (T.mk wi ik ix iks).cells] [dbox (hdV h1 c.length) (hdV h2 s.length) (hdV h3 p.length), poolO es] (NodeR (.mk wi wk wx wks) (.mk wi ik ix iks) c s p) := by
  have n1 := l5Numbers_pure (.mk wi wk wx wks) lw
  have n2 := l5Numbers_pure (.mk wi ik ix iks) li
  rw [show (T.mk wi wk wx wks).kidIds = wks.map T.id from rfl] at n1
  rw [show (T.mk wi ik ix iks).kidIds = iks.map T.id from rfl] at n2
  have n3 := l5Both_pure (wks.map T.id) (iks.map T.id) (by rw [List.length_map]; omega) (by rw [List.length_map]; omega)
  have hsub := lcs_sub _ (wks.map T.id) (iks.map T.id) (Nat.le_refl _)
  have hcut : cutsL (.mk wi wk wx wks) (.mk wi ik ix iks) = ((wks.filter fun k => !decide (k.id ∈ lcs (wks.map T.id) (iks.map T.id))).map fun k => cutStp k.id) ++ (pairsL (.mk wi wk wx wks) (lcs (wks.map T.id) (iks.map T.id)) iks).flatMap fun p => cutsOf (locB p) p := by
    unfold cutsL; rw [pairsT, List.flatMap_cons]; rfl
  have hset : setsL (.mk wi wk wx wks) (.mk wi ik ix iks) = ((if wk ≠ ik then [⟨4, wi, 0, TZ, ik⟩] else []) ++ (if wx ≠ ix then [⟨3, wi, 0, TZ, ix⟩] else [])) ++ (pairsL (.mk wi wk wx wks) (lcs (wks.map T.id) (iks.map T.id)) iks).flatMap wordsOf := by
    unfold setsL; rw [pairsT, List.flatMap_cons]; rfl
  have hput : sputT (.mk wi wk wx wks) (.mk wi ik ix iks) = sputL (.mk wi wk wx wks) wi (lcs (wks.map T.id) (iks.map T.id)) 0 iks := by rw [sputT]; rfl
  have hfind : ∀ x, x ∈ wks.map T.id → fT (.mk wi wk wx wks) x = some (kidIn wks x) := fun x hx => by
    obtain ⟨k1, k2⟩ := kidIn_mem hx
    have := fT_kid2 hwn (k := kidIn wks x) k1
    rwa [k2] at this
  unfold NodeR
  rw [hcut] at bc ⊢
  rw [hset] at bs ⊢
  rw [hput] at bp ⊢
  clear hcut hset hput
  have hcl : (lcs (wks.map T.id) (iks.map T.id)).length ≤ 1048576 := by have := hsub.1.length_le; rw [List.length_map] at this; omega
  have hhas := fun x => l2Has_pure (lcs (wks.map T.id) (iks.map T.id)) x (by omega)
  generalize lcs (wks.map T.id) (iks.map T.id) = cm at *
  have hlr := Go.Cod.rows_len wks
  have hlr2 := Go.Cod.rows_len iks
  refine full_of_draw good Try.func36 rfl (by kernel_rfl) (by decide) fun X hX => ?_
  conv => whnf
  refine draw_go hX ?_
  conv => whnf
  repeat' (first
    | (refine ⟨_, .inl n1, ?_⟩
       conv => whnf)
    | (refine ⟨_, .inl n2, ?_⟩
       conv => whnf)
    | (refine ⟨_, .inl n3, ?_⟩
       conv => whnf)
    | (rintro r rfl
       conv => whnf)
    | (refine And.intro ?_ ?_))
  clear n1 n2 n3
  -- what is cut
  refine loop_drop (fun n fr st => ∃ (k : Nat) (es : List (List V)) (h1 : Option (Nat × Nat)) (c' : List Stp), n + k = wks.length ∧ c' = c ++ (((wks.take k).filter fun k => !decide (k.id ∈ cm)).map fun k => cutStp k.id) ∧ D3 es h1 h2 h3 c' s p ∧
      Holds fr [(0, .ptr 0 0 0), (4, .ptr 2 0 0), (5, .ptr 3 0 0), (6, .sl (irows cm)), (7, .int .i64 k)] ∧
      st = [dbox (hdV h1 c'.length) (hdV h2 s.length) (hdV h3 p.length), poolO es, ⟨[[.int .i64 wi, .str wk, .str wx, .sl (T.rows wks)]], 4, true, true, true, .cell⟩, ⟨[[.int .i64 wi, .str ik, .str ix, .sl (T.rows iks)]], 4, true, true, true, .cell⟩]) wks.length none ?_ ?_
  · exact ⟨0, es, h1, c, rfl, by simp, hD, ⟨rfl, rfl, rfl, rfl, rfl, trivial⟩, rfl⟩
  clear hD
  rintro n fr st ⟨k, es, h1, c', hk, hc', hD, hh, rfl⟩
  obtain ⟨fr, rfl⟩ := hh.split
  clear hh
  conv => whnf
  rw [hlr]
  by_cases hlt : k < wks.length
  · rw [ltB_t (by omega)]
    conv => whnf
    have hg := Go.Cod.rows_get wks k hlt
    have htk : ((wks.take (k + 1)).filter fun k => !decide (k.id ∈ cm)) = ((wks.take k).filter fun k => !decide (k.id ∈ cm)) ++ if wks[k].id ∈ cm then [] else [wks[k]] := by
      rw [List.take_succ_eq_append_getElem hlt, List.filter_append]
      congr 1
      by_cases h : wks[k].id ∈ cm <;> simp [h]
    have hwk : V.int .i64 (IntKind.i64.wrap ((k : Int) + 1)) = .int .i64 ((k + 1 : Nat) : Int) := by rw [wrapJ1 k (by omega)]
    have hlb : c'.length ≤ 1000000 := by
      have h1 : ((wks.take k).filter fun k => !decide (k.id ∈ cm)).length ≤ (wks.filter fun k => !decide (k.id ∈ cm)).length := by
        conv => rhs; rw [← List.take_append_drop k wks, List.filter_append, List.length_append]
        omega
      rw [hc']
      simp only [List.length_append, List.length_map] at bc ⊢
      omega
    generalize wks[k] = t at *
    obtain ⟨ti, tk, tx, tks⟩ := t
    have hti : (T.mk ti tk tx tks).id = ti := rfl
    rw [hti] at htk
    have hha := hhas ti
    refine ⟨by omega, T.rows wks, _, 4, rfl, hg, rfl, rfl, ?_⟩
    conv => whnf
    refine .inl (hha.mono ?_)
    rintro r rfl
    by_cases hm : ti ∈ cm
    · rw [if_pos hm, List.append_nil] at htk
      rw [decide_eq_true hm]
      conv => whnf
      refine ⟨n - 1, by omega, none, k + 1, es, h1, c', by omega, by rw [htk]; exact hc', hD, ⟨rfl, rfl, rfl, rfl, hwk, trivial⟩, rfl⟩
    · rw [if_neg hm] at htk
      rw [decide_eq_false hm]
      conv => whnf
      refine draw_with hX [(0, .ptr 0 0 0), (4, .ptr 2 0 0), (5, .ptr 3 0 0), (6, .sl (irows cm)), (7, .int .i64 k)] ⟨rfl, rfl, rfl, rfl, rfl, trivial⟩ fun C hC fr => ?_
      have hJ : ∀ fr es' b cc tmp, D3 es' (some (b, cc)) h2 h3 (c' ++ [cutStp ti]) s p → Holds fr [(0, .ptr 0 0 0), (4, .ptr 2 0 0), (5, .ptr 3 0 0), (6, .sl (irows cm)), (7, .int .i64 k)] →
          C fr [dbox (.dref b (c'.length + 1) cc) (hdV h2 s.length) (hdV h3 p.length), poolO es', ⟨[[.int .i64 wi, .str wk, .str wx, .sl (T.rows wks)]], 4, true, true, true, .cell⟩, ⟨[[.int .i64 wi, .str ik, .str ix, .sl (T.rows iks)]], 4, true, true, true, .cell⟩, ⟨tmp, 8, true, true, false, .cell⟩] := by
        intro fr es' b cc tmp hD' hh
        obtain ⟨fr, rfl⟩ := hh.split
        refine hC _ _ ?_
        clear hC hh
        conv => whnf
        refine ⟨n - 1, by omega, some [0, 1, 2, 3], ?_⟩
        conv => whnf
        refine ⟨k + 1, es', some (b, cc), c' ++ [cutStp ti], by omega, by rw [htk, hc', List.map_append, ← List.append_assoc]; rfl, hD', ⟨rfl, rfl, rfl, rfl, hwk, trivial⟩, ?_⟩
        rw [List.length_append]
        rcases h2 with _ | ⟨_, _⟩ <;> rcases h3 with _ | ⟨_, _⟩ <;> rfl
      clear hC
      rcases h1 with _ | ⟨b0, cc0⟩
      all_goals
        conv => whnf
        refine ⟨by omega, T.rows wks, _, 4, rfl, hg, rfl, rfl, ?_⟩
        conv => whnf
        refine semStep1 (k := 1) (q := cutStp ti) rfl rfl rfl rfl rfl rfl rfl rfl rfl hD (.inl rfl) hlb fun es' b cc hD' => ?_
        conv => whnf
        exact hJ _ es' b cc _ hD' ⟨rfl, rfl, rfl, rfl, rfl, trivial⟩
  · rw [ltB_f (by omega)]
    rw [List.take_of_length_le (by omega)] at hc'
    conv => whnf
    have hsb : s.length + (1) ≤ 1000000 := by
      have hz := bs
      rw [if_pos e1, if_neg (by simp [e2])] at hz
      simp only [List.length_append, List.length_singleton, List.length_nil] at hz
      omega
    have hcl' : c'.length = c.length + (wks.filter fun k => !decide (k.id ∈ cm)).length := by rw [hc', List.length_append, List.length_map]
    rw [eqS_f e1]
    conv => whnf
    refine draw_with hX [(0, .ptr 0 0 0), (4, .ptr 2 0 0), (5, .ptr 3 0 0), (6, .sl (irows cm))] ⟨rfl, rfl, rfl, rfl, trivial⟩ fun C1 hC1 fr => ?_
    have hJ1 : ∀ fr es1 b1 c1 t1, D3 es1 h1 (some (b1, c1)) h3 c' (s ++ [⟨4, wi, 0, TZ, ik⟩]) p → Holds fr [(0, .ptr 0 0 0), (4, .ptr 2 0 0), (5, .ptr 3 0 0), (6, .sl (irows cm))] →
        C1 fr [dbox (hdV h1 c'.length) (.dref b1 (s.length + 1) c1) (hdV h3 p.length), poolO es1, ⟨[[.int .i64 wi, .str wk, .str wx, .sl (T.rows wks)]], 4, true, true, true, .cell⟩, ⟨[[.int .i64 wi, .str ik, .str ix, .sl (T.rows iks)]], 4, true, true, true, .cell⟩, ⟨t1, 8, true, true, false, .cell⟩] := by
      intro fr es1 b1 c1 t1 hD1 hh
      obtain ⟨fr, rfl⟩ := hh.split
      refine hC1 _ _ ?_
      clear hC1 hh
      conv => whnf
      rw [eqS_t e2]
      conv => whnf
      obtain ⟨S, hSS⟩ : ∃ S, S = s ++ ((if wk ≠ ik then [(⟨4, wi, 0, TZ, ik⟩ : Stp)] else []) ++ (if wx ≠ ix then [(⟨3, wi, 0, TZ, ix⟩ : Stp)] else [])) := ⟨_, rfl⟩
      have hSs : S = (s ++ [⟨4, wi, 0, TZ, ik⟩]) := by rw [hSS, if_pos e1, if_neg (by simp [e2])]; simp
      have hsl' : S.length = s.length + ((if wk ≠ ik then [(⟨4, wi, 0, TZ, ik⟩ : Stp)] else []).length + (if wx ≠ ix then [(⟨3, wi, 0, TZ, ix⟩ : Stp)] else []).length) := by rw [hSS]; simp only [List.length_append]
      refine loop_drop (fun n fr st => ∃ (k : Nat) (es : List (List V)) (h1 h2 h3 : Option (Nat × Nat)) (cc ss pp : List Stp), n + k = iks.length ∧ cc = c' ++ (pairsL (.mk wi wk wx wks) cm (iks.take k)).flatMap (fun p => cutsOf (locB p) p) ∧ ss = S ++ (pairsL (.mk wi wk wx wks) cm (iks.take k)).flatMap wordsOf ∧ pp = p ++ sputL (.mk wi wk wx wks) wi cm 0 (iks.take k) ∧ D3 es h1 h2 h3 cc ss pp ∧
          Holds fr [(0, .ptr 0 0 0), (4, .ptr 2 0 0), (5, .ptr 3 0 0), (6, .sl (irows cm)), (8, .int .i64 k)] ∧ st = [dbox (hdV h1 cc.length) (hdV h2 ss.length) (hdV h3 pp.length), poolO es, ⟨[[.int .i64 wi, .str wk, .str wx, .sl (T.rows wks)]], 4, true, true, true, .cell⟩, ⟨[[.int .i64 wi, .str ik, .str ix, .sl (T.rows iks)]], 4, true, true, true, .cell⟩]) iks.length (some [0, 1, 2, 3]) ?_ ?_
      · conv => whnf
        exact ⟨0, es1, h1, (some (b1, c1)), h3, c', S, p, rfl, by simp [pairsL], by simp [pairsL], by simp [sputL], by rw [hSs]; exact hD1, ⟨rfl, rfl, rfl, rfl, rfl, trivial⟩, by rw [hSs]; rw [List.length_append]; rcases h1 with _ | ⟨_, _⟩ <;> rcases h3 with _ | ⟨_, _⟩ <;> rfl⟩
      clear hD1
      rintro n fr st ⟨k, es, h1, h2, h3, cc, ss, pp, hk, hcc, hss, hpp, hD, hh, rfl⟩
      obtain ⟨fr, rfl⟩ := hh.split
      clear hh
      conv => whnf
      rw [hlr2]
      by_cases hlt : k < iks.length
      · rw [ltB_t (by omega)]
        conv => whnf
        have hg := Go.Cod.rows_get iks k hlt
        have hmem := List.getElem_mem hlt
        have htk : iks.take (k + 1) = iks.take k ++ [iks[k]] := by rw [List.take_succ_eq_append_getElem hlt]
        have hpk : pairsL (.mk wi wk wx wks) cm (iks.take (k + 1)) = pairsL (.mk wi wk wx wks) cm (iks.take k) ++ (if iks[k].id ∈ cm then pairsT (kidOf (.mk wi wk wx wks) iks[k].id) iks[k] else []) := by
          rw [htk, pairsL_append]; simp only [pairsL, List.append_nil]
        have hsk : sputL (.mk wi wk wx wks) wi cm 0 (iks.take (k + 1)) = sputL (.mk wi wk wx wks) wi cm 0 (iks.take k) ++ (if iks[k].id ∈ cm then sputT (kidOf (.mk wi wk wx wks) iks[k].id) iks[k] else [⟨1, wi, k, iks[k], []⟩]) := by
          rw [htk, sputL_append, List.length_take, Nat.min_eq_left (by omega), Nat.zero_add]; simp only [sputL, List.append_nil]
        have hpf : ∀ F : T × T → List Stp, ((pairsL (.mk wi wk wx wks) cm (iks.take (k + 1))).flatMap F).length ≤ ((pairsL (.mk wi wk wx wks) cm iks).flatMap F).length := fun F => by
          conv => rhs; rw [← List.take_append_drop (k + 1) iks, pairsL_append, List.flatMap_append, List.length_append]
          omega
        have hsf : (sputL (.mk wi wk wx wks) wi cm 0 (iks.take (k + 1))).length ≤ (sputL (.mk wi wk wx wks) wi cm 0 iks).length := by
          conv => rhs; rw [← List.take_append_drop (k + 1) iks, sputL_append, List.length_append]
          omega
        have hwk : V.int .i64 (IntKind.i64.wrap ((k : Int) + 1)) = .int .i64 ((k + 1 : Nat) : Int) := by rw [wrapJ1 k (by omega)]
        have f1 := hpf fun p => cutsOf (locB p) p
        have f2 := hpf wordsOf
        clear hpf htk
        have hcp := l2Copy_pure iks[k] (his _ hmem)
        have hfd := l2Find_pure (.mk wi wk wx wks) hws iks[k].id
        have hfi : iks[k].id ∈ cm → fT (.mk wi wk wx wks) iks[k].id = some (kidIn wks iks[k].id) := fun h => hfind _ (hsub.1.subset h)
        have hrec := fun h : iks[k].id ∈ cm => ih iks[k] hmem (hsub.1.subset h) es h1 h2 h3 cc ss pp hD
        rw [show kidOf (.mk wi wk wx wks) iks[k].id = kidIn wks iks[k].id from rfl] at hpk hsk
        have hha := hhas iks[k].id
        generalize iks[k] = t at *
        clear hmem
        by_cases hm : t.id ∈ cm
        · replace hfi := hfi hm
          replace hrec := hrec hm
          rw [if_pos hm] at hpk hsk
          rw [hfi] at hfd
          rw [hpk, List.flatMap_append] at f1 f2
          rw [hsk] at hsf
          simp only [List.length_append, List.length_map] at f1 f2 hsf bc bs bp
          have hrec := hrec (by rw [hcc]; simp only [List.length_append, hcl'] ; unfold cutsL; omega) (by rw [hss]; simp only [List.length_append, hsl']; unfold setsL; omega) (by rw [hpp]; simp only [List.length_append]; omega)
          rw [decide_eq_true hm] at hha
          unfold NodeR at hrec
          have q1 : cc ++ cutsL (kidIn wks t.id) t = c' ++ (pairsL (.mk wi wk wx wks) cm (iks.take (k + 1))).flatMap (fun p => cutsOf (locB p) p) := by rw [hpk, List.flatMap_append, hcc, List.append_assoc]; rfl
          have q2 : ss ++ setsL (kidIn wks t.id) t = S ++ (pairsL (.mk wi wk wx wks) cm (iks.take (k + 1))).flatMap wordsOf := by rw [hpk, List.flatMap_append, hss, List.append_assoc]; rfl
          have q3 : pp ++ sputT (kidIn wks t.id) t = p ++ sputL (.mk wi wk wx wks) wi cm 0 (iks.take (k + 1)) := by rw [hsk, hpp, List.append_assoc]
          clear hpk hsk f1 f2 hsf hcc hss hpp hfi
          generalize kidIn wks t.id = z at *
          obtain ⟨ti, tk, tx, tks⟩ := t
          obtain ⟨zi, zk, zx, zks⟩ := z
          refine ⟨by omega, T.rows iks, _, 4, rfl, hg, rfl, rfl, ?_⟩
          conv => whnf
          refine .inl (hha.mono ?_)
          rintro r rfl
          conv => whnf
          refine draw_go hX ?_
          conv => whnf
          repeat' (first
            | (refine ⟨by omega, T.rows iks, _, 4, rfl, hg, rfl, rfl, ?_⟩
               conv => whnf)
            | (refine ⟨_, .inl hfd, ?_⟩
               conv => whnf)
            | (rintro r rfl
               conv => whnf)
            | (refine And.intro ?_ ?_
               all_goals (conv => whnf))
            | fail)
          all_goals (try rfl)
          refine draw_with hX [(0, .ptr 0 0 0), (4, .ptr 2 0 0), (5, .ptr 3 0 0), (6, .sl (irows cm)), (8, .int .i64 k), (9, .ptr 4 0 0)] ⟨rfl, rfl, rfl, rfl, rfl, rfl, trivial⟩ fun C hC fr => ?_
          have hJ : ∀ fr es' g1 g2 g3, D3 es' g1 g2 g3 (cc ++ cutsL (.mk zi zk zx zks) (.mk ti tk tx tks)) (ss ++ setsL (.mk zi zk zx zks) (.mk ti tk tx tks)) (pp ++ sputT (.mk zi zk zx zks) (.mk ti tk tx tks)) → Holds fr [(0, .ptr 0 0 0), (4, .ptr 2 0 0), (5, .ptr 3 0 0), (6, .sl (irows cm)), (8, .int .i64 k)] →
              C fr [dbox (hdV g1 (cc ++ cutsL (.mk zi zk zx zks) (.mk ti tk tx tks)).length) (hdV g2 (ss ++ setsL (.mk zi zk zx zks) (.mk ti tk tx tks)).length) (hdV g3 (pp ++ sputT (.mk zi zk zx zks) (.mk ti tk tx tks)).length), poolO es', ⟨[[.int .i64 wi, .str wk, .str wx, .sl (T.rows wks)]], 4, true, true, true, .cell⟩, ⟨[[.int .i64 wi, .str ik, .str ix, .sl (T.rows iks)]], 4, true, true, true, .cell⟩, ⟨[[.int .i64 zi, .str zk, .str zx, .sl (T.rows zks)]], 4, true, true, true, .cell⟩] := by
            intro fr es' g1 g2 g3 hD' hh
            obtain ⟨fr, rfl⟩ := hh.split
            refine hC _ _ ?_
            clear hC hh
            rcases g1 with _ | ⟨_, _⟩ <;> rcases g2 with _ | ⟨_, _⟩ <;> rcases g3 with _ | ⟨_, _⟩
            all_goals
              conv => whnf
              refine ⟨n - 1, by omega, some [0, 1, 2, 3], ?_⟩
              conv => whnf
              exact ⟨k + 1, es', _, _, _, _, _, _, by omega, q1, q2, q3, hD', ⟨rfl, rfl, rfl, rfl, hwk, trivial⟩, rfl⟩
          clear hC hD
          rcases h1 with _ | ⟨a1, a2⟩ <;> rcases h2 with _ | ⟨a3, a4⟩ <;> rcases h3 with _ | ⟨a5, a6⟩
          all_goals
            conv => whnf
            refine ⟨by omega, T.rows iks, _, 4, rfl, hg, rfl, rfl, ?_⟩
            conv => whnf
            refine ⟨[0, 1], true, ?_⟩
            conv => whnf
            refine hrec.mono ?_
            rintro o st' ⟨rfl, es', g1, g2, g3, hD', rfl⟩
            have hz := fun fr => hJ fr es' g1 g2 g3 hD'
            rcases g1 with _ | ⟨_, _⟩ <;> rcases g2 with _ | ⟨_, _⟩ <;> rcases g3 with _ | ⟨_, _⟩
            all_goals
              conv => whnf
              exact hz _ ⟨rfl, rfl, rfl, rfl, rfl, trivial⟩
        · rw [if_neg hm] at hpk hsk
          rw [List.append_nil] at hpk
          have hlb : pp.length ≤ 1000000 := by
            rw [hsk] at hsf
            rw [hpp]
            simp only [List.length_append] at hsf bp ⊢
            omega
          rw [decide_eq_false hm] at hha
          have q3 : pp ++ [⟨1, wi, k, t, []⟩] = p ++ sputL (.mk wi wk wx wks) wi cm 0 (iks.take (k + 1)) := by rw [hsk, hpp, List.append_assoc]
          rw [← hpk] at hcc hss
          clear hpk hsk hpp f1 f2 hsf hrec hfi hfd
          obtain ⟨ti, tk, tx, tks⟩ := t
          refine ⟨by omega, T.rows iks, _, 4, rfl, hg, rfl, rfl, ?_⟩
          conv => whnf
          refine .inl (hha.mono ?_)
          rintro r rfl
          conv => whnf
          refine draw_with hX [(0, .ptr 0 0 0), (4, .ptr 2 0 0), (5, .ptr 3 0 0), (6, .sl (irows cm)), (8, .int .i64 k)] ⟨rfl, rfl, rfl, rfl, rfl, trivial⟩ fun C hC fr => ?_
          have hJ : ∀ fr es' b c0 tmp, D3 es' h1 h2 (some (b, c0)) cc ss (pp ++ [⟨1, wi, k, .mk ti tk tx tks, []⟩]) → Holds fr [(0, .ptr 0 0 0), (4, .ptr 2 0 0), (5, .ptr 3 0 0), (6, .sl (irows cm)), (8, .int .i64 k)] →
              C fr [dbox (hdV h1 cc.length) (hdV h2 ss.length) (.dref b (pp.length + 1) c0), poolO es', ⟨[[.int .i64 wi, .str wk, .str wx, .sl (T.rows wks)]], 4, true, true, true, .cell⟩, ⟨[[.int .i64 wi, .str ik, .str ix, .sl (T.rows iks)]], 4, true, true, true, .cell⟩, ⟨tmp, 8, true, true, false, .cell⟩] := by
            intro fr es' b c0 tmp hD' hh
            obtain ⟨fr, rfl⟩ := hh.split
            refine hC _ _ ?_
            clear hC hh
            conv => whnf
            refine ⟨n - 1, by omega, some [0, 1, 2, 3], ?_⟩
            conv => whnf
            refine ⟨k + 1, es', h1, h2, some (b, c0), cc, ss, pp ++ [⟨1, wi, k, .mk ti tk tx tks, []⟩], by omega, hcc, hss, q3, hD', ⟨rfl, rfl, rfl, rfl, hwk, trivial⟩, ?_⟩
            rw [List.length_append]
            rcases h1 with _ | ⟨_, _⟩ <;> rcases h2 with _ | ⟨_, _⟩ <;> rfl
          clear hC
          rcases h3 with _ | ⟨b0, cc0⟩
          all_goals
            conv => whnf
            repeat' (first
              | (refine ⟨by omega, T.rows iks, _, 4, rfl, hg, rfl, rfl, ?_⟩
                 conv => whnf)
              | (refine ⟨_, .inl hcp, ?_⟩
                 conv => whnf)
              | (rintro r rfl
                 conv => whnf)
              | (refine semStep3 (k := 1) (q := ⟨1, wi, k, .mk ti tk tx tks, []⟩) rfl rfl rfl rfl rfl rfl rfl rfl rfl hD (.inl rfl) hlb ?_
                 intro es' b c0 hD'
                 conv => whnf
                 exact hJ _ es' b c0 _ hD' ⟨rfl, rfl, rfl, rfl, rfl, trivial⟩)
              | fail)
      · rw [ltB_f (by omega)]
        rw [List.take_of_length_le (by omega)] at hcc hss hpp
        have E1 : c ++ (((wks.filter fun k => !decide (k.id ∈ cm)).map fun k => cutStp k.id) ++ (pairsL (.mk wi wk wx wks) cm iks).flatMap fun p => cutsOf (locB p) p) = cc := by rw [← List.append_assoc, ← hc', ← hcc]
        have E2 : s ++ (((if wk ≠ ik then [(⟨4, wi, 0, TZ, ik⟩ : Stp)] else []) ++ (if wx ≠ ix then [(⟨3, wi, 0, TZ, ix⟩ : Stp)] else [])) ++ (pairsL (.mk wi wk wx wks) cm iks).flatMap wordsOf) = ss := by rw [← List.append_assoc, ← hSS, ← hss]
        rcases h1 with _ | ⟨a1, a2⟩ <;> rcases h2 with _ | ⟨a3, a4⟩ <;> rcases h3 with _ | ⟨a5, a6⟩
        all_goals
          conv => whnf
          refine ⟨[], true, ?_⟩
          conv => whnf
          rw [E1, E2, ← hpp]
          exact ⟨rfl, es, _, _, _, hD, rfl⟩
    clear hC1
    rcases h2 with _ | ⟨b0, c0⟩
    all_goals
      conv => whnf
      refine semStep2 (k := 1) (s := s) (q := ⟨4, wi, 0, TZ, ik⟩) rfl rfl rfl rfl rfl rfl rfl rfl rfl hD (.inl rfl) (by omega) fun es1 b1 c1 hD1 => ?_
      conv => whnf
      exact hJ1 _ es1 b1 c1 _ hD1 ⟨rfl, rfl, rfl, rfl, trivial⟩
end Go.Cod

