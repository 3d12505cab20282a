/- Own texts. -/
import Derived.WalkKit
import Derived.ProofKit
import Derived.Test.YtijfonhgojfmkaaCodE
namespace Go.Cod
open Go Go.Proofs
set_option linter.all false
set_option maxRecDepth 10000

/-- What a table has been filled in with. -/
structure Filled (g0 g : Nat → Nat → Int) (D E : List Th) (d : Nat → Nat → Nat) (left top c x y : Nat) : Prop where
  old : ∀ a b, (∀ s t, D[a]? = some s → E[b]? = some t → left ≤ a → top ≤ b → s.f = left → t.f = top → False) → g a b = g0 a b
  new : ∀ k l s t, D[left + k]? = some s → E[top + l]? = some t → s.f = left → t.f = top → l < c → (k < x ∨ (k = x ∧ l < y)) → g (left + k) (top + l) = d (k + 1) (l + 1)
def fillS (D E : List Th) (es : List (List V)) : St := [pboxO (.own 1) (.own 2), ⟨labR D, 1, true, true, false, .cell⟩, ⟨firR D, 1, true, true, false, .cell⟩, pboxO (.own 4) (.own 5), ⟨labR E, 1, true, true, false, .cell⟩, ⟨firR E, 1, true, true, false, .cell⟩, poolO es]
theorem wrapA2 (n : Nat) (h : n + 2 ≤ 1000000) : IntKind.i64.wrap ((n : Int) + 2) = ((n + 2 : Nat) : Int) := by rw [← wrapN (n + 2) h]; simp
theorem wrapS1 (n : Nat) (h : n ≤ 1000000) (h1 : 1 ≤ n) : IntKind.i64.wrap ((n : Int) - 1) = ((n - 1 : Nat) : Int) := by rw [← wrapN (n - 1) (by omega)]; congr 1; omega
def fA (k : Nat) : Nat → Nat → Int := fun x y => if y = 0 ∧ x < k then x else 0
theorem fA_zero (k j : Nat) : fA k k j = 0 := by unfold fA; rw [if_neg (by omega)]
theorem fA_succ (k : Nat) : upd2 (fA k) k 0 k = fA (k + 1) := by
  funext x y
  unfold upd2 fA
  by_cases h : x = k ∧ y = 0
  · rw [if_pos h, if_pos (by omega), h.1]
  · rw [if_neg h]
    by_cases h2 : y = 0 ∧ x < k
    · rw [if_pos h2, if_pos (by omega)]
    · rw [if_neg h2, if_neg (by omega)]
def Apart (a : List Nat) (b : List Nat) : Prop := ∀ y ∈ a, y ∉ b
theorem Apart.grow {a b : List Nat} {c x : Nat} {bs : List Nat} (h : Apart a (c :: bs)) (hx : x ∉ a) (hb : b = c :: (bs ++ [x])) : Apart a b := by
  subst hb
  intro y hy hm
  rcases List.mem_cons.1 hm with rfl | hm
  · exact h y hy (by simp)
  · rcases List.mem_append.1 hm with hm | hm
    · exact h y hy (List.mem_cons_of_mem _ hm)
    · simp at hm; subst hm; exact hx hy
theorem Filled.step {g0 g : Nat → Nat → Int} {D E : List Th} {d : Nat → Nat → Nat} {left top c k l : Nat} {s t : Th} {v : Int} (h : Filled g0 g D E d left top c k l) (hs : D[left + k]? = some s) (ht : E[top + l]? = some t) (h1 : s.f = left) (h2 : t.f = top) (hv : v = d (k + 1) (l + 1)) : Filled g0 (upd2 g (left + k) (top + l) v) D E d left top c k (l + 1) := by
  refine ⟨fun a b hab => ?_, fun k' l' s' t' a1 a2 a3 a4 a5 a6 => ?_⟩
  · unfold upd2
    rw [if_neg (fun e => hab s t (by rw [e.1]; exact hs) (by rw [e.2]; exact ht) (by omega) (by omega) h1 h2)]
    exact h.old a b hab
  · unfold upd2
    by_cases e : left + k' = left + k ∧ top + l' = top + l
    · rw [if_pos e, hv, show k' = k by omega, show l' = l by omega]
    · rw [if_neg e]
      exact h.new k' l' s' t' a1 a2 a3 a4 a5 (by omega)
theorem Filled.skip {g0 g : Nat → Nat → Int} {D E : List Th} {d : Nat → Nat → Nat} {left top c k l : Nat} {s t : Th} (h : Filled g0 g D E d left top c k l) (hs : D[left + k]? = some s) (ht : E[top + l]? = some t) (h1 : ¬ (s.f = left ∧ t.f = top)) : Filled g0 g D E d left top c k (l + 1) := by
  refine ⟨h.old, fun k' l' s' t' a1 a2 a3 a4 a5 a6 => ?_⟩
  by_cases e : k' = k ∧ l' = l
  · obtain ⟨rfl, rfl⟩ := e
    rw [hs] at a1; rw [ht] at a2
    cases a1; cases a2
    exact absurd ⟨a3, a4⟩ h1
  · exact h.new k' l' s' t' a1 a2 a3 a4 a5 (by omega)
set_option maxHeartbeats 8000000 in
theorem l5Fill_run (D E : List Th) (i j left top r c nC : Nat) (di dj : Th) (g0 : Nat → Nat → Int) (d : Nat → Nat → Nat) (bC : Nat) (bsC : List Nat) (es0 : List (List V)) (hC0 : Tab es0 bC nC bsC E.length g0) (hnC : bsC.length = nC) (hnD : nC = D.length)
    (lD : D.length ≤ 1000) (lE : E.length ≤ 1000) (hi : D[i]? = some di) (hj : E[j]? = some dj) (hl : di.f = left) (ht : dj.f = top)
    (hir : left + r = i + 1) (hjc : top + c = j + 1) (hr1 : 1 ≤ r) (hc1 : 1 ≤ c) (h0 : ∀ x, d x 0 = x) (h1 : ∀ y, d 0 y = y) (hb : ∀ x y, x ≤ r → y ≤ c → d x y ≤ 2000)
    (hf : ∀ x a, x < r → D[left + x]? = some a → left ≤ a.f ∧ a.f ≤ left + x) (hf' : ∀ y b, y < c → E[top + y]? = some b → top ≤ b.f ∧ b.f ≤ top + y)
    (hs1 : ∀ x y a b, x < r → y < c → D[left + x]? = some a → E[top + y]? = some b → (left < a.f ∨ top < b.f) → ∃ w : Nat, g0 (left + x) (top + y) = w ∧ w ≤ 2000 ∧ d (x + 1) (y + 1) = min (min (d x (y + 1) + 1) (d (x + 1) y + 1)) (d (a.f - left) (b.f - top) + w))
    (hs2 : ∀ x y a b, x < r → y < c → D[left + x]? = some a → E[top + y]? = some b → a.f = left → b.f = top → d (x + 1) (y + 1) = min (min (d x (y + 1) + 1) (d (x + 1) y + 1)) (d x y + unH a b))
    (hlab : ∀ a ∈ D, ∀ b ∈ E, a.k ++ 34 :: a.t = b.k ++ 34 :: b.t ↔ a.k = b.k ∧ a.t = b.t) :
    Full Try.prog noY 29 [.ptr 0 0 0, .ptr 3 0 0, .int .i64 i, .int .i64 j, .dref bC nC nC] (fillS D E es0)
      fun o st' => ∃ es g, o = .ret (.tup []) ∧ Tab es bC nC bsC E.length g ∧ Filled g0 g D E d left top c r 0 ∧ st' = fillS D E es := by
  have lhi : i < D.length := (List.getElem?_eq_some_iff.1 hi).1
  have lhj : j < E.length := (List.getElem?_eq_some_iff.1 hj).1
  have hti := firR_get hi
  have htj := firR_get hj
  obtain ⟨dik, dit, dif⟩ := di
  obtain ⟨djk, djt, djf⟩ := dj
  simp only at hl ht
  subst hl; subst ht
  have hw1 : IntKind.i64.wrap (IntKind.i64.wrap ((i : Int) - dif) + 2) = ((r + 1 : Nat) : Int) := by rw [wrapS i dif (by omega) (by omega), wrapA2 _ (by omega), show i - dif + 2 = r + 1 by omega]
  have hw2 : IntKind.i64.wrap (IntKind.i64.wrap ((j : Int) - djf) + 2) = ((c + 1 : Nat) : Int) := by rw [wrapS j djf (by omega) (by omega), wrapA2 _ (by omega), show j - djf + 2 = c + 1 by omega]
  refine full_of_draw good Try.func29 rfl (by kernel_rfl) (by decide) fun X hX => ?_
  conv => whnf
  refine ⟨by omega, firR D, _, 1, rfl, hti, rfl, rfl, ?_⟩
  conv => whnf
  refine AtRow_intro _ hti ?_
  conv => whnf
  refine ⟨by omega, firR E, _, 1, rfl, htj, rfl, rfl, ?_⟩
  conv => whnf
  refine AtRow_intro _ htj ?_
  conv => whnf
  rw [hw1]
  refine semMake (k := 6) (m := r + 1) good rfl rfl rfl rfl rfl rfl rfl rfl (by show (r + 1) * 24 ≤ _; omega) (by omega) fun b hbf => ?_
  have hT := Tab.begin es0 b (r + 1) (c + 1) (fA 0)
  have hC := hC0.more [ent b (r + 1) 1 (List.replicate (r + 1) [.nils])]
  have hA : Apart (bC :: bsC) [b] := fun y hy hm => by
    simp at hm; subst hm; exact hC0.fresh hbf hy
  conv => whnf
  -- the rows, and the first column
  refine loop_drop (fun n fr st => ∃ (bs : List Nat) (es : List (List V)), n + bs.length = r + 1 ∧ st = fillS D E es ∧ Tab es b (r + 1) bs (c + 1) (fA bs.length) ∧ Tab es bC nC bsC E.length g0 ∧ Apart (bC :: bsC) (b :: bs) ∧
      Holds fr [(0, .ptr 0 0 0), (1, .ptr 3 0 0), (3, .int .i64 j), (4, .dref bC nC nC), (10, .int .i64 dif), (11, .int .i64 djf), (12, .dref b (r + 1) (r + 1)), (40, .int .i64 (r + 1 : Nat)), (41, .int .i64 bs.length)]) (r + 1) none ?_ ?_
  · exact ⟨[], _, rfl, rfl, hT, hC, hA, rfl, rfl, rfl, rfl, rfl, rfl, rfl, rfl, rfl, trivial⟩
  clear hT hC hA hC0 hbf
  rintro n fr st ⟨bs, es, hk, rfl, hT, hC, hA, hh⟩
  obtain ⟨fr, rfl⟩ := hh.split
  clear hh
  conv => whnf
  by_cases hlt : bs.length < r + 1
  · rw [ltB_t (by omega)]
    conv => whnf
    rw [hw2]
    refine semMake (k := 6) (m := c + 1) good rfl rfl rfl rfl rfl rfl rfl rfl (by show (c + 1) * 8 ≤ _; omega) (by omega) fun x hx => ?_
    have hG := hT.grow hlt (fA_zero _) hx
    have hxC := hC.fresh hx
    have hbC : b ∉ bC :: bsC := fun h => hA b h (by simp)
    have hG2 := hG.put (i := bs.length) (x := x) (by simp) 0 bs.length
    rw [fA_succ] at hG2
    have hC2 := ((hC.more [ent x (c + 1) 1 (List.replicate (c + 1) [.int .i64 0])]).other hbC ((rootR (r + 1) bs (c + 1)).set bs.length [.dref x (c + 1) (c + 1)])).other hxC ((numR (c + 1) (fA bs.length bs.length)).set 0 [.int .i64 bs.length])
    have hA2 : Apart (bC :: bsC) (b :: (bs ++ [x])) := hA.grow hxC rfl
    obtain ⟨y, hy, hy1, hy2⟩ := hG.at (i := bs.length) (by simp)
    have hyx : y = x := by simp at hy; exact hy.symm
    subst hyx
    conv => whnf
    refine ⟨by omega, by omega, ?_⟩
    conv => whnf
    refine ⟨6, r + 1, rootR (r + 1) bs (c + 1), [.nils], _, List.mem_append_left _ hT.root, rootR_nil hlt, rfl, ?_⟩
    conv => whnf
    refine ⟨by omega, by omega, ?_⟩
    conv => whnf
    refine ⟨6, r + 1, _, _, hG.root, hy1, ?_⟩
    conv => whnf
    refine ⟨by omega, by omega, ?_⟩
    conv => whnf
    refine ⟨6, c + 1, _, _, _, hy2, numR_get _ (by omega), rfl, ?_⟩
    conv => whnf
    refine ⟨n - 1, by omega, none, bs ++ [y], _, by simp; omega, rfl, by rw [List.length_append]; exact hG2, hC2, hA2, rfl, rfl, rfl, rfl, rfl, rfl, rfl, rfl, ?_, trivial⟩
    show V.int .i64 (IntKind.i64.wrap (bs.length + 1)) = _
    rw [wrapA1 bs.length (by omega)]; simp
  rw [ltB_f (by omega)]
  have hbl : bs.length = r + 1 := by have := hT.le; omega
  rw [hbl] at hT
  conv => whnf
  -- the first row
  obtain ⟨x, hx, hx1, hx2⟩ := hT.at (i := 0) (by omega)
  refine ⟨by omega, by omega, ?_⟩
  conv => whnf
  refine ⟨6, r + 1, _, _, hT.root, hx1, ?_⟩
  conv => whnf
  refine loop_drop (fun n fr st => ∃ (k : Nat) (es : List (List V)) (f : Nat → Nat → Int), n + k = c + 1 ∧ st = fillS D E es ∧ Tab es b (r + 1) bs (c + 1) f ∧ Tab es bC nC bsC E.length g0 ∧ (∀ x, x < r + 1 → f x 0 = x) ∧ (∀ y, y < k → f 0 y = y) ∧
      Holds fr [(0, .ptr 0 0 0), (1, .ptr 3 0 0), (4, .dref bC nC nC), (10, .int .i64 dif), (11, .int .i64 djf), (12, .dref b (r + 1) (r + 1)), (62, .int .i64 (c + 1 : Nat)), (63, .int .i64 k)]) (c + 1) none ?_ ?_
  · exact ⟨0, es, _, rfl, rfl, hT, hC, (fun x hx => by unfold fA; rw [if_pos ⟨rfl, hx⟩]), (fun x hx => absurd hx (Nat.not_lt_zero _)), rfl, rfl, rfl, rfl, rfl, rfl, rfl, rfl, trivial⟩
  clear hT hC es hx hx1 hx2 x
  rintro n fr st ⟨k, es, f, hk, rfl, hT, hC, hF, hG, hh⟩
  obtain ⟨fr, rfl⟩ := hh.split
  clear hh
  conv => whnf
  by_cases hltB : k < c + 1
  · rw [ltB_t (by omega)]
    conv => whnf
    obtain ⟨x, hx, hx1, hx2⟩ := hT.at (i := 0) (by omega)
    have hxC : x ∉ bC :: bsC := fun h => hA x h (List.mem_cons_of_mem _ (List.mem_of_getElem? hx))
    refine ⟨by omega, by omega, ?_⟩
    conv => whnf
    refine ⟨6, r + 1, _, _, hT.root, hx1, ?_⟩
    conv => whnf
    refine ⟨by omega, by omega, ?_⟩
    conv => whnf
    refine ⟨6, c + 1, _, _, _, hx2, numR_get _ hltB, rfl, ?_⟩
    conv => whnf
    refine ⟨n - 1, by omega, none, k + 1, _, _, by omega, rfl, hT.put hx k k, hC.other hxC _, ?_, ?_, rfl, rfl, rfl, rfl, rfl, rfl, rfl, ?_, trivial⟩
    · intro x hx
      unfold upd2
      by_cases e : x = 0 ∧ 0 = k
      · rw [if_pos e]; omega
      · rw [if_neg e]; exact hF x hx
    · intro y hy
      unfold upd2
      by_cases e : y = k
      · subst e; simp
      · rw [if_neg (fun h => e h.2)]; exact hG y (by omega)
    · show V.int .i64 (IntKind.i64.wrap (k + 1)) = _
      rw [wrapA1 k (by omega)]
  rw [ltB_f (by omega)]
  conv => whnf
  have hK : Known f d r c 0 0 := ⟨fun a b ha hb h => by
    rcases h with rfl | rfl | h | ⟨rfl, h⟩
    · rw [h1]; exact hG b (by omega)
    · rw [h0]; exact hF a (by omega)
    · obtain rfl : a = 0 := by omega
      rw [h1]; exact hG b (by omega)
    · obtain rfl : b = 0 := by omega
      rw [h0]; exact hF _ (by omega)⟩
  have hFi : Filled g0 g0 D E d dif djf c 0 0 := ⟨fun _ _ _ => rfl, fun k l s t _ _ _ _ _ h => by omega⟩
  clear hltB hk hF hG
  -- place by place
  refine loop_drop (fun n fr st => ∃ (k : Nat) (es : List (List V)) (f g : Nat → Nat → Int), n + k = r ∧ st = fillS D E es ∧ Tab es b (r + 1) bs (c + 1) f ∧ Tab es bC nC bsC E.length g ∧ Known f d r c k 0 ∧ Filled g0 g D E d dif djf c k 0 ∧
      Holds fr [(0, .ptr 0 0 0), (1, .ptr 3 0 0), (4, .dref bC nC nC), (10, .int .i64 dif), (11, .int .i64 djf), (12, .dref b (r + 1) (r + 1)), (15, .int .i64 (k + 1 : Nat))]) r none ?_ ?_
  · exact ⟨0, es, f, g0, rfl, rfl, hT, hC, hK, hFi, rfl, rfl, rfl, rfl, rfl, rfl, rfl, trivial⟩
  clear hT hC hK hFi es f
  rintro n fr st ⟨k, es, f, g, hk, rfl, hT, hC, hK, hFi, hh⟩
  obtain ⟨fr, rfl⟩ := hh.split
  clear hh
  conv => whnf
  by_cases hltk : k < r
  · rw [ltB_t (by omega)]
    conv => whnf
    refine loop_drop (fun n fr st => ∃ (l : Nat) (es : List (List V)) (f g : Nat → Nat → Int), n + l = c ∧ st = fillS D E es ∧ Tab es b (r + 1) bs (c + 1) f ∧ Tab es bC nC bsC E.length g ∧ Known f d r c k l ∧ Filled g0 g D E d dif djf c k l ∧
        Holds fr [(0, .ptr 0 0 0), (1, .ptr 3 0 0), (4, .dref bC nC nC), (10, .int .i64 dif), (11, .int .i64 djf), (12, .dref b (r + 1) (r + 1)), (15, .int .i64 (k + 1 : Nat)), (16, .int .i64 (l + 1 : Nat))]) c none ?_ ?_
    · exact ⟨0, es, f, g, rfl, rfl, hT, hC, hK, hFi, rfl, rfl, rfl, rfl, rfl, rfl, rfl, rfl, trivial⟩
    clear hT hC hK hFi es f g
    rintro m fr st ⟨l, es, f, g, hl, rfl, hT, hC, hK, hFi, hh⟩
    obtain ⟨fr, rfl⟩ := hh.split
    clear hh
    obtain ⟨xz, hxz, hxz1, hxz2⟩ := hT.at (i := 0) (by omega)
    conv => whnf
    refine ⟨by omega, by omega, ?_⟩
    conv => whnf
    refine ⟨6, r + 1, _, _, hT.root, hxz1, ?_⟩
    conv => whnf
    by_cases hltl : l < c
    · rw [ltB_t (by omega)]
      have hwa : IntKind.i64.wrap (IntKind.i64.wrap ((dif : Int) + ((k + 1 : Nat) : Int)) - 1) = ((dif + k : Nat) : Int) := by rw [wrapA dif (k + 1) (by omega), wrapS1 _ (by omega) (by omega), show dif + (k + 1) - 1 = dif + k by omega]
      have hwb : IntKind.i64.wrap (IntKind.i64.wrap ((djf : Int) + ((l + 1 : Nat) : Int)) - 1) = ((djf + l : Nat) : Int) := by rw [wrapA djf (l + 1) (by omega), wrapS1 _ (by omega) (by omega), show djf + (l + 1) - 1 = djf + l by omega]
      conv => whnf
      rw [hwa, hwb]
      obtain ⟨was, hwas⟩ : ∃ a, D[dif + k]? = some a := ⟨_, List.getElem?_eq_getElem (by omega)⟩
      obtain ⟨is, his⟩ : ∃ a, E[djf + l]? = some a := ⟨_, List.getElem?_eq_getElem (by omega)⟩
      have e1 := hf k was hltk hwas
      have e2 := hf' l is hltl his
      have e3 := hs1 k l was is hltk hltl hwas his
      have e4 := hs2 k l was is hltk hltl hwas his
      have hlb := hlab was (List.mem_of_getElem? hwas) is (List.mem_of_getElem? his)
      have fw := firR_get hwas
      have fi := firR_get his
      have lw := labR_get hwas
      have li := labR_get his
      obtain ⟨wk, wt, wf⟩ := was
      obtain ⟨ik, it, jf⟩ := is
      simp only at e1 e2 e3 e4 hlb fw fi lw li
      refine ⟨by omega, firR D, _, 1, rfl, fw, rfl, rfl, ?_⟩
      conv => whnf
      refine AtRow_intro _ fw ?_
      conv => whnf
      have hwx : IntKind.i64.wrap (((k + 1 : Nat) : Int) - 1) = (k : Int) := by rw [wrapS1 (k + 1) (by omega) (by omega)]; simp
      have hwy : IntKind.i64.wrap (((l + 1 : Nat) : Int) - 1) = (l : Int) := by rw [wrapS1 (l + 1) (by omega) (by omega)]; simp
      have hws1 := wrapS wf dif (by omega) (by omega)
      have hws2 := wrapS jf djf (by omega) (by omega)
      obtain ⟨xk, hx0, hx1, hx2⟩ := hT.at (i := k) (by omega)
      obtain ⟨xk', hy0, hy1, hy2⟩ := hT.at (i := k + 1) (by omega)
      obtain ⟨xf, hz0, hz1, hz2⟩ := hT.at (i := wf - dif) (by omega)
      obtain ⟨xc, hc0, hc1', hc2⟩ := hC.at (i := dif + k) (by omega)
      have k1 := hK.done k l (by omega) (by omega) (by omega)
      have k2 := hK.done k (l + 1) (by omega) (by omega) (by omega)
      have k3 := hK.done (k + 1) l (by omega) (by omega) (by omega)
      have k4 := hK.done (wf - dif) (jf - djf) (by omega) (by omega) (by omega)
      have b1 := hb k l (by omega) (by omega)
      have b2 := hb k (l + 1) (by omega) (by omega)
      have b3 := hb (k + 1) l (by omega) (by omega)
      have b4 := hb (wf - dif) (jf - djf) (by omega) (by omega)
      have bu : unH ⟨wk, wt, wf⟩ ⟨ik, it, jf⟩ ≤ 1 := by unfold unH; split <;> omega
      have hval : ∀ v : Nat, d (k + 1) (l + 1) = min (min (d k (l + 1) + 1) (d (k + 1) l + 1)) v → mn (mn (IntKind.i64.wrap (f k (l + 1) + 1)) (IntKind.i64.wrap (f (k + 1) l + 1))) (v : Int) = d (k + 1) (l + 1) := fun v hv => by
        rw [k2, k3, wrapA1 _ (by omega), wrapA1 _ (by omega)]
        unfold mn; split <;> split <;> omega
      have hkC : xk' ∉ bC :: bsC := fun h => hA xk' h (List.mem_cons_of_mem _ (List.mem_of_getElem? hy0))
      have hcM : xc ∉ b :: bs := fun h => hA xc (List.mem_cons_of_mem _ (List.mem_of_getElem? hc0)) h
      have hnxt : ∀ val : Int, val = d (k + 1) (l + 1) → Known (upd2 f (k + 1) (l + 1) val) d r c k (l + 1) := fun val hv => ⟨fun x y hx hy h => by
        unfold upd2
        by_cases e : x = k + 1 ∧ y = l + 1
        · rw [if_pos e, e.1, e.2]; exact hv
        · rw [if_neg e]; exact hK.done x y hx hy (by omega)⟩
      have hwl2 : V.int .i64 (IntKind.i64.wrap (((l + 1 : Nat) : Int) + 1)) = .int .i64 (l + 1 + 1 : Nat) := by rw [wrapA1 (l + 1) (by omega)]
      by_cases a1 : wf = dif
      · rw [eqB_t (by omega)]
        conv => whnf
        refine ⟨by omega, firR E, _, 1, rfl, fi, rfl, rfl, ?_⟩
        conv => whnf
        refine AtRow_intro _ fi ?_
        conv => whnf
        by_cases a2 : jf = djf
        · rw [eqB_t (by omega)]
          conv => whnf
          refine draw_go hX ?_
          conv => whnf
          refine ⟨by omega, labR D, _, 1, rfl, lw, rfl, rfl, ?_⟩
          conv => whnf
          refine AtRow_intro _ lw ?_
          conv => whnf
          refine ⟨by omega, labR E, _, 1, rfl, li, rfl, rfl, ?_⟩
          conv => whnf
          refine AtRow_intro _ li ?_
          conv => whnf
          by_cases hq : wk ++ 34 :: wt = ik ++ 34 :: it
          · rw [eqS_t hq]
            have hu : unH ⟨wk, wt, wf⟩ ⟨ik, it, jf⟩ = 0 := by unfold unH; rw [if_pos (hlb.1 hq)]
            conv => whnf
            refine draw_with hX [(0, .ptr 0 0 0), (1, .ptr 3 0 0), (4, .dref bC nC nC), (10, .int .i64 dif), (11, .int .i64 djf), (12, .dref b (r + 1) (r + 1)), (15, .int .i64 (k + 1 : Nat)), (16, .int .i64 (l + 1 : Nat)), (17, .int .i64 (dif + k : Nat)), (18, .int .i64 (djf + l : Nat)), (19, .int .i64 (unH ⟨wk, wt, wf⟩ ⟨ik, it, jf⟩ : Nat))] ⟨rfl, rfl, rfl, rfl, rfl, rfl, rfl, rfl, rfl, rfl, by rw [hu]; rfl, trivial⟩ fun C hC' fr => ?_
            conv => whnf
            refine ⟨by omega, by omega, ?_⟩
            conv => whnf
            refine ⟨6, r + 1, _, _, hT.root, hy1, ?_⟩
            conv => whnf
            refine ⟨by rw [hwx]; omega, by rw [hwx]; omega, ?_⟩
            conv => whnf
            refine ⟨6, r + 1, _, _, hT.root, by rw [hwx]; exact hx1, ?_⟩
            conv => whnf
            refine ⟨by omega, by omega, ?_⟩
            conv => whnf
            refine ⟨6, c + 1, _, _, hx2, numR_get _ (by omega), ?_⟩
            conv => whnf
            refine ⟨by omega, by omega, ?_⟩
            conv => whnf
            refine ⟨6, r + 1, _, _, hT.root, hy1, ?_⟩
            conv => whnf
            refine ⟨by rw [hwy]; omega, by rw [hwy]; omega, ?_⟩
            conv => whnf
            refine ⟨6, c + 1, _, _, hy2, by rw [hwy]; exact numR_get _ (by omega), ?_⟩
            conv => whnf
            refine ⟨by rw [hwx]; omega, by rw [hwx]; omega, ?_⟩
            conv => whnf
            refine ⟨6, r + 1, _, _, hT.root, by rw [hwx]; exact hx1, ?_⟩
            conv => whnf
            refine ⟨by rw [hwy]; omega, by rw [hwy]; omega, ?_⟩
            conv => whnf
            refine ⟨6, c + 1, _, _, hx2, by rw [hwy]; exact numR_get _ (by omega), ?_⟩
            conv => whnf
            refine ⟨_, .inl (l5Least_pure _ _ _), ?_⟩
            conv => whnf
            refine ⟨by omega, by omega, ?_⟩
            conv => whnf
            refine ⟨6, c + 1, _, _, putEnt xk' ((numR (c + 1) (f (k + 1))).set (l + 1) [.int .i64 (mn (mn (IntKind.i64.wrap (f k (l + 1) + 1)) (IntKind.i64.wrap (f (k + 1) l + 1))) (IntKind.i64.wrap (f k l + (unH ⟨wk, wt, wf⟩ ⟨ik, it, jf⟩ : Nat))))]) es, hy2, numR_get _ (by omega), rfl, ?_⟩
            conv => whnf
            refine hC' _ _ ?_
            clear hC'
            have hv1 : (mn (mn (IntKind.i64.wrap (f k (l + 1) + 1)) (IntKind.i64.wrap (f (k + 1) l + 1))) (IntKind.i64.wrap (f k l + (unH ⟨wk, wt, wf⟩ ⟨ik, it, jf⟩ : Nat)))) = d (k + 1) (l + 1) := by
              rw [k1, wrapA _ _ (by omega)]; exact hval _ (e4 a1 a2)
            have hT1 := hT.put hy0 (l + 1) (mn (mn (IntKind.i64.wrap (f k (l + 1) + 1)) (IntKind.i64.wrap (f (k + 1) l + 1))) (IntKind.i64.wrap (f k l + (unH ⟨wk, wt, wf⟩ ⟨ik, it, jf⟩ : Nat))))
            have hC1 := hC.other hkC ((numR (c + 1) (f (k + 1))).set (l + 1) [.int .i64 (mn (mn (IntKind.i64.wrap (f k (l + 1) + 1)) (IntKind.i64.wrap (f (k + 1) l + 1))) (IntKind.i64.wrap (f k l + (unH ⟨wk, wt, wf⟩ ⟨ik, it, jf⟩ : Nat))))])
            have hK1 := hnxt _ hv1
            generalize (mn (mn (IntKind.i64.wrap (f k (l + 1) + 1)) (IntKind.i64.wrap (f (k + 1) l + 1))) (IntKind.i64.wrap (f k l + (unH ⟨wk, wt, wf⟩ ⟨ik, it, jf⟩ : Nat)))) = val at *
            have hr1' := hT1.row _ _ hy0
            have hr2' := hC1.row _ _ hc0
            have hff : upd2 f (k + 1) (l + 1) val (k + 1) (l + 1) = val := by unfold upd2; rw [if_pos ⟨rfl, rfl⟩]
            generalize upd2 f (k + 1) (l + 1) val = f1 at *
            generalize putEnt xk' ((numR (c + 1) (f (k + 1))).set (l + 1) [.int .i64 val]) es = es1 at *
            conv => whnf
            refine draw_go hX ?_
            conv => whnf
            refine ⟨by omega, by omega, ?_⟩
            conv => whnf
            refine ⟨6, nC, _, _, hC1.root, hc1', ?_⟩
            conv => whnf
            refine ⟨by omega, by omega, ?_⟩
            conv => whnf
            refine ⟨6, r + 1, _, _, hT1.root, hy1, ?_⟩
            conv => whnf
            refine ⟨by omega, by omega, ?_⟩
            conv => whnf
            refine ⟨6, c + 1, _, _, hr1', numR_get _ (by omega), ?_⟩
            conv => whnf
            refine ⟨by omega, by omega, ?_⟩
            conv => whnf
            refine ⟨6, E.length, _, _, _, hr2', numR_get _ (by omega), rfl, ?_⟩
            conv => whnf
            exact ⟨m - 1, by omega, none, l + 1, _, f1, _, by omega, rfl, hT1.other hcM _, hC1.put hc0 (djf + l) (f1 (k + 1) (l + 1)), hK1, hFi.step hwas his a1 a2 (hff.trans hv1), rfl, rfl, rfl, rfl, rfl, rfl, rfl, hwl2, trivial⟩
          · rw [eqS_f hq]
            have hu : unH ⟨wk, wt, wf⟩ ⟨ik, it, jf⟩ = 1 := by unfold unH; rw [if_neg (fun h => hq (hlb.2 h))]
            conv => whnf
            refine draw_with hX [(0, .ptr 0 0 0), (1, .ptr 3 0 0), (4, .dref bC nC nC), (10, .int .i64 dif), (11, .int .i64 djf), (12, .dref b (r + 1) (r + 1)), (15, .int .i64 (k + 1 : Nat)), (16, .int .i64 (l + 1 : Nat)), (17, .int .i64 (dif + k : Nat)), (18, .int .i64 (djf + l : Nat)), (19, .int .i64 (unH ⟨wk, wt, wf⟩ ⟨ik, it, jf⟩ : Nat))] ⟨rfl, rfl, rfl, rfl, rfl, rfl, rfl, rfl, rfl, rfl, by rw [hu]; rfl, trivial⟩ fun C hC' fr => ?_
            conv => whnf
            refine ⟨by omega, by omega, ?_⟩
            conv => whnf
            refine ⟨6, r + 1, _, _, hT.root, hy1, ?_⟩
            conv => whnf
            refine ⟨by rw [hwx]; omega, by rw [hwx]; omega, ?_⟩
            conv => whnf
            refine ⟨6, r + 1, _, _, hT.root, by rw [hwx]; exact hx1, ?_⟩
            conv => whnf
            refine ⟨by omega, by omega, ?_⟩
            conv => whnf
            refine ⟨6, c + 1, _, _, hx2, numR_get _ (by omega), ?_⟩
            conv => whnf
            refine ⟨by omega, by omega, ?_⟩
            conv => whnf
            refine ⟨6, r + 1, _, _, hT.root, hy1, ?_⟩
            conv => whnf
            refine ⟨by rw [hwy]; omega, by rw [hwy]; omega, ?_⟩
            conv => whnf
            refine ⟨6, c + 1, _, _, hy2, by rw [hwy]; exact numR_get _ (by omega), ?_⟩
            conv => whnf
            refine ⟨by rw [hwx]; omega, by rw [hwx]; omega, ?_⟩
            conv => whnf
            refine ⟨6, r + 1, _, _, hT.root, by rw [hwx]; exact hx1, ?_⟩
            conv => whnf
            refine ⟨by rw [hwy]; omega, by rw [hwy]; omega, ?_⟩
            conv => whnf
            refine ⟨6, c + 1, _, _, hx2, by rw [hwy]; exact numR_get _ (by omega), ?_⟩
            conv => whnf
            refine ⟨_, .inl (l5Least_pure _ _ _), ?_⟩
            conv => whnf
            refine ⟨by omega, by omega, ?_⟩
            conv => whnf
            refine ⟨6, c + 1, _, _, putEnt xk' ((numR (c + 1) (f (k + 1))).set (l + 1) [.int .i64 (mn (mn (IntKind.i64.wrap (f k (l + 1) + 1)) (IntKind.i64.wrap (f (k + 1) l + 1))) (IntKind.i64.wrap (f k l + (unH ⟨wk, wt, wf⟩ ⟨ik, it, jf⟩ : Nat))))]) es, hy2, numR_get _ (by omega), rfl, ?_⟩
            conv => whnf
            refine hC' _ _ ?_
            clear hC'
            have hv1 : (mn (mn (IntKind.i64.wrap (f k (l + 1) + 1)) (IntKind.i64.wrap (f (k + 1) l + 1))) (IntKind.i64.wrap (f k l + (unH ⟨wk, wt, wf⟩ ⟨ik, it, jf⟩ : Nat)))) = d (k + 1) (l + 1) := by
              rw [k1, wrapA _ _ (by omega)]; exact hval _ (e4 a1 a2)
            have hT1 := hT.put hy0 (l + 1) (mn (mn (IntKind.i64.wrap (f k (l + 1) + 1)) (IntKind.i64.wrap (f (k + 1) l + 1))) (IntKind.i64.wrap (f k l + (unH ⟨wk, wt, wf⟩ ⟨ik, it, jf⟩ : Nat))))
            have hC1 := hC.other hkC ((numR (c + 1) (f (k + 1))).set (l + 1) [.int .i64 (mn (mn (IntKind.i64.wrap (f k (l + 1) + 1)) (IntKind.i64.wrap (f (k + 1) l + 1))) (IntKind.i64.wrap (f k l + (unH ⟨wk, wt, wf⟩ ⟨ik, it, jf⟩ : Nat))))])
            have hK1 := hnxt _ hv1
            generalize (mn (mn (IntKind.i64.wrap (f k (l + 1) + 1)) (IntKind.i64.wrap (f (k + 1) l + 1))) (IntKind.i64.wrap (f k l + (unH ⟨wk, wt, wf⟩ ⟨ik, it, jf⟩ : Nat)))) = val at *
            have hr1' := hT1.row _ _ hy0
            have hr2' := hC1.row _ _ hc0
            have hff : upd2 f (k + 1) (l + 1) val (k + 1) (l + 1) = val := by unfold upd2; rw [if_pos ⟨rfl, rfl⟩]
            generalize upd2 f (k + 1) (l + 1) val = f1 at *
            generalize putEnt xk' ((numR (c + 1) (f (k + 1))).set (l + 1) [.int .i64 val]) es = es1 at *
            conv => whnf
            refine draw_go hX ?_
            conv => whnf
            refine ⟨by omega, by omega, ?_⟩
            conv => whnf
            refine ⟨6, nC, _, _, hC1.root, hc1', ?_⟩
            conv => whnf
            refine ⟨by omega, by omega, ?_⟩
            conv => whnf
            refine ⟨6, r + 1, _, _, hT1.root, hy1, ?_⟩
            conv => whnf
            refine ⟨by omega, by omega, ?_⟩
            conv => whnf
            refine ⟨6, c + 1, _, _, hr1', numR_get _ (by omega), ?_⟩
            conv => whnf
            refine ⟨by omega, by omega, ?_⟩
            conv => whnf
            refine ⟨6, E.length, _, _, _, hr2', numR_get _ (by omega), rfl, ?_⟩
            conv => whnf
            exact ⟨m - 1, by omega, none, l + 1, _, f1, _, by omega, rfl, hT1.other hcM _, hC1.put hc0 (djf + l) (f1 (k + 1) (l + 1)), hK1, hFi.step hwas his a1 a2 (hff.trans hv1), rfl, rfl, rfl, rfl, rfl, rfl, rfl, hwl2, trivial⟩
        · rw [eqB_f (by omega)]
          conv => whnf
          refine draw_with hX [(0, .ptr 0 0 0), (1, .ptr 3 0 0), (4, .dref bC nC nC), (10, .int .i64 dif), (11, .int .i64 djf), (12, .dref b (r + 1) (r + 1)), (15, .int .i64 (k + 1 : Nat)), (16, .int .i64 (l + 1 : Nat)), (17, .int .i64 (dif + k : Nat)), (18, .int .i64 (djf + l : Nat))] ⟨rfl, rfl, rfl, rfl, rfl, rfl, rfl, rfl, rfl, rfl, trivial⟩ fun C hC' fr => ?_
          conv => whnf
          refine ⟨by omega, by omega, ?_⟩
          conv => whnf
          refine ⟨6, r + 1, _, _, hT.root, hy1, ?_⟩
          conv => whnf
          refine ⟨by rw [hwx]; omega, by rw [hwx]; omega, ?_⟩
          conv => whnf
          refine ⟨6, r + 1, _, _, hT.root, by rw [hwx]; exact hx1, ?_⟩
          conv => whnf
          refine ⟨by omega, by omega, ?_⟩
          conv => whnf
          refine ⟨6, c + 1, _, _, hx2, numR_get _ (by omega), ?_⟩
          conv => whnf
          refine ⟨by omega, by omega, ?_⟩
          conv => whnf
          refine ⟨6, r + 1, _, _, hT.root, hy1, ?_⟩
          conv => whnf
          refine ⟨by rw [hwy]; omega, by rw [hwy]; omega, ?_⟩
          conv => whnf
          refine ⟨6, c + 1, _, _, hy2, by rw [hwy]; exact numR_get _ (by omega), ?_⟩
          conv => whnf
          refine ⟨by omega, firR D, _, 1, rfl, fw, rfl, rfl, ?_⟩
          conv => whnf
          refine AtRow_intro _ fw ?_
          conv => whnf
          refine ⟨by rw [hws1]; omega, by rw [hws1]; omega, ?_⟩
          conv => whnf
          refine ⟨6, r + 1, _, _, hT.root, by rw [hws1]; exact hz1, ?_⟩
          conv => whnf
          refine ⟨by omega, firR E, _, 1, rfl, fi, rfl, rfl, ?_⟩
          conv => whnf
          refine AtRow_intro _ fi ?_
          conv => whnf
          refine ⟨by rw [hws2]; omega, by rw [hws2]; omega, ?_⟩
          conv => whnf
          refine ⟨6, c + 1, _, _, hz2, by rw [hws2]; exact numR_get _ (by omega), ?_⟩
          conv => whnf
          refine ⟨by omega, by omega, ?_⟩
          conv => whnf
          refine ⟨6, nC, _, _, hC.root, hc1', ?_⟩
          conv => whnf
          refine ⟨by omega, by omega, ?_⟩
          conv => whnf
          refine ⟨6, E.length, _, _, hc2, numR_get _ (by omega), ?_⟩
          conv => whnf
          refine ⟨_, .inl (l5Least_pure _ _ _), ?_⟩
          conv => whnf
          refine ⟨by omega, by omega, ?_⟩
          conv => whnf
          refine ⟨6, c + 1, _, _, putEnt xk' ((numR (c + 1) (f (k + 1))).set (l + 1) [.int .i64 (mn (mn (IntKind.i64.wrap (f k (l + 1) + 1)) (IntKind.i64.wrap (f (k + 1) l + 1))) (IntKind.i64.wrap (f (wf - dif) (jf - djf) + g (dif + k) (djf + l))))]) es, hy2, numR_get _ (by omega), rfl, ?_⟩
          conv => whnf
          refine hC' _ _ ?_
          clear hC'
          have hgo := hFi.old (dif + k) (djf + l) (fun s t p1 p2 _ _ p3 p4 => by
            rw [hwas] at p1; rw [his] at p2
            cases p1; cases p2
            exact a2 p4)
          have hv1 : (mn (mn (IntKind.i64.wrap (f k (l + 1) + 1)) (IntKind.i64.wrap (f (k + 1) l + 1))) (IntKind.i64.wrap (f (wf - dif) (jf - djf) + g (dif + k) (djf + l)))) = d (k + 1) (l + 1) := by
            obtain ⟨w, w1, w2, w3⟩ := e3 (.inr (by omega))
            rw [k4, hgo, w1, wrapA _ _ (by omega)]; exact hval _ w3
          have hT1 := hT.put hy0 (l + 1) (mn (mn (IntKind.i64.wrap (f k (l + 1) + 1)) (IntKind.i64.wrap (f (k + 1) l + 1))) (IntKind.i64.wrap (f (wf - dif) (jf - djf) + g (dif + k) (djf + l))))
          have hC1 := hC.other hkC ((numR (c + 1) (f (k + 1))).set (l + 1) [.int .i64 (mn (mn (IntKind.i64.wrap (f k (l + 1) + 1)) (IntKind.i64.wrap (f (k + 1) l + 1))) (IntKind.i64.wrap (f (wf - dif) (jf - djf) + g (dif + k) (djf + l))))])
          have hK1 := hnxt _ hv1
          have hF1 := hFi.skip hwas his (fun h => a2 h.2)
          conv => whnf
          exact ⟨m - 1, by omega, none, l + 1, _, _, g, by omega, rfl, hT1, hC1, hK1, hF1, rfl, rfl, rfl, rfl, rfl, rfl, rfl, hwl2, trivial⟩
      · rw [eqB_f (by omega)]
        conv => whnf
        refine draw_with hX [(0, .ptr 0 0 0), (1, .ptr 3 0 0), (4, .dref bC nC nC), (10, .int .i64 dif), (11, .int .i64 djf), (12, .dref b (r + 1) (r + 1)), (15, .int .i64 (k + 1 : Nat)), (16, .int .i64 (l + 1 : Nat)), (17, .int .i64 (dif + k : Nat)), (18, .int .i64 (djf + l : Nat))] ⟨rfl, rfl, rfl, rfl, rfl, rfl, rfl, rfl, rfl, rfl, trivial⟩ fun C hC' fr => ?_
        conv => whnf
        refine ⟨by omega, by omega, ?_⟩
        conv => whnf
        refine ⟨6, r + 1, _, _, hT.root, hy1, ?_⟩
        conv => whnf
        refine ⟨by rw [hwx]; omega, by rw [hwx]; omega, ?_⟩
        conv => whnf
        refine ⟨6, r + 1, _, _, hT.root, by rw [hwx]; exact hx1, ?_⟩
        conv => whnf
        refine ⟨by omega, by omega, ?_⟩
        conv => whnf
        refine ⟨6, c + 1, _, _, hx2, numR_get _ (by omega), ?_⟩
        conv => whnf
        refine ⟨by omega, by omega, ?_⟩
        conv => whnf
        refine ⟨6, r + 1, _, _, hT.root, hy1, ?_⟩
        conv => whnf
        refine ⟨by rw [hwy]; omega, by rw [hwy]; omega, ?_⟩
        conv => whnf
        refine ⟨6, c + 1, _, _, hy2, by rw [hwy]; exact numR_get _ (by omega), ?_⟩
        conv => whnf
        refine ⟨by omega, firR D, _, 1, rfl, fw, rfl, rfl, ?_⟩
        conv => whnf
        refine AtRow_intro _ fw ?_
        conv => whnf
        refine ⟨by rw [hws1]; omega, by rw [hws1]; omega, ?_⟩
        conv => whnf
        refine ⟨6, r + 1, _, _, hT.root, by rw [hws1]; exact hz1, ?_⟩
        conv => whnf
        refine ⟨by omega, firR E, _, 1, rfl, fi, rfl, rfl, ?_⟩
        conv => whnf
        refine AtRow_intro _ fi ?_
        conv => whnf
        refine ⟨by rw [hws2]; omega, by rw [hws2]; omega, ?_⟩
        conv => whnf
        refine ⟨6, c + 1, _, _, hz2, by rw [hws2]; exact numR_get _ (by omega), ?_⟩
        conv => whnf
        refine ⟨by omega, by omega, ?_⟩
        conv => whnf
        refine ⟨6, nC, _, _, hC.root, hc1', ?_⟩
        conv => whnf
        refine ⟨by omega, by omega, ?_⟩
        conv => whnf
        refine ⟨6, E.length, _, _, hc2, numR_get _ (by omega), ?_⟩
        conv => whnf
        refine ⟨_, .inl (l5Least_pure _ _ _), ?_⟩
        conv => whnf
        refine ⟨by omega, by omega, ?_⟩
        conv => whnf
        refine ⟨6, c + 1, _, _, putEnt xk' ((numR (c + 1) (f (k + 1))).set (l + 1) [.int .i64 (mn (mn (IntKind.i64.wrap (f k (l + 1) + 1)) (IntKind.i64.wrap (f (k + 1) l + 1))) (IntKind.i64.wrap (f (wf - dif) (jf - djf) + g (dif + k) (djf + l))))]) es, hy2, numR_get _ (by omega), rfl, ?_⟩
        conv => whnf
        refine hC' _ _ ?_
        clear hC'
        have hgo := hFi.old (dif + k) (djf + l) (fun s t p1 p2 _ _ p3 p4 => by
          rw [hwas] at p1; rw [his] at p2
          cases p1; cases p2
          exact a1 p3)
        have hv1 : (mn (mn (IntKind.i64.wrap (f k (l + 1) + 1)) (IntKind.i64.wrap (f (k + 1) l + 1))) (IntKind.i64.wrap (f (wf - dif) (jf - djf) + g (dif + k) (djf + l)))) = d (k + 1) (l + 1) := by
          obtain ⟨w, w1, w2, w3⟩ := e3 (.inl (by omega))
          rw [k4, hgo, w1, wrapA _ _ (by omega)]; exact hval _ w3
        have hT1 := hT.put hy0 (l + 1) (mn (mn (IntKind.i64.wrap (f k (l + 1) + 1)) (IntKind.i64.wrap (f (k + 1) l + 1))) (IntKind.i64.wrap (f (wf - dif) (jf - djf) + g (dif + k) (djf + l))))
        have hC1 := hC.other hkC ((numR (c + 1) (f (k + 1))).set (l + 1) [.int .i64 (mn (mn (IntKind.i64.wrap (f k (l + 1) + 1)) (IntKind.i64.wrap (f (k + 1) l + 1))) (IntKind.i64.wrap (f (wf - dif) (jf - djf) + g (dif + k) (djf + l))))])
        have hK1 := hnxt _ hv1
        have hF1 := hFi.skip hwas his (fun h => a1 h.1)
        conv => whnf
        exact ⟨m - 1, by omega, none, l + 1, _, _, g, by omega, rfl, hT1, hC1, hK1, hF1, rfl, rfl, rfl, rfl, rfl, rfl, rfl, hwl2, trivial⟩
    · rw [ltB_f (by omega)]
      conv => whnf
      refine ⟨n - 1, by omega, none, k + 1, es, f, g, by omega, rfl, hT, hC, ⟨fun a b ha hb h => hK.done a b ha hb (by omega)⟩, ⟨hFi.old, fun a b s t h1 h2 h3 h4 h5 h => hFi.new a b s t h1 h2 h3 h4 h5 (by omega)⟩, rfl, rfl, rfl, rfl, rfl, rfl, ?_, trivial⟩
      · show V.int .i64 (IntKind.i64.wrap ((k + 1 : Nat) + 1)) = _
        rw [wrapA1 (k + 1) (by omega)]
  · rw [ltB_f (by omega)]
    conv => whnf
    obtain rfl : k = r := by omega
    refine ⟨[], false, ?_⟩
    conv => whnf
    exact ⟨es, g, rfl, hC, hFi, rfl⟩
end Go.Cod

namespace Go.Cod
open Go Go.Proofs
set_option linter.all false
set_option maxRecDepth 10000

/-- The places of things that are not the first in what they are in. -/
def partKey (D : List Th) (i k : Nat) : Bool := (List.range k).all fun x => !decide (i < x) || !decide (fstOf D x = fstOf D i)
theorem partKey_iff (D : List Th) (i k : Nat) : partKey D i k = true ↔ ∀ x, i < x → x < k → fstOf D x ≠ fstOf D i := by
  unfold partKey
  rw [List.all_eq_true]
  constructor
  · intro H x h1 h2 e
    have := H x (List.mem_range.2 h2)
    rw [decide_eq_true h1, decide_eq_true e] at this
    cases this
  · intro H x hx
    by_cases h1 : i < x
    · rw [decide_eq_true h1, decide_eq_false (H x h1 (List.mem_range.1 hx))]; rfl
    · rw [decide_eq_false h1]; rfl
def isKey (D : List Th) (i : Nat) : Bool := partKey D i D.length
def keysL (D : List Th) (n : Nat) : List Nat := (List.range n).filter (isKey D)
def nI (l : List Nat) : List Int := l.map fun (n : Nat) => (n : Int)
theorem nI_len (l : List Nat) : (nI l).length = l.length := by simp [nI]
theorem keysL_succ (D : List Th) (n : Nat) : keysL D (n + 1) = keysL D n ++ if isKey D n then [n] else [] := by
  unfold keysL
  rw [List.range_succ, List.filter_append]
  congr 1
  by_cases h : isKey D n = true <;> simp [h]
theorem keysL_len (D : List Th) (n : Nat) : (keysL D n).length ≤ n := by
  have := List.length_filter_le (isKey D) (List.range n)
  rw [List.length_range] at this; exact this
theorem keysL_nil (D : List Th) (h : D ≠ []) : keysL D D.length ≠ [] := by
  have hp := List.length_pos_iff.2 h
  intro e
  have hm : D.length - 1 ∈ keysL D D.length := by
    unfold keysL
    rw [List.mem_filter]
    refine ⟨List.mem_range.2 (by omega), ?_⟩
    unfold isKey
    rw [partKey_iff]
    intro k h1 h2; omega
  rw [e] at hm; cases hm
theorem fir_fst {D : List Th} {i : Nat} (h : i < D.length) : (firR D)[i]? = some [.int .i64 (fstOf D i)] := by
  have e := List.getElem?_eq_getElem h
  rw [firR_get e, fstOf_get e]
theorem partKey_succ (D : List Th) (i k : Nat) (h : i < k) : partKey D i (k + 1) = (partKey D i k && decide (fstOf D k ≠ fstOf D i)) := by
  rw [Bool.eq_iff_iff, Bool.and_eq_true, partKey_iff, partKey_iff, decide_eq_true_eq]
  constructor
  · exact fun H => ⟨fun x h1 h2 => H x h1 (by omega), H k h (by omega)⟩
  · intro ⟨H1, H2⟩ x h1 h2
    rcases Nat.lt_or_ge x k with h3 | h3
    · exact H1 x h1 h3
    · have : x = k := by omega
      subst this; exact H2
set_option maxHeartbeats 8000000 in
theorem keys_full (D : List Th) (hD : D ≠ []) (lD : D.length ≤ 1000) : Full Try.prog noY 28 [.ptr 0 0 0] [pboxO (.own 1) (.own 2), ⟨labR D, 1, true, true, false, .cell⟩, ⟨firR D, 1, true, true, false, .cell⟩]
    fun o st' => o = .ret (.own 3) ∧ st' = [pboxO (.own 1) (.own 2), ⟨labR D, 1, true, true, false, .cell⟩, ⟨firR D, 1, true, true, false, .cell⟩, ⟨irows (nI (keysL D D.length)), 1, true, true, false, .cell⟩] := by
  have hfl := firR_len D
  have hnn := keysL_nil D hD
  refine full_of_draw good Try.func28 rfl (by kernel_rfl) (by decide) fun X hX => ?_
  conv => whnf
  refine loop_drop (fun n fr st => ∃ i : Nat, n + i = D.length ∧
      ((keysL D i = [] ∧ Holds fr [(0, .ptr 0 0 0), (3, .nils), (4, .int .i64 i)] ∧ st = [pboxO (.own 1) (.own 2), ⟨labR D, 1, true, true, false, .cell⟩, ⟨firR D, 1, true, true, false, .cell⟩]) ∨
       (keysL D i ≠ [] ∧ Holds fr [(0, .ptr 0 0 0), (3, .own 3), (4, .int .i64 i)] ∧ st = [pboxO (.own 1) (.own 2), ⟨labR D, 1, true, true, false, .cell⟩, ⟨firR D, 1, true, true, false, .cell⟩, ⟨irows (nI (keysL D i)), 1, true, true, false, .cell⟩]))) D.length none ?_ ?_
  · exact ⟨0, rfl, .inl ⟨rfl, ⟨rfl, rfl, rfl, trivial⟩, rfl⟩⟩
  rintro n fr st ⟨i, hi, ⟨hK, hh, rfl⟩ | ⟨hK, hh, rfl⟩⟩
  · obtain ⟨fr, rfl⟩ := hh.split
    clear hh
    conv => whnf
    by_cases hlt : i < D.length
    · rw [hfl, ltB_t (by omega)]
      conv => whnf
      refine loop_drop (fun m fr st => ∃ k : Nat, m + k = D.length + 1 ∧ i < k ∧ k ≤ D.length ∧ st = [pboxO (.own 1) (.own 2), ⟨labR D, 1, true, true, false, .cell⟩, ⟨firR D, 1, true, true, false, .cell⟩] ∧ Holds fr [(0, .ptr 0 0 0), (3, .nils), (4, .int .i64 i), (5, .bool (partKey D i k)), (6, .int .i64 k)]) (D.length - i) none ?_ ?_
      · refine ⟨i + 1, by omega, by omega, by omega, rfl, rfl, rfl, rfl, ?_, ?_, trivial⟩
        · show V.bool true = _
          rw [show partKey D i (i + 1) = true by rw [partKey_iff]; intro x h1 h2; omega]
        · show V.int .i64 (IntKind.i64.wrap (i + 1)) = _
          rw [wrapA1 i (by omega)]
      rintro m fr st ⟨k, hm, hik, hkD, rfl, hh⟩
      obtain ⟨fr, rfl⟩ := hh.split
      clear hh
      conv => whnf
      by_cases hltk : k < D.length
      · rw [hfl, ltB_t (by omega)]
        conv => whnf
        have hps := partKey_succ D i k hik
        have fk := fir_fst hltk
        have fi := fir_fst hlt
        have hwk : V.int .i64 (IntKind.i64.wrap ((k : Int) + 1)) = .int .i64 (k + 1 : Nat) := by rw [wrapA1 k (by omega)]
        generalize partKey D i k = pk at hps
        refine draw_go hX ?_
        cases pk
        · conv => whnf
          refine ⟨m - 1, by omega, none, k + 1, by omega, by omega, by omega, rfl, rfl, rfl, rfl, ?_, hwk, trivial⟩
          rw [hps]; rfl
        · conv => whnf
          refine ⟨by omega, firR D, _, 1, rfl, fk, rfl, rfl, ?_⟩
          conv => whnf
          refine AtRow_intro _ fk ?_
          conv => whnf
          refine ⟨by omega, firR D, _, 1, rfl, fi, rfl, rfl, ?_⟩
          conv => whnf
          refine AtRow_intro _ fi ?_
          conv => whnf
          refine ⟨m - 1, by omega, none, k + 1, by omega, by omega, by omega, rfl, rfl, rfl, rfl, ?_, hwk, trivial⟩
          show V.bool (negB (eqB (fstOf D k : Int) (fstOf D i))) = _
          rw [hps]
          by_cases e : fstOf D k = fstOf D i
          · rw [eqB_t (by omega)]; simp [e, negB]
          · rw [eqB_f (by omega)]; simp [e, negB]
      · rw [hfl, ltB_f (by omega)]
        conv => whnf
        have hk : k = D.length := by omega
        have hps : partKey D i k = isKey D i := by rw [hk]; rfl
        have hsu := keysL_succ D i
        have hln := keysL_len D i
        have hwi : V.int .i64 (IntKind.i64.wrap ((i : Int) + 1)) = .int .i64 (i + 1 : Nat) := by rw [wrapA1 i (by omega)]
        rw [hps]
        generalize isKey D i = ik at hsu
        cases ik
        · conv => whnf
          simp only [Bool.false_eq_true, if_false, List.append_nil] at hsu
          exact ⟨n - 1, by omega, none, i + 1, by omega, .inl ⟨by rw [hsu]; exact hK, ⟨rfl, rfl, hwi, trivial⟩, rfl⟩⟩
        · conv => whnf
          simp only [if_true] at hsu
          refine ⟨fun m hm => by rw [List.mem_singleton.1 hm]; rfl, ?_⟩
          conv => whnf
          refine ⟨by show 1 * 8 ≤ _; omega, .inr ⟨(by intro e; cases e), ?_⟩⟩
          conv => whnf
          refine ⟨n - 1, by omega, some [0, 1, 2, 4], ?_⟩
          conv => whnf
          refine ⟨i + 1, by omega, .inr ⟨by rw [hsu]; simp, ⟨rfl, rfl, hwi, trivial⟩, ?_⟩⟩
          rw [hsu, hK]
          rfl
    · rw [hfl, ltB_f (by omega)]
      obtain rfl : i = D.length := by omega
      exact absurd hK hnn
  · obtain ⟨fr, rfl⟩ := hh.split
    clear hh
    conv => whnf
    by_cases hlt : i < D.length
    · rw [hfl, ltB_t (by omega)]
      conv => whnf
      refine loop_drop (fun m fr st => ∃ k : Nat, m + k = D.length + 1 ∧ i < k ∧ k ≤ D.length ∧ st = [pboxO (.own 1) (.own 2), ⟨labR D, 1, true, true, false, .cell⟩, ⟨firR D, 1, true, true, false, .cell⟩, ⟨irows (nI (keysL D i)), 1, true, true, false, .cell⟩] ∧ Holds fr [(0, .ptr 0 0 0), (3, .own 3), (4, .int .i64 i), (5, .bool (partKey D i k)), (6, .int .i64 k)]) (D.length - i) none ?_ ?_
      · refine ⟨i + 1, by omega, by omega, by omega, rfl, rfl, rfl, rfl, ?_, ?_, trivial⟩
        · show V.bool true = _
          rw [show partKey D i (i + 1) = true by rw [partKey_iff]; intro x h1 h2; omega]
        · show V.int .i64 (IntKind.i64.wrap (i + 1)) = _
          rw [wrapA1 i (by omega)]
      rintro m fr st ⟨k, hm, hik, hkD, rfl, hh⟩
      obtain ⟨fr, rfl⟩ := hh.split
      clear hh
      conv => whnf
      by_cases hltk : k < D.length
      · rw [hfl, ltB_t (by omega)]
        conv => whnf
        have hps := partKey_succ D i k hik
        have fk := fir_fst hltk
        have fi := fir_fst hlt
        have hwk : V.int .i64 (IntKind.i64.wrap ((k : Int) + 1)) = .int .i64 (k + 1 : Nat) := by rw [wrapA1 k (by omega)]
        generalize partKey D i k = pk at hps
        refine draw_go hX ?_
        cases pk
        · conv => whnf
          refine ⟨m - 1, by omega, none, k + 1, by omega, by omega, by omega, rfl, rfl, rfl, rfl, ?_, hwk, trivial⟩
          rw [hps]; rfl
        · conv => whnf
          refine ⟨by omega, firR D, _, 1, rfl, fk, rfl, rfl, ?_⟩
          conv => whnf
          refine AtRow_intro _ fk ?_
          conv => whnf
          refine ⟨by omega, firR D, _, 1, rfl, fi, rfl, rfl, ?_⟩
          conv => whnf
          refine AtRow_intro _ fi ?_
          conv => whnf
          refine ⟨m - 1, by omega, none, k + 1, by omega, by omega, by omega, rfl, rfl, rfl, rfl, ?_, hwk, trivial⟩
          show V.bool (negB (eqB (fstOf D k : Int) (fstOf D i))) = _
          rw [hps]
          by_cases e : fstOf D k = fstOf D i
          · rw [eqB_t (by omega)]; simp [e, negB]
          · rw [eqB_f (by omega)]; simp [e, negB]
      · rw [hfl, ltB_f (by omega)]
        conv => whnf
        have hk : k = D.length := by omega
        have hps : partKey D i k = isKey D i := by rw [hk]; rfl
        have hsu := keysL_succ D i
        have hln := keysL_len D i
        have hwi : V.int .i64 (IntKind.i64.wrap ((i : Int) + 1)) = .int .i64 (i + 1 : Nat) := by rw [wrapA1 i (by omega)]
        rw [hps]
        generalize isKey D i = ik at hsu
        cases ik
        · conv => whnf
          simp only [Bool.false_eq_true, if_false, List.append_nil] at hsu
          exact ⟨n - 1, by omega, none, i + 1, by omega, .inr ⟨by rw [hsu]; exact hK, ⟨rfl, rfl, hwi, trivial⟩, by rw [hsu]; rfl⟩⟩
        · conv => whnf
          simp only [if_true] at hsu
          refine ⟨fun m hm => by rw [List.mem_singleton.1 hm]; rfl, ?_⟩
          conv => whnf
          refine ⟨by
            show ((irows (nI (keysL D i))).length + 1) * 8 ≤ _
            rw [irows_len, nI_len]; omega, ?_⟩
          conv => whnf
          refine ⟨n - 1, by omega, some [0, 1, 2, 5], ?_⟩
          conv => whnf
          refine ⟨i + 1, by omega, .inr ⟨by rw [hsu]; simp, ⟨rfl, rfl, hwi, trivial⟩, ?_⟩⟩
          rw [hsu, show nI (keysL D i ++ [i]) = nI (keysL D i) ++ [(i : Int)] by simp [nI], irows_append]
          rfl
    · rw [hfl, ltB_f (by omega)]
      obtain rfl : i = D.length := by omega
      conv => whnf
      refine ⟨[3], false, ?_⟩
      conv => whnf
      exact ⟨rfl, rfl⟩
end Go.Cod

namespace Go.Cod
open Go Go.Proofs
set_option linter.all false
set_option maxRecDepth 10000

theorem l5Fill_full (D E : List Th) (i j nC : Nat) (g0 : Nat → Nat → Int) (bC : Nat) (bsC : List Nat) (es0 : List (List V)) (hC0 : Tab es0 bC nC bsC E.length g0) (hnC : bsC.length = nC) (hnD : nC = D.length) (hD : Nest 0 D) (hE : Nest 0 E) (lD : D.length ≤ 1000) (lE : E.length ≤ 1000) (hi : i < D.length) (hj : j < E.length)
    (hlab : ∀ a ∈ D, ∀ b ∈ E, a.k ++ 34 :: a.t = b.k ++ 34 :: b.t ↔ a.k = b.k ∧ a.t = b.t)
    (hg : ∀ a b, fstOf D i ≤ a → a ≤ i → fstOf E j ≤ b → b ≤ j → (fstOf D i < fstOf D a ∨ fstOf E j < fstOf E b) → g0 a b = treeD D E a b) :
    Full Try.prog noY 29 [.ptr 0 0 0, .ptr 3 0 0, .int .i64 i, .int .i64 j, .dref bC nC nC] (fillS D E es0)
      fun o st' => ∃ es g, o = .ret (.tup []) ∧ Tab es bC nC bsC E.length g ∧ st' = fillS D E es ∧
        (∀ a b, a < D.length → b < E.length → ¬ (fstOf D i ≤ a ∧ fstOf E j ≤ b ∧ fstOf D a = fstOf D i ∧ fstOf E b = fstOf E j) → g a b = g0 a b) ∧
        (∀ a b, fstOf D i ≤ a → a ≤ i → fstOf E j ≤ b → b ≤ j → fstOf D a = fstOf D i → fstOf E b = fstOf E j → g a b = treeD D E a b) := by
  have hdi := List.getElem?_eq_getElem hi
  have hdj := List.getElem?_eq_getElem hj
  have fi := fstOf_get hdi
  have fj := fstOf_get hdj
  have li := hD.lamin.le i hi
  have lj := hE.lamin.le j hj
  have ci := hD.lamin.closed hi
  have cj := hE.lamin.closed hj
  generalize D[i] = di at *
  generalize E[j] = dj at *
  refine (l5Fill_run D E i j di.f dj.f (i + 1 - di.f) (j + 1 - dj.f) nC di dj g0 (cellD D E di.f dj.f) bC bsC es0 hC0 hnC hnD lD lE hdi hdj rfl rfl (by omega) (by omega) (by omega) (by omega) cellD_0 cellD_00 (fun x y hx hy => by have := cellD_le (D := D) (E := E) (l := di.f) (t := dj.f) x y; omega)
    (fun x a hx ha => ?_) (fun y b hy hb => ?_) (fun x y a b hx hy ha hb h => ?_) (fun x y a b hx hy ha hb h1 h2 => cellD_top hD hE ha hb h1 h2) hlab).mono ?_
  · have la := (List.getElem?_eq_some_iff.1 ha).1
    have := hD.lamin.le _ la
    have := ci (di.f + x) (by omega) (by omega)
    have := fstOf_get ha
    omega
  · have lb := (List.getElem?_eq_some_iff.1 hb).1
    have := hE.lamin.le _ lb
    have := cj (dj.f + y) (by omega) (by omega)
    have := fstOf_get hb
    omega
  · have la := (List.getElem?_eq_some_iff.1 ha).1
    have lb := (List.getElem?_eq_some_iff.1 hb).1
    have e1 := ci (di.f + x) (by omega) (by omega)
    have e2 := cj (dj.f + y) (by omega) (by omega)
    have f1 := fstOf_get ha
    have f2 := fstOf_get hb
    refine ⟨treeD D E (di.f + x) (dj.f + y), hg _ _ (by omega) (by omega) (by omega) (by omega) (by omega), ?_, cellD_tree hD hE ha hb (by omega) (by omega)⟩
    have := treeD_le hD hE la lb
    omega
  · rintro o st' ⟨es, g, rfl, hT, hF, rfl⟩
    refine ⟨es, g, rfl, hT, rfl, fun a b ha hb h => ?_, fun a b h1 h2 h3 h4 h5 h6 => ?_⟩
    · refine hF.old a b fun s t q1 q2 q3 q4 q5 q6 => h ?_
      have := fstOf_get q1
      have := fstOf_get q2
      omega
    · have ea := List.getElem?_eq_getElem (l := D) (i := a) (by omega)
      have eb := List.getElem?_eq_getElem (l := E) (i := b) (by omega)
      have ga := fstOf_get ea
      have gb := fstOf_get eb
      have ra : di.f + (a - di.f) = a := by omega
      have rb : dj.f + (b - dj.f) = b := by omega
      have := hF.new (a - di.f) (b - dj.f) D[a] E[b] (by rw [ra]; exact ea) (by rw [rb]; exact eb) (by omega) (by omega) (by omega) (by omega)
      rw [ra, rb] at this
      rw [this]
      unfold cellD treeD
      rw [h5, h6, fi, fj, show di.f + (a - di.f + 1) = a + 1 by omega, show dj.f + (b - dj.f + 1) = b + 1 by omega]
/-- Each thing's place has a key: the last one that begins where it does. -/
theorem key_of (D : List Th) (a : Nat) (ha : a < D.length) : ∃ k, k ∈ keysL D D.length ∧ a ≤ k ∧ fstOf D k = fstOf D a := by
  obtain ⟨m, hm⟩ : ∃ m, D.length - a = m := ⟨_, rfl⟩
  induction m using Nat.strongRecOn generalizing a with
  | ind m ih =>
    by_cases h : isKey D a = true
    · exact ⟨a, by unfold keysL; rw [List.mem_filter]; exact ⟨List.mem_range.2 ha, h⟩, Nat.le_refl _, rfl⟩
    · have h' : ¬ ∀ x, a < x → x < D.length → fstOf D x ≠ fstOf D a := fun H => h ((partKey_iff D a D.length).2 H)
      have : ∃ x, a < x ∧ x < D.length ∧ fstOf D x = fstOf D a := Classical.byContradiction fun hn => h' fun x h1 h2 e => hn ⟨x, h1, h2, e⟩
      obtain ⟨x, h1, h2, e⟩ := this
      obtain ⟨k, k1, k2, k3⟩ := ih (D.length - x) (by omega) x h2 rfl
      exact ⟨k, k1, by omega, k3.trans e⟩
theorem key_mem {D : List Th} {k : Nat} (h : k ∈ keysL D D.length) : k < D.length ∧ ∀ x, k < x → x < D.length → fstOf D x ≠ fstOf D k := by
  unfold keysL at h
  rw [List.mem_filter] at h
  exact ⟨List.mem_range.1 h.1, (partKey_iff D k D.length).1 h.2⟩
theorem key_one {D : List Th} {k k' : Nat} (h : k ∈ keysL D D.length) (h' : k' ∈ keysL D D.length) (e : fstOf D k = fstOf D k') : k = k' := by
  obtain ⟨a1, a2⟩ := key_mem h
  obtain ⟨b1, b2⟩ := key_mem h'
  rcases Nat.lt_trichotomy k k' with h | h | h
  · exact absurd e.symm (a2 k' h b1)
  · exact h
  · exact absurd e (b2 k h a1)
theorem keys_sorted (D : List Th) (n : Nat) : (keysL D n).Pairwise (· < ·) := by
  induction n with
  | zero => simp [keysL]
  | succ n ih =>
    rw [keysL_succ, List.pairwise_append]
    refine ⟨ih, by split <;> simp, fun a ha b hb => ?_⟩
    have h1 : a < n := by
      unfold keysL at ha
      rw [List.mem_filter] at ha
      exact List.mem_range.1 ha.1
    split at hb
    · simp at hb; omega
    · cases hb
theorem sorted_take {X : List Nat} (hX : X.Pairwise (· < ·)) {ix i k : Nat} (hi : X[ix]? = some i) (hk : k ∈ X) (h : k < i) : k ∈ X.take ix := by
  obtain ⟨t, ht⟩ := List.getElem?_of_mem hk
  have lt := (List.getElem?_eq_some_iff.1 ht).1
  have li := (List.getElem?_eq_some_iff.1 hi).1
  by_cases htx : t < ix
  · rw [List.mem_iff_getElem?]
    exact ⟨t, by rw [List.getElem?_take_of_lt htx]; exact ht⟩
  · exfalso
    rcases Nat.lt_or_ge ix t with h' | h'
    · have := List.pairwise_iff_getElem.1 hX ix t li lt h'
      rw [List.getElem?_eq_getElem lt] at ht
      rw [List.getElem?_eq_getElem li] at hi
      cases ht; cases hi; omega
    · have : t = ix := by omega
      subst this
      rw [hi] at ht; cases ht; omega
/-- What has been filled in, key by key. -/
def DoneK (D E : List Th) (ix iy : Nat) (g : Nat → Nat → Int) : Prop := ∀ a b ka kb, a < D.length → b < E.length → ka ∈ keysL D D.length → kb ∈ keysL E E.length → a ≤ ka → b ≤ kb → fstOf D ka = fstOf D a → fstOf E kb = fstOf E b →
  (ka ∈ (keysL D D.length).take ix ∨ ((keysL D D.length)[ix]? = some ka ∧ kb ∈ (keysL E E.length).take iy)) → g a b = treeD D E a b
theorem key_below {D : List Th} (hD : Nest 0 D) {i a ka : Nat} (hi : i ∈ keysL D D.length) (hka : ka ∈ keysL D D.length) (h1 : fstOf D i ≤ a) (h2 : a ≤ i) (h3 : a ≤ ka) (h4 : fstOf D ka = fstOf D a) (h5 : fstOf D i < fstOf D a) : ka < i := by
  obtain ⟨i1, i2⟩ := key_mem hi
  obtain ⟨k1, k2⟩ := key_mem hka
  have la := hD.lamin.le a (by omega)
  rcases Nat.lt_trichotomy ka i with h | h | h
  · exact h
  · subst h; omega
  · rcases hD.lamin.nest i ka h k1 with h' | h'
    · omega
    · omega
theorem DoneK.before {D E : List Th} (hD : Nest 0 D) (hE : Nest 0 E) {ix iy i j : Nat} {g : Nat → Nat → Int} (H : DoneK D E ix iy g) (hi : (keysL D D.length)[ix]? = some i) (hj : (keysL E E.length)[iy]? = some j) :
    ∀ a b, fstOf D i ≤ a → a ≤ i → fstOf E j ≤ b → b ≤ j → (fstOf D i < fstOf D a ∨ fstOf E j < fstOf E b) → g a b = treeD D E a b := by
  intro a b a1 a2 b1 b2 hab
  have mi := List.mem_of_getElem? hi
  have mj := List.mem_of_getElem? hj
  obtain ⟨i1, i2⟩ := key_mem mi
  obtain ⟨j1, j2⟩ := key_mem mj
  obtain ⟨ka, p1, p2, p3⟩ := key_of D a (by omega)
  obtain ⟨kb, q1, q2, q3⟩ := key_of E b (by omega)
  refine H a b ka kb (by omega) (by omega) p1 q1 p2 q2 p3 q3 ?_
  have ca := hD.lamin.closed i1 a a1 (by omega)
  by_cases hA : fstOf D i < fstOf D a
  · exact .inl (sorted_take (keys_sorted D _) hi p1 (key_below hD mi p1 a1 a2 p2 p3 hA))
  · have e : ka = i := key_one p1 mi (by omega)
    subst e
    exact .inr ⟨hi, sorted_take (keys_sorted E _) hj q1 (key_below hE mj q1 b1 b2 q2 q3 (by omega))⟩
theorem DoneK.after {D E : List Th} (hD : Nest 0 D) (hE : Nest 0 E) {ix iy i j : Nat} {g g' : Nat → Nat → Int} (H : DoneK D E ix iy g) (hi : (keysL D D.length)[ix]? = some i) (hj : (keysL E E.length)[iy]? = some j)
    (h1 : ∀ a b, a < D.length → b < E.length → ¬ (fstOf D i ≤ a ∧ fstOf E j ≤ b ∧ fstOf D a = fstOf D i ∧ fstOf E b = fstOf E j) → g' a b = g a b)
    (h2 : ∀ a b, fstOf D i ≤ a → a ≤ i → fstOf E j ≤ b → b ≤ j → fstOf D a = fstOf D i → fstOf E b = fstOf E j → g' a b = treeD D E a b) : DoneK D E ix (iy + 1) g' := by
  intro a b ka kb la lb p1 q1 p2 q2 p3 q3 h
  have mi := List.mem_of_getElem? hi
  have mj := List.mem_of_getElem? hj
  have fa := hD.lamin.le a la
  have fb := hE.lamin.le b lb
  by_cases hc : fstOf D a = fstOf D i ∧ fstOf E b = fstOf E j
  · have e1 : ka = i := key_one p1 mi (p3.trans hc.1)
    have e2 : kb = j := key_one q1 mj (q3.trans hc.2)
    exact h2 a b (by omega) (by omega) (by omega) (by omega) hc.1 hc.2
  · rw [h1 a b la lb (fun h => hc h.2.2)]
    refine H a b ka kb la lb p1 q1 p2 q2 p3 q3 ?_
    rcases h with h | ⟨h, h'⟩
    · exact .inl h
    · refine .inr ⟨h, ?_⟩
      rw [hi] at h; cases h
      have lj := (List.getElem?_eq_some_iff.1 hj).1
      rw [List.take_succ_eq_append_getElem lj] at h'
      rcases List.mem_append.1 h' with h' | h'
      · exact h'
      · exfalso
        simp at h'
        rw [List.getElem?_eq_getElem lj] at hj
        cases hj
        exact hc ⟨p3.symm, by rw [← q3, h']⟩
theorem DoneK.next {D E : List Th} {ix : Nat} {g : Nat → Nat → Int} (H : DoneK D E ix (keysL E E.length).length g) (hl : ix < (keysL D D.length).length) : DoneK D E (ix + 1) 0 g := by
  intro a b ka kb la lb p1 q1 p2 q2 p3 q3 h
  refine H a b ka kb la lb p1 q1 p2 q2 p3 q3 ?_
  rcases h with h | ⟨_, h⟩
  · rw [List.take_succ_eq_append_getElem hl] at h
    rcases List.mem_append.1 h with h | h
    · exact .inl h
    · simp at h
      refine .inr ⟨by rw [List.getElem?_eq_getElem hl, h], ?_⟩
      rw [List.take_length]; exact q1
  · simp at h
theorem DoneK.all {D E : List Th} {g : Nat → Nat → Int} {iy : Nat} (H : DoneK D E (keysL D D.length).length iy g) (hD : D ≠ []) (hE : E ≠ []) : g (D.length - 1) (E.length - 1) = treeD D E (D.length - 1) (E.length - 1) := by
  have ld := List.length_pos_iff.2 hD
  have le := List.length_pos_iff.2 hE
  obtain ⟨ka, p1, p2, p3⟩ := key_of D (D.length - 1) (by omega)
  obtain ⟨kb, q1, q2, q3⟩ := key_of E (E.length - 1) (by omega)
  refine H _ _ ka kb (by omega) (by omega) p1 q1 p2 q2 p3 q3 (.inl ?_)
  rw [List.take_length]; exact p1
end Go.Cod

namespace Go.Cod
open Go Go.Proofs
set_option linter.all false
set_option maxRecDepth 10000

theorem lower_no34 {s : List UInt8} (h : lower s = true) : (34 : UInt8) ∉ s := by
  intro hm
  unfold lower at h
  rw [List.all_eq_true] at h
  have := h 34 hm
  revert this
  decide
mutual
theorem plainT_no34 : ∀ (t : T) (lv : Int) (n : Nat), plainT t lv = true → ∀ h ∈ postT n t, (34 : UInt8) ∉ h.k
  | .mk id k x ks, lv, n, hp, h, hm => by
    simp only [plainT, Bool.and_eq_true] at hp
    simp only [postT] at hm
    rcases List.mem_append.1 hm with hm | hm
    · exact plainL_no34 ks (lv + 1) n hp.2 h hm
    · simp at hm
      subst hm
      have := hp.1.1.2
      unfold nameL at this
      simp only [Bool.and_eq_true] at this
      exact lower_no34 this.1
theorem plainL_no34 : ∀ (ts : List T) (lv : Int) (n : Nat), plainL ts lv = true → ∀ h ∈ postL n ts, (34 : UInt8) ∉ h.k
  | [], _, _, _, h, hm => by simp [postL] at hm
  | t :: ts, lv, n, hp, h, hm => by
    simp only [plainL, Bool.and_eq_true] at hp
    simp only [postL] at hm
    rcases List.mem_append.1 hm with hm | hm
    · exact plainT_no34 t lv n hp.1 h hm
    · exact plainL_no34 ts lv _ hp.2 h hm
end
theorem split34 : ∀ {k k' t t' : List UInt8}, (34 : UInt8) ∉ k → (34 : UInt8) ∉ k' → k ++ 34 :: t = k' ++ 34 :: t' → k = k' ∧ t = t'
  | [], [], _, _, _, _, h => by simp at h; exact ⟨rfl, h⟩
  | [], c :: k', t, t', _, h2, h => by
    simp only [List.nil_append, List.cons_append, List.cons.injEq] at h
    exact absurd (by rw [h.1]; simp) h2
  | c :: k, [], t, t', h1, _, h => by
    simp only [List.nil_append, List.cons_append, List.cons.injEq] at h
    exact absurd (by rw [h.1]; simp) h1
  | c :: k, c' :: k', t, t', h1, h2, h => by
    simp only [List.cons_append, List.cons.injEq] at h
    obtain ⟨e1, e2⟩ := split34 (fun hm => h1 (List.mem_cons_of_mem _ hm)) (fun hm => h2 (List.mem_cons_of_mem _ hm)) h.2
    exact ⟨by rw [h.1, e1], e2⟩
theorem labels_ok {a b : T} (ha : okT a = true) (hb : okT b = true) : ∀ x ∈ postT 0 a, ∀ y ∈ postT 0 b, x.k ++ 34 :: x.t = y.k ++ 34 :: y.t ↔ x.k = y.k ∧ x.t = y.t := by
  intro x hx y hy
  unfold okT at ha hb
  simp only [Bool.and_eq_true] at ha hb
  exact ⟨split34 (plainT_no34 a 1 0 ha.1.1 x hx) (plainT_no34 b 1 0 hb.1.1 y hy), fun h => by rw [h.1, h.2]⟩
def bx4 (t : T) : O := ⟨[t.cells], 4, true, true, true, .cell⟩
def costS (a b : T) (D E : List Th) (es : List (List V)) : St := [poolO es, bx4 a, bx4 b, pboxO (.own 5) (.own 6), pboxO (.own 7) (.own 8), ⟨labR D, 1, true, true, false, .cell⟩, ⟨firR D, 1, true, true, false, .cell⟩, ⟨labR E, 1, true, true, false, .cell⟩, ⟨firR E, 1, true, true, false, .cell⟩]
def costS2 (a b : T) (D E : List Th) (es : List (List V)) : St := [poolO es, bx4 a, bx4 b, pboxO (.own 5) (.own 6), pboxO (.own 7) (.own 8), ⟨labR D, 1, true, true, false, .cell⟩, ⟨firR D, 1, true, true, false, .cell⟩, ⟨labR E, 1, true, true, false, .cell⟩, ⟨firR E, 1, true, true, false, .cell⟩,
  ⟨irows (nI (keysL D D.length)), 1, true, true, false, .cell⟩, ⟨irows (nI (keysL E E.length)), 1, true, true, false, .cell⟩]
theorem nI_get {l : List Nat} {i k : Nat} (h : l[i]? = some k) : (irows (nI l))[i]? = some [.int .i64 (k : Nat)] := by
  simp [irows, nI, h]
set_option maxHeartbeats 8000000 in
theorem specDiffCost_full (a b : T) (ha : a.Small) (hb : b.Small) (na : a.ids.length ≤ 1048577) (nb : b.ids.length ≤ 1048577) : Full Try.prog noY 10 [.agg a.cells, .agg b.cells] [poolO []] fun o st' => ∃ es, o = .ret (.int .i64 (diffCost a b)) ∧ st' = [poolO es] := by
  have h1 := specTreeOk_pure a ha na
  have h2 := specTreeOk_pure b hb nb
  have hd : diffCost a b = if okT a && okT b then ((costT a b : Nat) : Int) else -1 := rfl
  have hla := @okT_nT a
  have hlb := @okT_nT b
  have hab := @labels_ok a b
  have hta := fun h => add_nil a ha h
  have htb := fun h => add_nil b hb h
  unfold AddN at hta htb
  have hDn := postT_nest 0 a
  have hEn := postT_nest 0 b
  have hDl := postT_len 0 a
  have hEl := postT_len 0 b
  have hct := costT_tree a b
  have hpa := nT_pos a
  have hpb := nT_pos b
  generalize diffCost a b = R at *
  generalize okT a = ra at *
  generalize okT b = rb at *
  generalize postT 0 a = D at *
  generalize postT 0 b = E at *
  generalize nT a = n at *
  generalize nT b = m at *
  subst hDl; subst hEl
  rw [hct] at hd
  clear hct
  have hD0 : D ≠ [] := List.length_pos_iff.1 hpa
  have hE0 : E ≠ [] := List.length_pos_iff.1 hpb
  obtain ⟨ai, ak, ax, aks⟩ := a
  obtain ⟨bi, bk, bx, bks⟩ := b
  refine full_of_draw good Try.func10 rfl (by kernel_rfl) (by decide) fun X hX => ?_
  conv => whnf
  refine .inl (h1.mono ?_)
  rintro r rfl
  cases ra
  · conv => whnf
    refine ⟨[], false, ?_⟩
    conv => whnf
    exact ⟨[], by rw [hd]; rfl, rfl⟩
  conv => whnf
  refine .inl (h2.mono ?_)
  rintro r rfl
  cases rb
  · conv => whnf
    refine ⟨[], false, ?_⟩
    conv => whnf
    exact ⟨[], by rw [hd]; rfl, rfl⟩
  have hla := hla rfl
  have hlb := hlb rfl
  have hab := hab rfl rfl
  have hta := hta (by omega)
  have htb := htb (by omega)
  simp only [Bool.and_self, if_true] at hd
  conv => whnf
  refine ⟨[3], true, ?_⟩
  conv => whnf
  refine hta.mono ?_
  rintro o st' ⟨rfl, rfl⟩
  conv => whnf
  refine ⟨[4], true, ?_⟩
  conv => whnf
  refine htb.mono ?_
  rintro o st' ⟨rfl, rfl⟩
  conv => whnf
  rw [labR_len]
  refine semMake (k := 0) (m := D.length) good rfl rfl rfl rfl rfl rfl rfl rfl (by show D.length * 24 ≤ _; omega) (by omega) fun t htf => ?_
  have hT := Tab.begin [] t D.length E.length (fun _ _ => 0)
  simp only [List.nil_append] at hT
  conv => whnf
  refine loop_drop (fun n fr st => ∃ (bs : List Nat) (es : List (List V)), n + bs.length = D.length ∧ st = costS (.mk ai ak ax aks) (.mk bi bk bx bks) D E es ∧ Tab es t D.length bs E.length (fun _ _ => 0) ∧
      Holds fr [(5, .ptr 3 0 0), (6, .ptr 4 0 0), (7, .dref t D.length D.length), (38, .int .i64 D.length), (39, .int .i64 bs.length)]) D.length none ?_ ?_
  · exact ⟨[], _, rfl, rfl, hT, rfl, rfl, rfl, rfl, rfl, trivial⟩
  clear hT htf
  rintro n fr st ⟨bs, es, hk, rfl, hT, hh⟩
  obtain ⟨fr, rfl⟩ := hh.split
  clear hh
  conv => whnf
  by_cases hlt : bs.length < D.length
  · rw [ltB_t (by omega)]
    conv => whnf
    rw [labR_len]
    refine semMake (k := 0) (m := E.length) good rfl rfl rfl rfl rfl rfl rfl rfl (by show E.length * 8 ≤ _; omega) (by omega) fun x hx => ?_
    have hG := hT.grow hlt (fun _ => rfl) hx
    conv => whnf
    refine ⟨by omega, by omega, ?_⟩
    conv => whnf
    refine ⟨0, D.length, rootR D.length bs E.length, [.nils], _, List.mem_append_left _ hT.root, rootR_nil hlt, rfl, ?_⟩
    conv => whnf
    refine ⟨n - 1, by omega, none, bs ++ [x], _, by simp; omega, rfl, hG, rfl, rfl, rfl, rfl, ?_, trivial⟩
    show V.int .i64 (IntKind.i64.wrap (bs.length + 1)) = _
    rw [wrapA1 bs.length (by omega)]; simp
  rw [ltB_f (by omega)]
  have hbl : bs.length = D.length := by have := hT.le; omega
  have hkD := keys_full D hD0 (by omega)
  have hkE := keys_full E hE0 (by omega)
  have hXl := keysL_len D D.length
  have hYl := keysL_len E E.length
  conv => whnf
  refine ⟨[3, 5, 6], false, ?_⟩
  conv => whnf
  refine hkD.mono ?_
  rintro o st' ⟨rfl, rfl⟩
  conv => whnf
  refine ⟨[4, 7, 8], false, ?_⟩
  conv => whnf
  refine hkE.mono ?_
  rintro o st' ⟨rfl, rfl⟩
  conv => whnf
  refine loop_drop (fun n fr st => ∃ (ix : Nat) (es : List (List V)) (g : Nat → Nat → Int), n + ix = (keysL D D.length).length ∧ st = costS2 (.mk ai ak ax aks) (.mk bi bk bx bks) D E es ∧ Tab es t D.length bs E.length g ∧ DoneK D E ix 0 g ∧
      Holds fr [(5, .ptr 3 0 0), (6, .ptr 4 0 0), (7, .dref t D.length D.length), (9, .own 9), (10, .own 10), (11, .int .i64 ix)]) (keysL D D.length).length none ?_ ?_
  · exact ⟨0, es, _, rfl, rfl, hT, (fun a b ka kb _ _ _ _ _ _ _ _ h => by simp at h), rfl, rfl, rfl, rfl, rfl, rfl, trivial⟩
  clear hT hlt hk es hkD hkE
  rintro n fr st ⟨ix, es, g, hk, rfl, hT, hK, hh⟩
  obtain ⟨fr, rfl⟩ := hh.split
  clear hh
  conv => whnf
  rw [irows_len, nI_len]
  by_cases hlx : ix < (keysL D D.length).length
  · rw [ltB_t (by omega)]
    conv => whnf
    refine loop_drop (fun n fr st => ∃ (iy : Nat) (es : List (List V)) (g : Nat → Nat → Int), n + iy = (keysL E E.length).length ∧ st = costS2 (.mk ai ak ax aks) (.mk bi bk bx bks) D E es ∧ Tab es t D.length bs E.length g ∧ DoneK D E ix iy g ∧
        Holds fr [(5, .ptr 3 0 0), (6, .ptr 4 0 0), (7, .dref t D.length D.length), (9, .own 9), (10, .own 10), (11, .int .i64 ix), (12, .int .i64 iy)]) (keysL E E.length).length none ?_ ?_
    · exact ⟨0, es, g, rfl, rfl, hT, hK, rfl, rfl, rfl, rfl, rfl, rfl, rfl, trivial⟩
    clear hT hK es g
    rintro m fr st ⟨iy, es, g, hm, rfl, hT, hK, hh⟩
    obtain ⟨fr, rfl⟩ := hh.split
    clear hh
    conv => whnf
    rw [irows_len, nI_len]
    by_cases hly : iy < (keysL E E.length).length
    · rw [ltB_t (by omega)]
      conv => whnf
      obtain ⟨i, hi⟩ : ∃ i, (keysL D D.length)[ix]? = some i := ⟨_, List.getElem?_eq_getElem hlx⟩
      obtain ⟨j, hj⟩ : ∃ j, (keysL E E.length)[iy]? = some j := ⟨_, List.getElem?_eq_getElem hly⟩
      have mi := (key_mem (List.mem_of_getElem? hi)).1
      have mj := (key_mem (List.mem_of_getElem? hj)).1
      have gi := nI_get hi
      have gj := nI_get hj
      have hfill := l5Fill_full D E i j D.length g t bs es hT hbl rfl hDn hEn (by omega) (by omega) mi mj hab (hK.before hDn hEn hi hj)
      refine draw_with hX [(5, .ptr 3 0 0), (6, .ptr 4 0 0), (7, .dref t D.length D.length), (9, .own 9), (10, .own 10), (11, .int .i64 ix), (12, .int .i64 iy)] ⟨rfl, rfl, rfl, rfl, rfl, rfl, rfl, trivial⟩ fun C hC fr => ?_
      conv => whnf
      refine ⟨by omega, _, _, 1, rfl, gi, rfl, rfl, ?_⟩
      conv => whnf
      refine AtRow_intro _ gi ?_
      conv => whnf
      refine ⟨by omega, _, _, 1, rfl, gj, rfl, rfl, ?_⟩
      conv => whnf
      refine AtRow_intro _ gj ?_
      conv => whnf
      refine ⟨[3, 5, 6, 4, 7, 8, 0], false, ?_⟩
      conv => whnf
      refine hfill.mono ?_
      rintro o st' ⟨es1, g1, rfl, hT1, rfl, q1, q2⟩
      have hK1 := hK.after hDn hEn hi hj q1 q2
      have hwy : V.int .i64 (IntKind.i64.wrap ((iy : Int) + 1)) = .int .i64 (iy + 1 : Nat) := by rw [wrapA1 iy (by omega)]
      conv => whnf
      refine hC _ _ ?_
      conv => whnf
      exact ⟨m - 1, by omega, none, iy + 1, es1, g1, by omega, rfl, hT1, hK1, rfl, rfl, rfl, rfl, rfl, rfl, hwy, trivial⟩
    · rw [ltB_f (by omega)]
      have hiy : iy = (keysL E E.length).length := by omega
      subst hiy
      conv => whnf
      refine ⟨n - 1, by omega, none, ix + 1, es, g, by omega, rfl, hT, hK.next hlx, rfl, rfl, rfl, rfl, rfl, ?_, trivial⟩
      show V.int .i64 (IntKind.i64.wrap (ix + 1)) = _
      rw [wrapA1 ix (by omega)]
  · rw [ltB_f (by omega)]
    have hix : ix = (keysL D D.length).length := by omega
    subst hix
    have hfin := hK.all hD0 hE0
    conv => whnf
    refine draw_go hX ?_
    conv => whnf
    rw [labR_len]
    obtain ⟨x, hx, hx1, hx2⟩ := hT.at (i := D.length - 1) (by omega)
    have w1 := wrapS1 D.length (by omega) (by omega)
    have w2 := wrapS1 E.length (by omega) (by omega)
    refine ⟨by rw [w1]; omega, by rw [w1]; omega, ?_⟩
    conv => whnf
    refine ⟨0, D.length, _, _, hT.root, by rw [w1]; exact hx1, ?_⟩
    conv => whnf
    rw [labR_len]
    refine ⟨by rw [w2]; omega, by rw [w2]; omega, ?_⟩
    conv => whnf
    refine ⟨0, E.length, _, _, hx2, by rw [w2]; exact numR_get _ (by omega), ?_⟩
    conv => whnf
    refine ⟨[], false, ?_⟩
    conv => whnf
    exact ⟨es, by rw [hd, ← hfin]; rfl, rfl⟩
theorem specDiffCost_pure (a b : T) (ha : a.Small) (hb : b.Small) (na : a.ids.length ≤ 1048577) (nb : b.ids.length ≤ 1048577) : Pure Try.prog 10 [.agg a.cells, .agg b.cells] (· = .int .i64 (diffCost a b)) := by
  refine Full.freeze (Full.start (st0 := []) (specDiffCost_full a b ha hb na nb)) ?_
  rintro o st' ⟨es, rfl, rfl⟩
  exact ⟨_, _, _, rfl, rfl, .same _, rfl, rfl⟩
end Go.Cod

namespace Go.Cod
open Go Go.Proofs Go.ChangeShapes Go.WideShapes Go.ChangeAt Go.RowKit
set_option linter.all false
set_option maxRecDepth 10000

set_option maxHeartbeats 8000000 in
theorem lawFnExactDiffCost (a : T) (ha : a.Ok) (b : T) (hb : b.Ok) : Pure Try.prog 7 [.agg a.cells, .agg b.cells] (· = .bool true) := by
  have z1 := szT_pure a ha 1048576 (by omega) (by omega)
  have m1 := small_of_sz a ha 1048576 (by omega)
  have l1 := szT_le a 1048576 (by omega)
  have i1 := ids_sz a 1048576
  have z2 := szT_pure b hb (szT a 1048576)
  have m2 := small_of_sz b hb (szT a 1048576)
  have i2 := ids_sz b (szT a 1048576)
  have t1 := toTree_pure a
  have t2 := toTree_pure b
  have e1 := eqTree_pure a
  have e2 := eqTree_pure b
  have s1 := specDiffCost_pure a b
  have f1 := implDiffCost_pure a b
  generalize diffCost a b = r at *
  generalize szT b (szT a 1048576) = n2 at *
  generalize szT a 1048576 = n1 at *
  have heq : negB (eqB r r) = false := by rw [eqB_refl]; rfl
  obtain ⟨ai, ak, ax, as1⟩ := a
  obtain ⟨bi, bk, bx, bs1⟩ := b
  refine pure_of_box good Try.func7 rfl (by kernel_rfl) (by decide) fun A hA => ?_
  conv => whnf
  refine box_cut hA 1 fun K1 hK1 => ?_
  conv => whnf
  refine hK1 _ [⟨[[.int .i64 ai, .str ak, .str ax, .sl (T.rows as1)]], 4, true, true, true, .cell⟩] ?_
  clear hK1 K1
  refine box_cut hA 1 fun K1 hK1 => ?_
  conv => whnf
  refine hK1 _ [⟨[[.int .i64 ai, .str ak, .str ax, .sl (T.rows as1)]], 4, true, true, true, .cell⟩, ⟨[[.int .i64 bi, .str bk, .str bx, .sl (T.rows bs1)]], 4, true, true, true, .cell⟩] ?_
  clear hK1 K1
  refine box_with hA [(2, .ptr 0 0 0), (3, .ptr 1 0 0)] ⟨rfl, rfl, trivial⟩ fun fr => ?_
  conv => whnf
  refine box_with hA [(2, .ptr 0 0 0), (3, .ptr 1 0 0)] ⟨rfl, rfl, trivial⟩ fun fr => ?_
  conv => whnf
  refine box_with hA [(2, .ptr 0 0 0), (3, .ptr 1 0 0), (5, .int .i64 1048576)] ⟨rfl, rfl, rfl, trivial⟩ fun fr => ?_
  conv => whnf
  refine .inl (z1.mono ?_)
  rintro r rfl
  conv => whnf
  refine box_with hA [(2, .ptr 0 0 0), (3, .ptr 1 0 0), (5, .int .i64 n1)] ⟨rfl, rfl, rfl, trivial⟩ fun fr => ?_
  conv => whnf
  by_cases c1 : n1 < 0
  · rw [ltB_t c1]
    conv => whnf
    refine box_go hA ?_
    conv => whnf
  rw [ltB_f (by omega)]
  have S1 := m1 (by omega)
  conv => whnf
  refine box_with hA [(2, .ptr 0 0 0), (3, .ptr 1 0 0), (5, .int .i64 n1)] ⟨rfl, rfl, rfl, trivial⟩ fun fr => ?_
  conv => whnf
  refine .inl ((z2 (by omega) (by omega)).mono ?_)
  rintro r rfl
  conv => whnf
  refine box_with hA [(2, .ptr 0 0 0), (3, .ptr 1 0 0), (5, .int .i64 n2)] ⟨rfl, rfl, rfl, trivial⟩ fun fr => ?_
  conv => whnf
  by_cases c2 : n2 < 0
  · rw [ltB_t c2]
    conv => whnf
    refine box_go hA ?_
    conv => whnf
  rw [ltB_f (by omega)]
  have S2 := m2 (by omega) (by omega)
  have t1 := t1 S1
  have t2 := t2 S2
  have e1 := e1 S1
  have e2 := e2 S2
  have s1 := s1 S1 S2 (by have := i1 (by omega); omega) (by have := i2 (by omega); omega)
  have f1 := f1 S1 S2
  conv => whnf
  repeat' (first
    | (refine ⟨_, .inl t1, ?_⟩
       conv => whnf)
    | (refine ⟨_, .inl t2, ?_⟩
       conv => whnf)
    | (refine ⟨_, .inl s1, ?_⟩
       conv => whnf))
  refine box_cutw hA 2 [(2, .ptr 0 0 0), (3, .ptr 1 0 0), (6, .int .i64 r)] ⟨rfl, rfl, rfl, trivial⟩ fun K1 hK1 fr => ?_
  conv => whnf
  refine .inl (t1.mono ?_)
  rintro r rfl
  conv => whnf
  refine hK1 _ [⟨[[.int .i64 ai, .str ak, .str ax, .sl (T.rows as1)]], 4, true, true, true, .cell⟩, ⟨[[.int .i64 bi, .str bk, .str bx, .sl (T.rows bs1)]], 4, true, true, true, .cell⟩] ?_
  clear hK1 K1
  refine box_cutw hA 1 [(2, .ptr 0 0 0), (3, .ptr 1 0 0), (6, .int .i64 r), (26, .agg (T.mk ai ak ax as1).cells)] ⟨rfl, rfl, rfl, rfl, trivial⟩ fun K1 hK1 fr => ?_
  conv => whnf
  refine hK1 _ [⟨[[.int .i64 ai, .str ak, .str ax, .sl (T.rows as1)]], 4, true, true, true, .cell⟩, ⟨[[.int .i64 bi, .str bk, .str bx, .sl (T.rows bs1)]], 4, true, true, true, .cell⟩, ⟨[zrow], 4, true, true, true, .cell⟩] ?_
  clear hK1 K1
  refine box_with hA [(2, .ptr 0 0 0), (3, .ptr 1 0 0), (6, .int .i64 r), (7, .ptr 2 0 0), (26, .agg (T.mk ai ak ax as1).cells)] ⟨rfl, rfl, rfl, rfl, rfl, trivial⟩ fun fr => ?_
  conv => whnf
  refine box_cutw hA 2 [(2, .ptr 0 0 0), (3, .ptr 1 0 0), (6, .int .i64 r), (7, .ptr 2 0 0)] ⟨rfl, rfl, rfl, rfl, trivial⟩ fun K1 hK1 fr => ?_
  conv => whnf
  refine .inl (t2.mono ?_)
  rintro r rfl
  conv => whnf
  refine hK1 _ [⟨[[.int .i64 ai, .str ak, .str ax, .sl (T.rows as1)]], 4, true, true, true, .cell⟩, ⟨[[.int .i64 bi, .str bk, .str bx, .sl (T.rows bs1)]], 4, true, true, true, .cell⟩, ⟨[[.int .i64 ai, .str ak, .str ax, .sl (T.rows as1)]], 4, true, true, true, .cell⟩] ?_
  clear hK1 K1
  refine box_cutw hA 1 [(2, .ptr 0 0 0), (3, .ptr 1 0 0), (6, .int .i64 r), (7, .ptr 2 0 0), (28, .agg (T.mk bi bk bx bs1).cells)] ⟨rfl, rfl, rfl, rfl, rfl, trivial⟩ fun K1 hK1 fr => ?_
  conv => whnf
  refine hK1 _ [⟨[[.int .i64 ai, .str ak, .str ax, .sl (T.rows as1)]], 4, true, true, true, .cell⟩, ⟨[[.int .i64 bi, .str bk, .str bx, .sl (T.rows bs1)]], 4, true, true, true, .cell⟩, ⟨[[.int .i64 ai, .str ak, .str ax, .sl (T.rows as1)]], 4, true, true, true, .cell⟩, ⟨[zrow], 4, true, true, true, .cell⟩] ?_
  clear hK1 K1
  refine box_with hA [(2, .ptr 0 0 0), (3, .ptr 1 0 0), (6, .int .i64 r), (7, .ptr 2 0 0), (8, .ptr 3 0 0), (28, .agg (T.mk bi bk bx bs1).cells)] ⟨rfl, rfl, rfl, rfl, rfl, rfl, trivial⟩ fun fr => ?_
  conv => whnf
  refine box_with hA [(2, .ptr 0 0 0), (3, .ptr 1 0 0), (6, .int .i64 r), (7, .ptr 2 0 0), (8, .ptr 3 0 0)] ⟨rfl, rfl, rfl, rfl, rfl, trivial⟩ fun fr => ?_
  conv => whnf
  refine .inl (f1.mono ?_)
  rintro r rfl
  conv => whnf
  refine box_with hA [(2, .ptr 0 0 0), (3, .ptr 1 0 0), (6, .int .i64 r), (7, .ptr 2 0 0), (8, .ptr 3 0 0), (9, .int .i64 r)] ⟨rfl, rfl, rfl, rfl, rfl, rfl, trivial⟩ fun fr => ?_
  conv => whnf
  rw [heq]
  conv => whnf
  repeat' (first
    | (refine ⟨_, .inl t1, ?_⟩
       conv => whnf)
    | (refine ⟨_, .inl e1, ?_⟩
       conv => whnf))
  repeat' (first
    | (refine ⟨_, .inl t2, ?_⟩
       conv => whnf)
    | (refine ⟨_, .inl e2, ?_⟩
       conv => whnf))
  refine box_with hA [(2, .ptr 0 0 0), (3, .ptr 1 0 0)] ⟨rfl, rfl, trivial⟩ fun fr => ?_
  conv => whnf

theorem ownK : ownKnob Try.prog.godebug = none := by kernel_rfl
theorem argTree {H : Type} {enc : TypeId × Value → H} {W : World} : ReadsA enc Try.prog W 44 fun x => ∃ vs, x = .agg vs ∧ ∃ t : T, vs = t.cells ∧ t.Ok := readsA_agg Try.underlying44 fun n => reads_tree n

theorem conFnExactDiffCost (H : Type) (enc : TypeId × Value → H) (W : World) (base : Nat) (args : Array Value) (ds gs : List (DataW H)) (before : List MemPlace)
    (hval : ∀ (j : Nat) t v, Try.f7.params[j]? = some t → args[j]? = some v → Value.okWide Try.prog W .any base t v)
    (hW : DataW.Whole enc Try.prog Try.f7.params.toList Ytijfonhgojfmkaa.Rows.fnExactDiffCostSpec.vars false W args.toList ds gs before) {fresh handsOn again : Bool} :
    Calls Try.prog 7 args W fun e W' => ∃ v, e = .returned v ∧ Ytijfonhgojfmkaa.Rows.fnExactDiffCostSpec.post enc Try.prog Try.f7 false fresh handsOn again W args v W' := by
  refine law_calls kids full (tb := 4) rfl Try.underlying4 (by decide +kernel) rfl hW (fun ds h => by match ds, h with | [_, _], _ => exact ⟨rfl, rfl, rfl⟩) hval
    (Ss := [fun x => ∃ vs, x = .agg vs ∧ ∃ t : T, vs = t.cells ∧ t.Ok, fun x => ∃ vs, x = .agg vs ∧ ∃ t : T, vs = t.cells ∧ t.Ok]) laid0 ?_ ?_
  · rw [Try.params7]
    exact ⟨argTree, argTree, trivial⟩
  · intro xs h
    obtain ⟨_, _, rfl, ⟨_, rfl, t0, rfl, h0⟩, ⟨_, rfl, t1, rfl, h1⟩⟩ := hold2 h
    exact lawFnExactDiffCost t0 h0 t1 h1

set_option maxRecDepth 100000 in
theorem overFnExactDiffCost : Ytijfonhgojfmkaa.Rows.FnExactDiffCostSaid :=
  OpenClaim.holds_of_wide 7 Try.f7 rfl rfl rfl rfl rfl rfl rfl ⟨rfl, rfl, rfl, rfl, rfl⟩ rfl rfl rfl rfl rfl (by kernel_rfl) Try.func7 (by kernel_rfl)
    (of_decide_eq_true (by kernel_rfl)) (by unfold Func.isWrapper; first | (rw [if_pos (by decide +kernel)]; kernel_rfl) | (rw [if_neg (by decide +kernel)]; exact ⟨rfl, rfl⟩))
    (fun os started H enc _ => returnsInHanded_of_change ownK started (by kernel_rfl) Try.func7
      (ChangeSpec.witness6 (enc := enc) (C := Try.checked) false ⟨#[], #[.agg #[.int .i64 0, .string "".toByteArray, .string "".toByteArray, .slice none 0 0], .agg #[.int .i64 0, .string "".toByteArray, .string "".toByteArray, .slice none 0 0]], []⟩ 8 (by kernel_rfl) (by kernel_rfl) (by kernel_rfl) (by kernel_rfl))
      (fun W base args ds gs before hval hW _ _ => conFnExactDiffCost H enc W base args ds gs before hval hW))
end Go.Cod

