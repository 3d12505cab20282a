/- Own texts. -/
import Derived.WalkKit
import Derived.ProofKit
import Derived.Test.YtgnnacognpkgoaaCodF
namespace Go.Cod
open Go Go.Proofs
set_option linter.all false
set_option maxRecDepth 10000

set_option maxHeartbeats 8000000 in
theorem node_tf (wi : Int) (wk wx : List UInt8) (wks : List T) (ik ix : List UInt8) (iks : List T) (lw : wks.length ≤ 1048576) (li : iks.length ≤ 1048576) (h4 : wk.length ≤ 1048576) (hws : (T.mk wi wk wx wks).Small) (his : ∀ t ∈ iks, t.Small) (hwn : (T.mk wi wk wx wks).ids.Nodup)
    (ih : ∀ k ∈ iks, k.id ∈ wks.map T.id → ∀ es h1 h2 h3 c s p, D3 es h1 h2 h3 c s p → c.length + (cutsL (kidIn wks k.id) k).length ≤ 1000000 → s.length + (setsL (kidIn wks k.id) k).length ≤ 1000000 → p.length + (sputT (kidIn wks k.id) k).length ≤ 1000000 →
      Full Try.prog noY 36 [.ptr 0 0 0, .agg (kidIn wks k.id).cells, .agg k.cells] [dbox (hdV h1 c.length) (hdV h2 s.length) (hdV h3 p.length), poolO es] (NodeR (kidIn wks k.id) k c s p))
    (e1 : wk = ik) (e2 : wx ≠ ix) (es : List (List V)) (h1 h2 h3 : Option (Nat × Nat)) (c s p : List Stp) (hD : D3 es h1 h2 h3 c s p) (bc : c.length + (cutsL (.mk wi wk wx wks) (.mk wi ik ix iks)).length ≤ 1000000) (bs : s.length + (setsL (.mk wi wk wx wks) (.mk wi ik ix iks)).length ≤ 1000000) (bp : p.length + (sputT (.mk wi wk wx wks) (.mk wi ik ix iks)).length ≤ 1000000) :
    Full Try.prog noY 36 [.ptr 0 0 0, .agg (T.mk wi wk wx wks).cells, .agg (T.mk wi ik ix iks).cells] [dbox (hdV h1 c.length) (hdV h2 s.length) (hdV h3 p.length), poolO es] (NodeR (.mk wi wk wx wks) (.mk wi ik ix iks) c s p) := by
  have n1 := l5Numbers_pure (.mk wi wk wx wks) lw
  have n2 := l5Numbers_pure (.mk wi ik ix iks) li
  rw [show (T.mk wi wk wx wks).kidIds = wks.map T.id from rfl] at n1
  rw [show (T.mk wi ik ix iks).kidIds = iks.map T.id from rfl] at n2
  have n3 := l5Both_pure (wks.map T.id) (iks.map T.id) (by rw [List.length_map]; omega) (by rw [List.length_map]; omega)
  have hsub := lcs_sub _ (wks.map T.id) (iks.map T.id) (Nat.le_refl _)
  have hcut : cutsL (.mk wi wk wx wks) (.mk wi ik ix iks) = ((wks.filter fun k => !decide (k.id ∈ lcs (wks.map T.id) (iks.map T.id))).map fun k => cutStp k.id) ++ (pairsL (.mk wi wk wx wks) (lcs (wks.map T.id) (iks.map T.id)) iks).flatMap fun p => cutsOf (locB p) p := by
    unfold cutsL; rw [pairsT, List.flatMap_cons]; rfl
  have hset : setsL (.mk wi wk wx wks) (.mk wi ik ix iks) = ((if wk ≠ ik then [⟨4, wi, 0, TZ, ik⟩] else []) ++ (if wx ≠ ix then [⟨3, wi, 0, TZ, ix⟩] else [])) ++ (pairsL (.mk wi wk wx wks) (lcs (wks.map T.id) (iks.map T.id)) iks).flatMap wordsOf := by
    unfold setsL; rw [pairsT, List.flatMap_cons]; rfl
  have hput : sputT (.mk wi wk wx wks) (.mk wi ik ix iks) = sputL (.mk wi wk wx wks) wi (lcs (wks.map T.id) (iks.map T.id)) 0 iks := by rw [sputT]; rfl
  have hfind : ∀ x, x ∈ wks.map T.id → fT (.mk wi wk wx wks) x = some (kidIn wks x) := fun x hx => by
    obtain ⟨k1, k2⟩ := kidIn_mem hx
    have := fT_kid2 hwn (k := kidIn wks x) k1
    rwa [k2] at this
  unfold NodeR
  rw [hcut] at bc ⊢
  rw [hset] at bs ⊢
  rw [hput] at bp ⊢
  clear hcut hset hput
  have hcl : (lcs (wks.map T.id) (iks.map T.id)).length ≤ 1048576 := by have := hsub.1.length_le; rw [List.length_map] at this; omega
  have hhas := fun x => l2Has_pure (lcs (wks.map T.id) (iks.map T.id)) x (by omega)
  generalize lcs (wks.map T.id) (iks.map T.id) = cm at *
  have hlr := Go.Cod.rows_len wks
  have hlr2 := Go.Cod.rows_len iks
  refine full_of_draw good Try.func36 rfl (by kernel_rfl) (by decide) fun X hX => ?_
  conv => whnf
  refine draw_go hX ?_
  conv => whnf
  repeat' (first
    | (refine ⟨_, .inl n1, ?_⟩
       conv => whnf)
    | (refine ⟨_, .inl n2, ?_⟩
       conv => whnf)
    | (refine ⟨_, .inl n3, ?_⟩
       conv => whnf)
    | (rintro r rfl
       conv => whnf)
    | (refine And.intro ?_ ?_))
  clear n1 n2 n3
  -- what is cut
  refine loop_drop (fun n fr st => ∃ (k : Nat) (es : List (List V)) (h1 : Option (Nat × Nat)) (c' : List Stp), n + k = wks.length ∧ c' = c ++ (((wks.take k).filter fun k => !decide (k.id ∈ cm)).map fun k => cutStp k.id) ∧ D3 es h1 h2 h3 c' s p ∧
      Holds fr [(0, .ptr 0 0 0), (4, .ptr 2 0 0), (5, .ptr 3 0 0), (6, .sl (irows cm)), (7, .int .i64 k)] ∧
      st = [dbox (hdV h1 c'.length) (hdV h2 s.length) (hdV h3 p.length), poolO es, ⟨[[.int .i64 wi, .str wk, .str wx, .sl (T.rows wks)]], 4, true, true, true, .cell⟩, ⟨[[.int .i64 wi, .str ik, .str ix, .sl (T.rows iks)]], 4, true, true, true, .cell⟩]) wks.length none ?_ ?_
  · exact ⟨0, es, h1, c, rfl, by simp, hD, ⟨rfl, rfl, rfl, rfl, rfl, trivial⟩, rfl⟩
  clear hD
  rintro n fr st ⟨k, es, h1, c', hk, hc', hD, hh, rfl⟩
  obtain ⟨fr, rfl⟩ := hh.split
  clear hh
  conv => whnf
  rw [hlr]
  by_cases hlt : k < wks.length
  · rw [ltB_t (by omega)]
    conv => whnf
    have hg := Go.Cod.rows_get wks k hlt
    have htk : ((wks.take (k + 1)).filter fun k => !decide (k.id ∈ cm)) = ((wks.take k).filter fun k => !decide (k.id ∈ cm)) ++ if wks[k].id ∈ cm then [] else [wks[k]] := by
      rw [List.take_succ_eq_append_getElem hlt, List.filter_append]
      congr 1
      by_cases h : wks[k].id ∈ cm <;> simp [h]
    have hwk : V.int .i64 (IntKind.i64.wrap ((k : Int) + 1)) = .int .i64 ((k + 1 : Nat) : Int) := by rw [wrapJ1 k (by omega)]
    have hlb : c'.length ≤ 1000000 := by
      have h1 : ((wks.take k).filter fun k => !decide (k.id ∈ cm)).length ≤ (wks.filter fun k => !decide (k.id ∈ cm)).length := by
        conv => rhs; rw [← List.take_append_drop k wks, List.filter_append, List.length_append]
        omega
      rw [hc']
      simp only [List.length_append, List.length_map] at bc ⊢
      omega
    generalize wks[k] = t at *
    obtain ⟨ti, tk, tx, tks⟩ := t
    have hti : (T.mk ti tk tx tks).id = ti := rfl
    rw [hti] at htk
    have hha := hhas ti
    refine ⟨by omega, T.rows wks, _, 4, rfl, hg, rfl, rfl, ?_⟩
    conv => whnf
    refine .inl (hha.mono ?_)
    rintro r rfl
    by_cases hm : ti ∈ cm
    · rw [if_pos hm, List.append_nil] at htk
      rw [decide_eq_true hm]
      conv => whnf
      refine ⟨n - 1, by omega, none, k + 1, es, h1, c', by omega, by rw [htk]; exact hc', hD, ⟨rfl, rfl, rfl, rfl, hwk, trivial⟩, rfl⟩
    · rw [if_neg hm] at htk
      rw [decide_eq_false hm]
      conv => whnf
      refine draw_with hX [(0, .ptr 0 0 0), (4, .ptr 2 0 0), (5, .ptr 3 0 0), (6, .sl (irows cm)), (7, .int .i64 k)] ⟨rfl, rfl, rfl, rfl, rfl, trivial⟩ fun C hC fr => ?_
      have hJ : ∀ fr es' b cc tmp, D3 es' (some (b, cc)) h2 h3 (c' ++ [cutStp ti]) s p → Holds fr [(0, .ptr 0 0 0), (4, .ptr 2 0 0), (5, .ptr 3 0 0), (6, .sl (irows cm)), (7, .int .i64 k)] →
          C fr [dbox (.dref b (c'.length + 1) cc) (hdV h2 s.length) (hdV h3 p.length), poolO es', ⟨[[.int .i64 wi, .str wk, .str wx, .sl (T.rows wks)]], 4, true, true, true, .cell⟩, ⟨[[.int .i64 wi, .str ik, .str ix, .sl (T.rows iks)]], 4, true, true, true, .cell⟩, ⟨tmp, 8, true, true, false, .cell⟩] := by
        intro fr es' b cc tmp hD' hh
        obtain ⟨fr, rfl⟩ := hh.split
        refine hC _ _ ?_
        clear hC hh
        conv => whnf
        refine ⟨n - 1, by omega, some [0, 1, 2, 3], ?_⟩
        conv => whnf
        refine ⟨k + 1, es', some (b, cc), c' ++ [cutStp ti], by omega, by rw [htk, hc', List.map_append, ← List.append_assoc]; rfl, hD', ⟨rfl, rfl, rfl, rfl, hwk, trivial⟩, ?_⟩
        rw [List.length_append]
        rcases h2 with _ | ⟨_, _⟩ <;> rcases h3 with _ | ⟨_, _⟩ <;> rfl
      clear hC
      rcases h1 with _ | ⟨b0, cc0⟩
      all_goals
        conv => whnf
        refine ⟨by omega, T.rows wks, _, 4, rfl, hg, rfl, rfl, ?_⟩
        conv => whnf
        refine semStep1 (k := 1) (q := cutStp ti) rfl rfl rfl rfl rfl rfl rfl rfl rfl hD (.inl rfl) hlb fun es' b cc hD' => ?_
        conv => whnf
        exact hJ _ es' b cc _ hD' ⟨rfl, rfl, rfl, rfl, rfl, trivial⟩
  · rw [ltB_f (by omega)]
    rw [List.take_of_length_le (by omega)] at hc'
    conv => whnf
    have hsb : s.length + (1) ≤ 1000000 := by
      have hz := bs
      rw [if_neg (by simp [e1]), if_pos e2] at hz
      simp only [List.length_append, List.length_singleton, List.length_nil] at hz
      omega
    have hcl' : c'.length = c.length + (wks.filter fun k => !decide (k.id ∈ cm)).length := by rw [hc', List.length_append, List.length_map]
    rw [eqS_t e1]
    conv => whnf
    rw [eqS_f e2]
    conv => whnf
    refine draw_with hX [(0, .ptr 0 0 0), (4, .ptr 2 0 0), (5, .ptr 3 0 0), (6, .sl (irows cm))] ⟨rfl, rfl, rfl, rfl, trivial⟩ fun C2 hC2 fr => ?_
    have hJ2 : ∀ fr es2 b2 c2 t2, D3 es2 h1 (some (b2, c2)) h3 c' (s ++ [⟨3, wi, 0, TZ, ix⟩]) p → Holds fr [(0, .ptr 0 0 0), (4, .ptr 2 0 0), (5, .ptr 3 0 0), (6, .sl (irows cm))] →
        C2 fr [dbox (hdV h1 c'.length) (.dref b2 (s.length + 1) c2) (hdV h3 p.length), poolO es2, ⟨[[.int .i64 wi, .str wk, .str wx, .sl (T.rows wks)]], 4, true, true, true, .cell⟩, ⟨[[.int .i64 wi, .str ik, .str ix, .sl (T.rows iks)]], 4, true, true, true, .cell⟩, ⟨t2, 8, true, true, false, .cell⟩] := by
      intro fr es2 b2 c2 t2 hD2 hh
      obtain ⟨fr, rfl⟩ := hh.split
      refine hC2 _ _ ?_
      clear hC2 hh
      conv => whnf
      obtain ⟨S, hSS⟩ : ∃ S, S = s ++ ((if wk ≠ ik then [(⟨4, wi, 0, TZ, ik⟩ : Stp)] else []) ++ (if wx ≠ ix then [(⟨3, wi, 0, TZ, ix⟩ : Stp)] else [])) := ⟨_, rfl⟩
      have hSs : S = (s ++ [⟨3, wi, 0, TZ, ix⟩]) := by rw [hSS, if_neg (by simp [e1]), if_pos e2]; simp
      have hsl' : S.length = s.length + ((if wk ≠ ik then [(⟨4, wi, 0, TZ, ik⟩ : Stp)] else []).length + (if wx ≠ ix then [(⟨3, wi, 0, TZ, ix⟩ : Stp)] else []).length) := by rw [hSS]; simp only [List.length_append]
      refine loop_drop (fun n fr st => ∃ (k : Nat) (es : List (List V)) (h1 h2 h3 : Option (Nat × Nat)) (cc ss pp : List Stp), n + k = iks.length ∧ cc = c' ++ (pairsL (.mk wi wk wx wks) cm (iks.take k)).flatMap (fun p => cutsOf (locB p) p) ∧ ss = S ++ (pairsL (.mk wi wk wx wks) cm (iks.take k)).flatMap wordsOf ∧ pp = p ++ sputL (.mk wi wk wx wks) wi cm 0 (iks.take k) ∧ D3 es h1 h2 h3 cc ss pp ∧
          Holds fr [(0, .ptr 0 0 0), (4, .ptr 2 0 0), (5, .ptr 3 0 0), (6, .sl (irows cm)), (8, .int .i64 k)] ∧ st = [dbox (hdV h1 cc.length) (hdV h2 ss.length) (hdV h3 pp.length), poolO es, ⟨[[.int .i64 wi, .str wk, .str wx, .sl (T.rows wks)]], 4, true, true, true, .cell⟩, ⟨[[.int .i64 wi, .str ik, .str ix, .sl (T.rows iks)]], 4, true, true, true, .cell⟩]) iks.length (some [0, 1, 2, 3]) ?_ ?_
      · conv => whnf
        exact ⟨0, es2, h1, (some (b2, c2)), h3, c', S, p, rfl, by simp [pairsL], by simp [pairsL], by simp [sputL], by rw [hSs]; exact hD2, ⟨rfl, rfl, rfl, rfl, rfl, trivial⟩, by rw [hSs]; rw [List.length_append]; rcases h1 with _ | ⟨_, _⟩ <;> rcases h3 with _ | ⟨_, _⟩ <;> rfl⟩
      clear hD2
      rintro n fr st ⟨k, es, h1, h2, h3, cc, ss, pp, hk, hcc, hss, hpp, hD, hh, rfl⟩
      obtain ⟨fr, rfl⟩ := hh.split
      clear hh
      conv => whnf
      rw [hlr2]
      by_cases hlt : k < iks.length
      · rw [ltB_t (by omega)]
        conv => whnf
        have hg := Go.Cod.rows_get iks k hlt
        have hmem := List.getElem_mem hlt
        have htk : iks.take (k + 1) = iks.take k ++ [iks[k]] := by rw [List.take_succ_eq_append_getElem hlt]
        have hpk : pairsL (.mk wi wk wx wks) cm (iks.take (k + 1)) = pairsL (.mk wi wk wx wks) cm (iks.take k) ++ (if iks[k].id ∈ cm then pairsT (kidOf (.mk wi wk wx wks) iks[k].id) iks[k] else []) := by
          rw [htk, pairsL_append]; simp only [pairsL, List.append_nil]
        have hsk : sputL (.mk wi wk wx wks) wi cm 0 (iks.take (k + 1)) = sputL (.mk wi wk wx wks) wi cm 0 (iks.take k) ++ (if iks[k].id ∈ cm then sputT (kidOf (.mk wi wk wx wks) iks[k].id) iks[k] else [⟨1, wi, k, iks[k], []⟩]) := by
          rw [htk, sputL_append, List.length_take, Nat.min_eq_left (by omega), Nat.zero_add]; simp only [sputL, List.append_nil]
        have hpf : ∀ F : T × T → List Stp, ((pairsL (.mk wi wk wx wks) cm (iks.take (k + 1))).flatMap F).length ≤ ((pairsL (.mk wi wk wx wks) cm iks).flatMap F).length := fun F => by
          conv => rhs; rw [← List.take_append_drop (k + 1) iks, pairsL_append, List.flatMap_append, List.length_append]
          omega
        have hsf : (sputL (.mk wi wk wx wks) wi cm 0 (iks.take (k + 1))).length ≤ (sputL (.mk wi wk wx wks) wi cm 0 iks).length := by
          conv => rhs; rw [← List.take_append_drop (k + 1) iks, sputL_append, List.length_append]
          omega
        have hwk : V.int .i64 (IntKind.i64.wrap ((k : Int) + 1)) = .int .i64 ((k + 1 : Nat) : Int) := by rw [wrapJ1 k (by omega)]
        have f1 := hpf fun p => cutsOf (locB p) p
        have f2 := hpf wordsOf
        clear hpf htk
        have hcp := l2Copy_pure iks[k] (his _ hmem)
        have hfd := l2Find_pure (.mk wi wk wx wks) hws iks[k].id
        have hfi : iks[k].id ∈ cm → fT (.mk wi wk wx wks) iks[k].id = some (kidIn wks iks[k].id) := fun h => hfind _ (hsub.1.subset h)
        have hrec := fun h : iks[k].id ∈ cm => ih iks[k] hmem (hsub.1.subset h) es h1 h2 h3 cc ss pp hD
        rw [show kidOf (.mk wi wk wx wks) iks[k].id = kidIn wks iks[k].id from rfl] at hpk hsk
        have hha := hhas iks[k].id
        generalize iks[k] = t at *
        clear hmem
        by_cases hm : t.id ∈ cm
        · replace hfi := hfi hm
          replace hrec := hrec hm
          rw [if_pos hm] at hpk hsk
          rw [hfi] at hfd
          rw [hpk, List.flatMap_append] at f1 f2
          rw [hsk] at hsf
          simp only [List.length_append, List.length_map] at f1 f2 hsf bc bs bp
          have hrec := hrec (by rw [hcc]; simp only [List.length_append, hcl'] ; unfold cutsL; omega) (by rw [hss]; simp only [List.length_append, hsl']; unfold setsL; omega) (by rw [hpp]; simp only [List.length_append]; omega)
          rw [decide_eq_true hm] at hha
          unfold NodeR at hrec
          have q1 : cc ++ cutsL (kidIn wks t.id) t = c' ++ (pairsL (.mk wi wk wx wks) cm (iks.take (k + 1))).flatMap (fun p => cutsOf (locB p) p) := by rw [hpk, List.flatMap_append, hcc, List.append_assoc]; rfl
          have q2 : ss ++ setsL (kidIn wks t.id) t = S ++ (pairsL (.mk wi wk wx wks) cm (iks.take (k + 1))).flatMap wordsOf := by rw [hpk, List.flatMap_append, hss, List.append_assoc]; rfl
          have q3 : pp ++ sputT (kidIn wks t.id) t = p ++ sputL (.mk wi wk wx wks) wi cm 0 (iks.take (k + 1)) := by rw [hsk, hpp, List.append_assoc]
          clear hpk hsk f1 f2 hsf hcc hss hpp hfi
          generalize kidIn wks t.id = z at *
          obtain ⟨ti, tk, tx, tks⟩ := t
          obtain ⟨zi, zk, zx, zks⟩ := z
          refine ⟨by omega, T.rows iks, _, 4, rfl, hg, rfl, rfl, ?_⟩
          conv => whnf
          refine .inl (hha.mono ?_)
          rintro r rfl
          conv => whnf
          refine draw_go hX ?_
          conv => whnf
          repeat' (first
            | (refine ⟨by omega, T.rows iks, _, 4, rfl, hg, rfl, rfl, ?_⟩
               conv => whnf)
            | (refine ⟨_, .inl hfd, ?_⟩
               conv => whnf)
            | (rintro r rfl
               conv => whnf)
            | (refine And.intro ?_ ?_
               all_goals (conv => whnf))
            | fail)
          all_goals (try rfl)
          refine draw_with hX [(0, .ptr 0 0 0), (4, .ptr 2 0 0), (5, .ptr 3 0 0), (6, .sl (irows cm)), (8, .int .i64 k), (9, .ptr 4 0 0)] ⟨rfl, rfl, rfl, rfl, rfl, rfl, trivial⟩ fun C hC fr => ?_
          have hJ : ∀ fr es' g1 g2 g3, D3 es' g1 g2 g3 (cc ++ cutsL (.mk zi zk zx zks) (.mk ti tk tx tks)) (ss ++ setsL (.mk zi zk zx zks) (.mk ti tk tx tks)) (pp ++ sputT (.mk zi zk zx zks) (.mk ti tk tx tks)) → Holds fr [(0, .ptr 0 0 0), (4, .ptr 2 0 0), (5, .ptr 3 0 0), (6, .sl (irows cm)), (8, .int .i64 k)] →
              C fr [dbox (hdV g1 (cc ++ cutsL (.mk zi zk zx zks) (.mk ti tk tx tks)).length) (hdV g2 (ss ++ setsL (.mk zi zk zx zks) (.mk ti tk tx tks)).length) (hdV g3 (pp ++ sputT (.mk zi zk zx zks) (.mk ti tk tx tks)).length), poolO es', ⟨[[.int .i64 wi, .str wk, .str wx, .sl (T.rows wks)]], 4, true, true, true, .cell⟩, ⟨[[.int .i64 wi, .str ik, .str ix, .sl (T.rows iks)]], 4, true, true, true, .cell⟩, ⟨[[.int .i64 zi, .str zk, .str zx, .sl (T.rows zks)]], 4, true, true, true, .cell⟩] := by
            intro fr es' g1 g2 g3 hD' hh
            obtain ⟨fr, rfl⟩ := hh.split
            refine hC _ _ ?_
            clear hC hh
            rcases g1 with _ | ⟨_, _⟩ <;> rcases g2 with _ | ⟨_, _⟩ <;> rcases g3 with _ | ⟨_, _⟩
            all_goals
              conv => whnf
              refine ⟨n - 1, by omega, some [0, 1, 2, 3], ?_⟩
              conv => whnf
              exact ⟨k + 1, es', _, _, _, _, _, _, by omega, q1, q2, q3, hD', ⟨rfl, rfl, rfl, rfl, hwk, trivial⟩, rfl⟩
          clear hC hD
          rcases h1 with _ | ⟨a1, a2⟩ <;> rcases h2 with _ | ⟨a3, a4⟩ <;> rcases h3 with _ | ⟨a5, a6⟩
          all_goals
            conv => whnf
            refine ⟨by omega, T.rows iks, _, 4, rfl, hg, rfl, rfl, ?_⟩
            conv => whnf
            refine ⟨[0, 1], true, ?_⟩
            conv => whnf
            refine hrec.mono ?_
            rintro o st' ⟨rfl, es', g1, g2, g3, hD', rfl⟩
            have hz := fun fr => hJ fr es' g1 g2 g3 hD'
            rcases g1 with _ | ⟨_, _⟩ <;> rcases g2 with _ | ⟨_, _⟩ <;> rcases g3 with _ | ⟨_, _⟩
            all_goals
              conv => whnf
              exact hz _ ⟨rfl, rfl, rfl, rfl, rfl, trivial⟩
        · rw [if_neg hm] at hpk hsk
          rw [List.append_nil] at hpk
          have hlb : pp.length ≤ 1000000 := by
            rw [hsk] at hsf
            rw [hpp]
            simp only [List.length_append] at hsf bp ⊢
            omega
          rw [decide_eq_false hm] at hha
          have q3 : pp ++ [⟨1, wi, k, t, []⟩] = p ++ sputL (.mk wi wk wx wks) wi cm 0 (iks.take (k + 1)) := by rw [hsk, hpp, List.append_assoc]
          rw [← hpk] at hcc hss
          clear hpk hsk hpp f1 f2 hsf hrec hfi hfd
          obtain ⟨ti, tk, tx, tks⟩ := t
          refine ⟨by omega, T.rows iks, _, 4, rfl, hg, rfl, rfl, ?_⟩
          conv => whnf
          refine .inl (hha.mono ?_)
          rintro r rfl
          conv => whnf
          refine draw_with hX [(0, .ptr 0 0 0), (4, .ptr 2 0 0), (5, .ptr 3 0 0), (6, .sl (irows cm)), (8, .int .i64 k)] ⟨rfl, rfl, rfl, rfl, rfl, trivial⟩ fun C hC fr => ?_
          have hJ : ∀ fr es' b c0 tmp, D3 es' h1 h2 (some (b, c0)) cc ss (pp ++ [⟨1, wi, k, .mk ti tk tx tks, []⟩]) → Holds fr [(0, .ptr 0 0 0), (4, .ptr 2 0 0), (5, .ptr 3 0 0), (6, .sl (irows cm)), (8, .int .i64 k)] →
              C fr [dbox (hdV h1 cc.length) (hdV h2 ss.length) (.dref b (pp.length + 1) c0), poolO es', ⟨[[.int .i64 wi, .str wk, .str wx, .sl (T.rows wks)]], 4, true, true, true, .cell⟩, ⟨[[.int .i64 wi, .str ik, .str ix, .sl (T.rows iks)]], 4, true, true, true, .cell⟩, ⟨tmp, 8, true, true, false, .cell⟩] := by
            intro fr es' b c0 tmp hD' hh
            obtain ⟨fr, rfl⟩ := hh.split
            refine hC _ _ ?_
            clear hC hh
            conv => whnf
            refine ⟨n - 1, by omega, some [0, 1, 2, 3], ?_⟩
            conv => whnf
            refine ⟨k + 1, es', h1, h2, some (b, c0), cc, ss, pp ++ [⟨1, wi, k, .mk ti tk tx tks, []⟩], by omega, hcc, hss, q3, hD', ⟨rfl, rfl, rfl, rfl, hwk, trivial⟩, ?_⟩
            rw [List.length_append]
            rcases h1 with _ | ⟨_, _⟩ <;> rcases h2 with _ | ⟨_, _⟩ <;> rfl
          clear hC
          rcases h3 with _ | ⟨b0, cc0⟩
          all_goals
            conv => whnf
            repeat' (first
              | (refine ⟨by omega, T.rows iks, _, 4, rfl, hg, rfl, rfl, ?_⟩
                 conv => whnf)
              | (refine ⟨_, .inl hcp, ?_⟩
                 conv => whnf)
              | (rintro r rfl
                 conv => whnf)
              | (refine semStep3 (k := 1) (q := ⟨1, wi, k, .mk ti tk tx tks, []⟩) rfl rfl rfl rfl rfl rfl rfl rfl rfl hD (.inl rfl) hlb ?_
                 intro es' b c0 hD'
                 conv => whnf
                 exact hJ _ es' b c0 _ hD' ⟨rfl, rfl, rfl, rfl, rfl, trivial⟩)
              | fail)
      · rw [ltB_f (by omega)]
        rw [List.take_of_length_le (by omega)] at hcc hss hpp
        have E1 : c ++ (((wks.filter fun k => !decide (k.id ∈ cm)).map fun k => cutStp k.id) ++ (pairsL (.mk wi wk wx wks) cm iks).flatMap fun p => cutsOf (locB p) p) = cc := by rw [← List.append_assoc, ← hc', ← hcc]
        have E2 : s ++ (((if wk ≠ ik then [(⟨4, wi, 0, TZ, ik⟩ : Stp)] else []) ++ (if wx ≠ ix then [(⟨3, wi, 0, TZ, ix⟩ : Stp)] else [])) ++ (pairsL (.mk wi wk wx wks) cm iks).flatMap wordsOf) = ss := by rw [← List.append_assoc, ← hSS, ← hss]
        rcases h1 with _ | ⟨a1, a2⟩ <;> rcases h2 with _ | ⟨a3, a4⟩ <;> rcases h3 with _ | ⟨a5, a6⟩
        all_goals
          conv => whnf
          refine ⟨[], true, ?_⟩
          conv => whnf
          rw [E1, E2, ← hpp]
          exact ⟨rfl, es, _, _, _, hD, rfl⟩
    clear hC2
    rcases h2 with _ | ⟨b0, c0⟩
    all_goals
      conv => whnf
      refine semStep2 (k := 1) (s := s) (q := ⟨3, wi, 0, TZ, ix⟩) rfl rfl rfl rfl rfl rfl rfl rfl rfl hD (.inl rfl) (by omega) fun es2 b2 c2 hD2 => ?_
      conv => whnf
      exact hJ2 _ es2 b2 c2 _ hD2 ⟨rfl, rfl, rfl, rfl, trivial⟩
end Go.Cod

namespace Go.Cod
open Go Go.Proofs
set_option linter.all false
set_option maxRecDepth 10000

set_option maxHeartbeats 8000000 in
theorem node_ff (wi : Int) (wk wx : List UInt8) (wks : List T) (ik ix : List UInt8) (iks : List T) (lw : wks.length ≤ 1048576) (li : iks.length ≤ 1048576) (h4 : wk.length ≤ 1048576) (hws : (T.mk wi wk wx wks).Small) (his : ∀ t ∈ iks, t.Small) (hwn : (T.mk wi wk wx wks).ids.Nodup)
    (ih : ∀ k ∈ iks, k.id ∈ wks.map T.id → ∀ es h1 h2 h3 c s p, D3 es h1 h2 h3 c s p → c.length + (cutsL (kidIn wks k.id) k).length ≤ 1000000 → s.length + (setsL (kidIn wks k.id) k).length ≤ 1000000 → p.length + (sputT (kidIn wks k.id) k).length ≤ 1000000 →
      Full Try.prog noY 36 [.ptr 0 0 0, .agg (kidIn wks k.id).cells, .agg k.cells] [dbox (hdV h1 c.length) (hdV h2 s.length) (hdV h3 p.length), poolO es] (NodeR (kidIn wks k.id) k c s p))
    (e1 : wk ≠ ik) (e2 : wx ≠ ix) (es : List (List V)) (h1 h2 h3 : Option (Nat × Nat)) (c s p : List Stp) (hD : D3 es h1 h2 h3 c s p) (bc : c.length + (cutsL (.mk wi wk wx wks) (.mk wi ik ix iks)).length ≤ 1000000) (bs : s.length + (setsL (.mk wi wk wx wks) (.mk wi ik ix iks)).length ≤ 1000000) (bp : p.length + (sputT (.mk wi wk wx wks) (.mk wi ik ix iks)).length ≤ 1000000) :
    Full Try.prog noY 36 [.ptr 0 0 0, .agg (T.mk wi wk wx wks).cells, .agg (T.mk wi ik ix iks).cells] [dbox (hdV h1 c.length) (hdV h2 s.length) (hdV h3 p.length), poolO es] (NodeR (.mk wi wk wx wks) (.mk wi ik ix iks) c s p) := by
  have n1 := l5Numbers_pure (.mk wi wk wx wks) lw
  have n2 := l5Numbers_pure (.mk wi ik ix iks) li
  rw [show (T.mk wi wk wx wks).kidIds = wks.map T.id from rfl] at n1
  rw [show (T.mk wi ik ix iks).kidIds = iks.map T.id from rfl] at n2
  have n3 := l5Both_pure (wks.map T.id) (iks.map T.id) (by rw [List.length_map]; omega) (by rw [List.length_map]; omega)
  have hsub := lcs_sub _ (wks.map T.id) (iks.map T.id) (Nat.le_refl _)
  have hcut : cutsL (.mk wi wk wx wks) (.mk wi ik ix iks) = ((wks.filter fun k => !decide (k.id ∈ lcs (wks.map T.id) (iks.map T.id))).map fun k => cutStp k.id) ++ (pairsL (.mk wi wk wx wks) (lcs (wks.map T.id) (iks.map T.id)) iks).flatMap fun p => cutsOf (locB p) p := by
    unfold cutsL; rw [pairsT, List.flatMap_cons]; rfl
  have hset : setsL (.mk wi wk wx wks) (.mk wi ik ix iks) = ((if wk ≠ ik then [⟨4, wi, 0, TZ, ik⟩] else []) ++ (if wx ≠ ix then [⟨3, wi, 0, TZ, ix⟩] else [])) ++ (pairsL (.mk wi wk wx wks) (lcs (wks.map T.id) (iks.map T.id)) iks).flatMap wordsOf := by
    unfold setsL; rw [pairsT, List.flatMap_cons]; rfl
  have hput : sputT (.mk wi wk wx wks) (.mk wi ik ix iks) = sputL (.mk wi wk wx wks) wi (lcs (wks.map T.id) (iks.map T.id)) 0 iks := by rw [sputT]; rfl
  have hfind : ∀ x, x ∈ wks.map T.id → fT (.mk wi wk wx wks) x = some (kidIn wks x) := fun x hx => by
    obtain ⟨k1, k2⟩ := kidIn_mem hx
    have := fT_kid2 hwn (k := kidIn wks x) k1
    rwa [k2] at this
  unfold NodeR
  rw [hcut] at bc ⊢
  rw [hset] at bs ⊢
  rw [hput] at bp ⊢
  clear hcut hset hput
  have hcl : (lcs (wks.map T.id) (iks.map T.id)).length ≤ 1048576 := by have := hsub.1.length_le; rw [List.length_map] at this; omega
  have hhas := fun x => l2Has_pure (lcs (wks.map T.id) (iks.map T.id)) x (by omega)
  generalize lcs (wks.map T.id) (iks.map T.id) = cm at *
  have hlr := Go.Cod.rows_len wks
  have hlr2 := Go.Cod.rows_len iks
  refine full_of_draw good Try.func36 rfl (by kernel_rfl) (by decide) fun X hX => ?_
  conv => whnf
  refine draw_go hX ?_
  conv => whnf
  repeat' (first
    | (refine ⟨_, .inl n1, ?_⟩
       conv => whnf)
    | (refine ⟨_, .inl n2, ?_⟩
       conv => whnf)
    | (refine ⟨_, .inl n3, ?_⟩
       conv => whnf)
    | (rintro r rfl
       conv => whnf)
    | (refine And.intro ?_ ?_))
  clear n1 n2 n3
  -- what is cut
  refine loop_drop (fun n fr st => ∃ (k : Nat) (es : List (List V)) (h1 : Option (Nat × Nat)) (c' : List Stp), n + k = wks.length ∧ c' = c ++ (((wks.take k).filter fun k => !decide (k.id ∈ cm)).map fun k => cutStp k.id) ∧ D3 es h1 h2 h3 c' s p ∧
      Holds fr [(0, .ptr 0 0 0), (4, .ptr 2 0 0), (5, .ptr 3 0 0), (6, .sl (irows cm)), (7, .int .i64 k)] ∧
      st = [dbox (hdV h1 c'.length) (hdV h2 s.length) (hdV h3 p.length), poolO es, ⟨[[.int .i64 wi, .str wk, .str wx, .sl (T.rows wks)]], 4, true, true, true, .cell⟩, ⟨[[.int .i64 wi, .str ik, .str ix, .sl (T.rows iks)]], 4, true, true, true, .cell⟩]) wks.length none ?_ ?_
  · exact ⟨0, es, h1, c, rfl, by simp, hD, ⟨rfl, rfl, rfl, rfl, rfl, trivial⟩, rfl⟩
  clear hD
  rintro n fr st ⟨k, es, h1, c', hk, hc', hD, hh, rfl⟩
  obtain ⟨fr, rfl⟩ := hh.split
  clear hh
  conv => whnf
  rw [hlr]
  by_cases hlt : k < wks.length
  · rw [ltB_t (by omega)]
    conv => whnf
    have hg := Go.Cod.rows_get wks k hlt
    have htk : ((wks.take (k + 1)).filter fun k => !decide (k.id ∈ cm)) = ((wks.take k).filter fun k => !decide (k.id ∈ cm)) ++ if wks[k].id ∈ cm then [] else [wks[k]] := by
      rw [List.take_succ_eq_append_getElem hlt, List.filter_append]
      congr 1
      by_cases h : wks[k].id ∈ cm <;> simp [h]
    have hwk : V.int .i64 (IntKind.i64.wrap ((k : Int) + 1)) = .int .i64 ((k + 1 : Nat) : Int) := by rw [wrapJ1 k (by omega)]
    have hlb : c'.length ≤ 1000000 := by
      have h1 : ((wks.take k).filter fun k => !decide (k.id ∈ cm)).length ≤ (wks.filter fun k => !decide (k.id ∈ cm)).length := by
        conv => rhs; rw [← List.take_append_drop k wks, List.filter_append, List.length_append]
        omega
      rw [hc']
      simp only [List.length_append, List.length_map] at bc ⊢
      omega
    generalize wks[k] = t at *
    obtain ⟨ti, tk, tx, tks⟩ := t
    have hti : (T.mk ti tk tx tks).id = ti := rfl
    rw [hti] at htk
    have hha := hhas ti
    refine ⟨by omega, T.rows wks, _, 4, rfl, hg, rfl, rfl, ?_⟩
    conv => whnf
    refine .inl (hha.mono ?_)
    rintro r rfl
    by_cases hm : ti ∈ cm
    · rw [if_pos hm, List.append_nil] at htk
      rw [decide_eq_true hm]
      conv => whnf
      refine ⟨n - 1, by omega, none, k + 1, es, h1, c', by omega, by rw [htk]; exact hc', hD, ⟨rfl, rfl, rfl, rfl, hwk, trivial⟩, rfl⟩
    · rw [if_neg hm] at htk
      rw [decide_eq_false hm]
      conv => whnf
      refine draw_with hX [(0, .ptr 0 0 0), (4, .ptr 2 0 0), (5, .ptr 3 0 0), (6, .sl (irows cm)), (7, .int .i64 k)] ⟨rfl, rfl, rfl, rfl, rfl, trivial⟩ fun C hC fr => ?_
      have hJ : ∀ fr es' b cc tmp, D3 es' (some (b, cc)) h2 h3 (c' ++ [cutStp ti]) s p → Holds fr [(0, .ptr 0 0 0), (4, .ptr 2 0 0), (5, .ptr 3 0 0), (6, .sl (irows cm)), (7, .int .i64 k)] →
          C fr [dbox (.dref b (c'.length + 1) cc) (hdV h2 s.length) (hdV h3 p.length), poolO es', ⟨[[.int .i64 wi, .str wk, .str wx, .sl (T.rows wks)]], 4, true, true, true, .cell⟩, ⟨[[.int .i64 wi, .str ik, .str ix, .sl (T.rows iks)]], 4, true, true, true, .cell⟩, ⟨tmp, 8, true, true, false, .cell⟩] := by
        intro fr es' b cc tmp hD' hh
        obtain ⟨fr, rfl⟩ := hh.split
        refine hC _ _ ?_
        clear hC hh
        conv => whnf
        refine ⟨n - 1, by omega, some [0, 1, 2, 3], ?_⟩
        conv => whnf
        refine ⟨k + 1, es', some (b, cc), c' ++ [cutStp ti], by omega, by rw [htk, hc', List.map_append, ← List.append_assoc]; rfl, hD', ⟨rfl, rfl, rfl, rfl, hwk, trivial⟩, ?_⟩
        rw [List.length_append]
        rcases h2 with _ | ⟨_, _⟩ <;> rcases h3 with _ | ⟨_, _⟩ <;> rfl
      clear hC
      rcases h1 with _ | ⟨b0, cc0⟩
      all_goals
        conv => whnf
        refine ⟨by omega, T.rows wks, _, 4, rfl, hg, rfl, rfl, ?_⟩
        conv => whnf
        refine semStep1 (k := 1) (q := cutStp ti) rfl rfl rfl rfl rfl rfl rfl rfl rfl hD (.inl rfl) hlb fun es' b cc hD' => ?_
        conv => whnf
        exact hJ _ es' b cc _ hD' ⟨rfl, rfl, rfl, rfl, rfl, trivial⟩
  · rw [ltB_f (by omega)]
    rw [List.take_of_length_le (by omega)] at hc'
    conv => whnf
    have hsb : s.length + (2) ≤ 1000000 := by
      have hz := bs
      rw [if_pos e1, if_pos e2] at hz
      simp only [List.length_append, List.length_singleton, List.length_nil] at hz
      omega
    have hcl' : c'.length = c.length + (wks.filter fun k => !decide (k.id ∈ cm)).length := by rw [hc', List.length_append, List.length_map]
    rw [eqS_f e1]
    conv => whnf
    refine draw_with hX [(0, .ptr 0 0 0), (4, .ptr 2 0 0), (5, .ptr 3 0 0), (6, .sl (irows cm))] ⟨rfl, rfl, rfl, rfl, trivial⟩ fun C1 hC1 fr => ?_
    have hJ1 : ∀ fr es1 b1 c1 t1, D3 es1 h1 (some (b1, c1)) h3 c' (s ++ [(⟨4, wi, 0, TZ, ik⟩ : Stp)]) p → Holds fr [(0, .ptr 0 0 0), (4, .ptr 2 0 0), (5, .ptr 3 0 0), (6, .sl (irows cm))] →
        C1 fr [dbox (hdV h1 c'.length) (.dref b1 (s.length + 1) c1) (hdV h3 p.length), poolO es1, ⟨[[.int .i64 wi, .str wk, .str wx, .sl (T.rows wks)]], 4, true, true, true, .cell⟩, ⟨[[.int .i64 wi, .str ik, .str ix, .sl (T.rows iks)]], 4, true, true, true, .cell⟩, ⟨t1, 8, true, true, false, .cell⟩] := by
      intro fr es1 b1 c1 t1 hD1 hh
      obtain ⟨fr, rfl⟩ := hh.split
      refine hC1 _ _ ?_
      clear hC1 hh
      conv => whnf
      rw [eqS_f e2]
      conv => whnf
      refine draw_with hX [(0, .ptr 0 0 0), (4, .ptr 2 0 0), (5, .ptr 3 0 0), (6, .sl (irows cm))] ⟨rfl, rfl, rfl, rfl, trivial⟩ fun C2 hC2 fr => ?_
      have hJ2 : ∀ fr es2 b2 c2 t2, D3 es2 h1 (some (b2, c2)) h3 c' ((s ++ [(⟨4, wi, 0, TZ, ik⟩ : Stp)]) ++ [(⟨3, wi, 0, TZ, ix⟩ : Stp)]) p → Holds fr [(0, .ptr 0 0 0), (4, .ptr 2 0 0), (5, .ptr 3 0 0), (6, .sl (irows cm))] →
          C2 fr [dbox (hdV h1 c'.length) (.dref b2 ((s ++ [(⟨4, wi, 0, TZ, ik⟩ : Stp)]).length + 1) c2) (hdV h3 p.length), poolO es2, ⟨[[.int .i64 wi, .str wk, .str wx, .sl (T.rows wks)]], 4, true, true, true, .cell⟩, ⟨[[.int .i64 wi, .str ik, .str ix, .sl (T.rows iks)]], 4, true, true, true, .cell⟩, ⟨t1, 8, true, true, false, .cell⟩, ⟨t2, 8, true, true, false, .cell⟩] := by
        intro fr es2 b2 c2 t2 hD2 hh
        obtain ⟨fr, rfl⟩ := hh.split
        refine hC2 _ _ ?_
        clear hC2 hh
        conv => whnf
        obtain ⟨S, hSS⟩ : ∃ S, S = s ++ ((if wk ≠ ik then [(⟨4, wi, 0, TZ, ik⟩ : Stp)] else []) ++ (if wx ≠ ix then [(⟨3, wi, 0, TZ, ix⟩ : Stp)] else [])) := ⟨_, rfl⟩
        have hSs : S = ((s ++ [(⟨4, wi, 0, TZ, ik⟩ : Stp)]) ++ [(⟨3, wi, 0, TZ, ix⟩ : Stp)]) := by rw [hSS, if_pos e1, if_pos e2]; simp
        have hsl' : S.length = s.length + ((if wk ≠ ik then [(⟨4, wi, 0, TZ, ik⟩ : Stp)] else []).length + (if wx ≠ ix then [(⟨3, wi, 0, TZ, ix⟩ : Stp)] else []).length) := by rw [hSS]; simp only [List.length_append]
        refine loop_drop (fun n fr st => ∃ (k : Nat) (es : List (List V)) (h1 h2 h3 : Option (Nat × Nat)) (cc ss pp : List Stp), n + k = iks.length ∧ cc = c' ++ (pairsL (.mk wi wk wx wks) cm (iks.take k)).flatMap (fun p => cutsOf (locB p) p) ∧ ss = S ++ (pairsL (.mk wi wk wx wks) cm (iks.take k)).flatMap wordsOf ∧ pp = p ++ sputL (.mk wi wk wx wks) wi cm 0 (iks.take k) ∧ D3 es h1 h2 h3 cc ss pp ∧
            Holds fr [(0, .ptr 0 0 0), (4, .ptr 2 0 0), (5, .ptr 3 0 0), (6, .sl (irows cm)), (8, .int .i64 k)] ∧ st = [dbox (hdV h1 cc.length) (hdV h2 ss.length) (hdV h3 pp.length), poolO es, ⟨[[.int .i64 wi, .str wk, .str wx, .sl (T.rows wks)]], 4, true, true, true, .cell⟩, ⟨[[.int .i64 wi, .str ik, .str ix, .sl (T.rows iks)]], 4, true, true, true, .cell⟩]) iks.length (some [0, 1, 2, 3]) ?_ ?_
        · conv => whnf
          exact ⟨0, es2, h1, (some (b2, c2)), h3, c', S, p, rfl, by simp [pairsL], by simp [pairsL], by simp [sputL], by rw [hSs]; exact hD2, ⟨rfl, rfl, rfl, rfl, rfl, trivial⟩, by rw [hSs]; simp only [List.length_append, List.length_singleton]; rcases h1 with _ | ⟨_, _⟩ <;> rcases h3 with _ | ⟨_, _⟩ <;> rfl⟩
        clear hD2
        rintro n fr st ⟨k, es, h1, h2, h3, cc, ss, pp, hk, hcc, hss, hpp, hD, hh, rfl⟩
        obtain ⟨fr, rfl⟩ := hh.split
        clear hh
        conv => whnf
        rw [hlr2]
        by_cases hlt : k < iks.length
        · rw [ltB_t (by omega)]
          conv => whnf
          have hg := Go.Cod.rows_get iks k hlt
          have hmem := List.getElem_mem hlt
          have htk : iks.take (k + 1) = iks.take k ++ [iks[k]] := by rw [List.take_succ_eq_append_getElem hlt]
          have hpk : pairsL (.mk wi wk wx wks) cm (iks.take (k + 1)) = pairsL (.mk wi wk wx wks) cm (iks.take k) ++ (if iks[k].id ∈ cm then pairsT (kidOf (.mk wi wk wx wks) iks[k].id) iks[k] else []) := by
            rw [htk, pairsL_append]; simp only [pairsL, List.append_nil]
          have hsk : sputL (.mk wi wk wx wks) wi cm 0 (iks.take (k + 1)) = sputL (.mk wi wk wx wks) wi cm 0 (iks.take k) ++ (if iks[k].id ∈ cm then sputT (kidOf (.mk wi wk wx wks) iks[k].id) iks[k] else [⟨1, wi, k, iks[k], []⟩]) := by
            rw [htk, sputL_append, List.length_take, Nat.min_eq_left (by omega), Nat.zero_add]; simp only [sputL, List.append_nil]
          have hpf : ∀ F : T × T → List Stp, ((pairsL (.mk wi wk wx wks) cm (iks.take (k + 1))).flatMap F).length ≤ ((pairsL (.mk wi wk wx wks) cm iks).flatMap F).length := fun F => by
            conv => rhs; rw [← List.take_append_drop (k + 1) iks, pairsL_append, List.flatMap_append, List.length_append]
            omega
          have hsf : (sputL (.mk wi wk wx wks) wi cm 0 (iks.take (k + 1))).length ≤ (sputL (.mk wi wk wx wks) wi cm 0 iks).length := by
            conv => rhs; rw [← List.take_append_drop (k + 1) iks, sputL_append, List.length_append]
            omega
          have hwk : V.int .i64 (IntKind.i64.wrap ((k : Int) + 1)) = .int .i64 ((k + 1 : Nat) : Int) := by rw [wrapJ1 k (by omega)]
          have f1 := hpf fun p => cutsOf (locB p) p
          have f2 := hpf wordsOf
          clear hpf htk
          have hcp := l2Copy_pure iks[k] (his _ hmem)
          have hfd := l2Find_pure (.mk wi wk wx wks) hws iks[k].id
          have hfi : iks[k].id ∈ cm → fT (.mk wi wk wx wks) iks[k].id = some (kidIn wks iks[k].id) := fun h => hfind _ (hsub.1.subset h)
          have hrec := fun h : iks[k].id ∈ cm => ih iks[k] hmem (hsub.1.subset h) es h1 h2 h3 cc ss pp hD
          rw [show kidOf (.mk wi wk wx wks) iks[k].id = kidIn wks iks[k].id from rfl] at hpk hsk
          have hha := hhas iks[k].id
          generalize iks[k] = t at *
          clear hmem
          by_cases hm : t.id ∈ cm
          · replace hfi := hfi hm
            replace hrec := hrec hm
            rw [if_pos hm] at hpk hsk
            rw [hfi] at hfd
            rw [hpk, List.flatMap_append] at f1 f2
            rw [hsk] at hsf
            simp only [List.length_append, List.length_map] at f1 f2 hsf bc bs bp
            have hrec := hrec (by rw [hcc]; simp only [List.length_append, hcl'] ; unfold cutsL; omega) (by rw [hss]; simp only [List.length_append, hsl']; unfold setsL; omega) (by rw [hpp]; simp only [List.length_append]; omega)
            rw [decide_eq_true hm] at hha
            unfold NodeR at hrec
            have q1 : cc ++ cutsL (kidIn wks t.id) t = c' ++ (pairsL (.mk wi wk wx wks) cm (iks.take (k + 1))).flatMap (fun p => cutsOf (locB p) p) := by rw [hpk, List.flatMap_append, hcc, List.append_assoc]; rfl
            have q2 : ss ++ setsL (kidIn wks t.id) t = S ++ (pairsL (.mk wi wk wx wks) cm (iks.take (k + 1))).flatMap wordsOf := by rw [hpk, List.flatMap_append, hss, List.append_assoc]; rfl
            have q3 : pp ++ sputT (kidIn wks t.id) t = p ++ sputL (.mk wi wk wx wks) wi cm 0 (iks.take (k + 1)) := by rw [hsk, hpp, List.append_assoc]
            clear hpk hsk f1 f2 hsf hcc hss hpp hfi
            generalize kidIn wks t.id = z at *
            obtain ⟨ti, tk, tx, tks⟩ := t
            obtain ⟨zi, zk, zx, zks⟩ := z
            refine ⟨by omega, T.rows iks, _, 4, rfl, hg, rfl, rfl, ?_⟩
            conv => whnf
            refine .inl (hha.mono ?_)
            rintro r rfl
            conv => whnf
            refine draw_go hX ?_
            conv => whnf
            repeat' (first
              | (refine ⟨by omega, T.rows iks, _, 4, rfl, hg, rfl, rfl, ?_⟩
                 conv => whnf)
              | (refine ⟨_, .inl hfd, ?_⟩
                 conv => whnf)
              | (rintro r rfl
                 conv => whnf)
              | (refine And.intro ?_ ?_
                 all_goals (conv => whnf))
              | fail)
            all_goals (try rfl)
            refine draw_with hX [(0, .ptr 0 0 0), (4, .ptr 2 0 0), (5, .ptr 3 0 0), (6, .sl (irows cm)), (8, .int .i64 k), (9, .ptr 4 0 0)] ⟨rfl, rfl, rfl, rfl, rfl, rfl, trivial⟩ fun C hC fr => ?_
            have hJ : ∀ fr es' g1 g2 g3, D3 es' g1 g2 g3 (cc ++ cutsL (.mk zi zk zx zks) (.mk ti tk tx tks)) (ss ++ setsL (.mk zi zk zx zks) (.mk ti tk tx tks)) (pp ++ sputT (.mk zi zk zx zks) (.mk ti tk tx tks)) → Holds fr [(0, .ptr 0 0 0), (4, .ptr 2 0 0), (5, .ptr 3 0 0), (6, .sl (irows cm)), (8, .int .i64 k)] →
                C fr [dbox (hdV g1 (cc ++ cutsL (.mk zi zk zx zks) (.mk ti tk tx tks)).length) (hdV g2 (ss ++ setsL (.mk zi zk zx zks) (.mk ti tk tx tks)).length) (hdV g3 (pp ++ sputT (.mk zi zk zx zks) (.mk ti tk tx tks)).length), poolO es', ⟨[[.int .i64 wi, .str wk, .str wx, .sl (T.rows wks)]], 4, true, true, true, .cell⟩, ⟨[[.int .i64 wi, .str ik, .str ix, .sl (T.rows iks)]], 4, true, true, true, .cell⟩, ⟨[[.int .i64 zi, .str zk, .str zx, .sl (T.rows zks)]], 4, true, true, true, .cell⟩] := by
              intro fr es' g1 g2 g3 hD' hh
              obtain ⟨fr, rfl⟩ := hh.split
              refine hC _ _ ?_
              clear hC hh
              rcases g1 with _ | ⟨_, _⟩ <;> rcases g2 with _ | ⟨_, _⟩ <;> rcases g3 with _ | ⟨_, _⟩
              all_goals
                conv => whnf
                refine ⟨n - 1, by omega, some [0, 1, 2, 3], ?_⟩
                conv => whnf
                exact ⟨k + 1, es', _, _, _, _, _, _, by omega, q1, q2, q3, hD', ⟨rfl, rfl, rfl, rfl, hwk, trivial⟩, rfl⟩
            clear hC hD
            rcases h1 with _ | ⟨a1, a2⟩ <;> rcases h2 with _ | ⟨a3, a4⟩ <;> rcases h3 with _ | ⟨a5, a6⟩
            all_goals
              conv => whnf
              refine ⟨by omega, T.rows iks, _, 4, rfl, hg, rfl, rfl, ?_⟩
              conv => whnf
              refine ⟨[0, 1], true, ?_⟩
              conv => whnf
              refine hrec.mono ?_
              rintro o st' ⟨rfl, es', g1, g2, g3, hD', rfl⟩
              have hz := fun fr => hJ fr es' g1 g2 g3 hD'
              rcases g1 with _ | ⟨_, _⟩ <;> rcases g2 with _ | ⟨_, _⟩ <;> rcases g3 with _ | ⟨_, _⟩
              all_goals
                conv => whnf
                exact hz _ ⟨rfl, rfl, rfl, rfl, rfl, trivial⟩
          · rw [if_neg hm] at hpk hsk
            rw [List.append_nil] at hpk
            have hlb : pp.length ≤ 1000000 := by
              rw [hsk] at hsf
              rw [hpp]
              simp only [List.length_append] at hsf bp ⊢
              omega
            rw [decide_eq_false hm] at hha
            have q3 : pp ++ [⟨1, wi, k, t, []⟩] = p ++ sputL (.mk wi wk wx wks) wi cm 0 (iks.take (k + 1)) := by rw [hsk, hpp, List.append_assoc]
            rw [← hpk] at hcc hss
            clear hpk hsk hpp f1 f2 hsf hrec hfi hfd
            obtain ⟨ti, tk, tx, tks⟩ := t
            refine ⟨by omega, T.rows iks, _, 4, rfl, hg, rfl, rfl, ?_⟩
            conv => whnf
            refine .inl (hha.mono ?_)
            rintro r rfl
            conv => whnf
            refine draw_with hX [(0, .ptr 0 0 0), (4, .ptr 2 0 0), (5, .ptr 3 0 0), (6, .sl (irows cm)), (8, .int .i64 k)] ⟨rfl, rfl, rfl, rfl, rfl, trivial⟩ fun C hC fr => ?_
            have hJ : ∀ fr es' b c0 tmp, D3 es' h1 h2 (some (b, c0)) cc ss (pp ++ [⟨1, wi, k, .mk ti tk tx tks, []⟩]) → Holds fr [(0, .ptr 0 0 0), (4, .ptr 2 0 0), (5, .ptr 3 0 0), (6, .sl (irows cm)), (8, .int .i64 k)] →
                C fr [dbox (hdV h1 cc.length) (hdV h2 ss.length) (.dref b (pp.length + 1) c0), poolO es', ⟨[[.int .i64 wi, .str wk, .str wx, .sl (T.rows wks)]], 4, true, true, true, .cell⟩, ⟨[[.int .i64 wi, .str ik, .str ix, .sl (T.rows iks)]], 4, true, true, true, .cell⟩, ⟨tmp, 8, true, true, false, .cell⟩] := by
              intro fr es' b c0 tmp hD' hh
              obtain ⟨fr, rfl⟩ := hh.split
              refine hC _ _ ?_
              clear hC hh
              conv => whnf
              refine ⟨n - 1, by omega, some [0, 1, 2, 3], ?_⟩
              conv => whnf
              refine ⟨k + 1, es', h1, h2, some (b, c0), cc, ss, pp ++ [⟨1, wi, k, .mk ti tk tx tks, []⟩], by omega, hcc, hss, q3, hD', ⟨rfl, rfl, rfl, rfl, hwk, trivial⟩, ?_⟩
              rw [List.length_append]
              rcases h1 with _ | ⟨_, _⟩ <;> rcases h2 with _ | ⟨_, _⟩ <;> rfl
            clear hC
            rcases h3 with _ | ⟨b0, cc0⟩
            all_goals
              conv => whnf
              repeat' (first
                | (refine ⟨by omega, T.rows iks, _, 4, rfl, hg, rfl, rfl, ?_⟩
                   conv => whnf)
                | (refine ⟨_, .inl hcp, ?_⟩
                   conv => whnf)
                | (rintro r rfl
                   conv => whnf)
                | (refine semStep3 (k := 1) (q := ⟨1, wi, k, .mk ti tk tx tks, []⟩) rfl rfl rfl rfl rfl rfl rfl rfl rfl hD (.inl rfl) hlb ?_
                   intro es' b c0 hD'
                   conv => whnf
                   exact hJ _ es' b c0 _ hD' ⟨rfl, rfl, rfl, rfl, rfl, trivial⟩)
                | fail)
        · rw [ltB_f (by omega)]
          rw [List.take_of_length_le (by omega)] at hcc hss hpp
          have E1 : c ++ (((wks.filter fun k => !decide (k.id ∈ cm)).map fun k => cutStp k.id) ++ (pairsL (.mk wi wk wx wks) cm iks).flatMap fun p => cutsOf (locB p) p) = cc := by rw [← List.append_assoc, ← hc', ← hcc]
          have E2 : s ++ (((if wk ≠ ik then [(⟨4, wi, 0, TZ, ik⟩ : Stp)] else []) ++ (if wx ≠ ix then [(⟨3, wi, 0, TZ, ix⟩ : Stp)] else [])) ++ (pairsL (.mk wi wk wx wks) cm iks).flatMap wordsOf) = ss := by rw [← List.append_assoc, ← hSS, ← hss]
          rcases h1 with _ | ⟨a1, a2⟩ <;> rcases h2 with _ | ⟨a3, a4⟩ <;> rcases h3 with _ | ⟨a5, a6⟩
          all_goals
            conv => whnf
            refine ⟨[], true, ?_⟩
            conv => whnf
            rw [E1, E2, ← hpp]
            exact ⟨rfl, es, _, _, _, hD, rfl⟩
      clear hC2
      conv => whnf
      refine semStep2 (k := 1) (s := (s ++ [(⟨4, wi, 0, TZ, ik⟩ : Stp)])) (q := (⟨3, wi, 0, TZ, ix⟩ : Stp)) rfl rfl rfl rfl rfl rfl rfl (by show [_, _] = [_, _]; rw [List.length_append]; rfl) rfl hD1 (.inl rfl) (by rw [List.length_append, List.length_singleton]; omega) fun es2 b2 c2 hD2 => ?_
      conv => whnf
      exact hJ2 _ es2 b2 c2 _ hD2 ⟨rfl, rfl, rfl, rfl, trivial⟩
    clear hC1
    rcases h2 with _ | ⟨b0, c0⟩
    all_goals
      conv => whnf
      refine semStep2 (k := 1) (s := s) (q := (⟨4, wi, 0, TZ, ik⟩ : Stp)) rfl rfl rfl rfl rfl rfl rfl rfl rfl hD (.inl rfl) (by omega) fun es1 b1 c1 hD1 => ?_
      conv => whnf
      exact hJ1 _ es1 b1 c1 _ hD1 ⟨rfl, rfl, rfl, rfl, trivial⟩
end Go.Cod

namespace Go.Cod
open Go Go.Proofs
set_option linter.all false
set_option maxRecDepth 10000

theorem node_full : ∀ (i w : T), w.id = i.id → w.Small → i.Small → w.ids.Nodup → i.ids.Nodup → ∀ es h1 h2 h3 c s p, D3 es h1 h2 h3 c s p → c.length + (cutsL w i).length ≤ 1000000 → s.length + (setsL w i).length ≤ 1000000 → p.length + (sputT w i).length ≤ 1000000 →
    Full Try.prog noY 36 [.ptr 0 0 0, .agg w.cells, .agg i.cells] [dbox (hdV h1 c.length) (hdV h2 s.length) (hdV h3 p.length), poolO es] (NodeR w i c s p) := by
  intro i
  induction i using T.ind with
  | h id kd tx ks ih =>
    intro w hid hw hi hwn hin es h1 h2 h3 c s p hD bc bs bp
    obtain ⟨wi, wk, wx, wks⟩ := w
    obtain rfl : wi = id := hid
    have hw' := hw
    cases hw with
    | mk w1 w2 w3 w4 w5 =>
    cases hi with
    | mk i1 i2 i3 i4 i5 =>
    have nk := (kids_nodup hin).1
    have nw := (kids_nodup hwn).1
    simp only [T.kids] at nk nw
    have ih' : ∀ k ∈ ks, k.id ∈ wks.map T.id → ∀ es h1 h2 h3 c s p, D3 es h1 h2 h3 c s p → c.length + (cutsL (kidIn wks k.id) k).length ≤ 1000000 → s.length + (setsL (kidIn wks k.id) k).length ≤ 1000000 → p.length + (sputT (kidIn wks k.id) k).length ≤ 1000000 →
        Full Try.prog noY 36 [.ptr 0 0 0, .agg (kidIn wks k.id).cells, .agg k.cells] [dbox (hdV h1 c.length) (hdV h2 s.length) (hdV h3 p.length), poolO es] (NodeR (kidIn wks k.id) k c s p) := fun k hk hx => by
      obtain ⟨m1, m2⟩ := kidIn_mem hx
      exact ih k hk _ m2 (w5 _ m1) (i5 _ hk) (kid_nodup nw m1) (kid_nodup nk hk)
    by_cases e1 : wk = kd <;> by_cases e2 : wx = tx
    · exact node_tt wi wk wx wks kd tx ks w4 i4 w2 hw' i5 hwn ih' e1 e2 es h1 h2 h3 c s p hD bc bs bp
    · exact node_tf wi wk wx wks kd tx ks w4 i4 w2 hw' i5 hwn ih' e1 e2 es h1 h2 h3 c s p hD bc bs bp
    · exact node_ft wi wk wx wks kd tx ks w4 i4 w2 hw' i5 hwn ih' e1 e2 es h1 h2 h3 c s p hD bc bs bp
    · exact node_ff wi wk wx wks kd tx ks w4 i4 w2 hw' i5 hwn ih' e1 e2 es h1 h2 h3 c s p hD bc bs bp
/- How much there is. -/
mutual
theorem sput_len : ∀ w i : T, (sputT w i).length + 1 ≤ i.size
  | w, .mk id kind text kids => by
    have := sputL_len w id (lcs w.kidIds (kids.map T.id)) 0 kids
    simp only [sputT, T.size]
    omega
theorem sputL_len : ∀ (w : T) (x : Int) (c : List Int) (n : Nat) (ks : List T), (sputL w x c n ks).length ≤ T.sizeL ks
  | _, _, _, _, [] => by simp [sputL]
  | w, x, c, n, k :: ks => by
    have h1 := sput_len (kidOf w k.id) k
    have h2 := sputL_len w x c (n + 1) ks
    simp only [sputL, List.length_append, T.sizeL]
    split
    · omega
    · simp only [List.length_singleton]; omega
end
theorem sets_len (w i : T) : (setsL w i).length ≤ 2 * i.size := by
  unfold setsL
  have h1 := fm_len (f := wordsOf) (l := pairsT w i) (m := 2) fun p _ => words_len p
  have h2 := pairs_len w i
  omega
end Go.Cod

namespace Go.Cod
open Go Go.Proofs
set_option linter.all false
set_option maxRecDepth 10000

/-! Few steps: mathematics. -/
theorem puts_not (kept : Int → Bool) : ∀ t : T, ∀ s ∈ putsT kept t, s.kind = 1 ∧ kept s.node.id = false := by
  intro t
  induction t using T.ind with
  | h id kd tx ks ih =>
    rw [putsT]
    have key : ∀ (ls : List T) (n : Nat), (∀ k ∈ ls, k ∈ ks) → ∀ s ∈ putsL kept id n ls, s.kind = 1 ∧ kept s.node.id = false := by
      intro ls
      induction ls with
      | nil => intro n _ s hs; simp [putsL] at hs
      | cons k ls ihl =>
        intro n hk s hs
        rw [putsL, List.mem_append] at hs
        rcases hs with hs | hs
        · cases hkp : kept k.id with
          | true => rw [hkp, if_pos rfl] at hs; exact ih k (hk k List.mem_cons_self) s hs
          | false =>
            rw [hkp, if_neg (by simp), List.mem_singleton] at hs
            subst hs; exact ⟨rfl, hkp⟩
        · exact ihl (n + 1) (fun k h => hk k (List.mem_cons_of_mem _ h)) s hs
    exact key ks 0 fun _ h => h
theorem cuts_not (kept : Int → Bool) (p : T × T) : ∀ s ∈ cutsOf kept p, s.kind = 2 ∧ kept s.id = false := by
  intro s hs
  unfold cutsOf at hs
  obtain ⟨k, hk, rfl⟩ := List.mem_map.1 hs
  have := (List.mem_filter.1 hk).2
  exact ⟨rfl, by simpa [cutStp] using this⟩
theorem words_not (p : T × T) : ∀ s ∈ wordsOf p, 2 < s.kind := by
  intro s hs
  unfold wordsOf at hs
  rcases List.mem_append.1 hs with hs | hs
  · split at hs
    · rw [List.mem_singleton] at hs; subst hs; show (2 : Int) < 4; omega
    · cases hs
  · split at hs
    · rw [List.mem_singleton] at hs; subst hs; show (2 : Int) < 3; omega
    · cases hs
/-- What is put or cut is not kept. -/
theorem diff_not {a b : T} : ∀ s ∈ diffT a b, (s.kind = 1 → s.node.id ∉ keptOf (pairsT a b)) ∧ (s.kind = 2 → s.id ∉ keptOf (pairsT a b)) ∧ 1 ≤ s.kind := by
  intro s hs
  unfold diffT at hs
  rcases List.mem_append.1 hs with hs | hs
  · obtain ⟨p, _, hp⟩ := List.mem_flatMap.1 hs
    obtain ⟨h1, h2⟩ := cuts_not _ p s hp
    refine ⟨fun h => absurd (h1.symm.trans h) (by omega), fun _ h => ?_, by omega⟩
    unfold keptB at h2
    rw [decide_eq_true h] at h2
    cases h2
  · rcases List.mem_append.1 hs with hs | hs
    · obtain ⟨p, _, hp⟩ := List.mem_flatMap.1 hs
      have := words_not p s hp
      exact ⟨fun h => by omega, fun h => by omega, by omega⟩
    · obtain ⟨h1, h2⟩ := puts_not _ b s hs
      refine ⟨fun _ h => ?_, fun h => by omega, by omega⟩
      unfold keptB at h2
      rw [decide_eq_true h] at h2
      cases h2
theorem kids_sum : ∀ (ks : List T) (c : List Int), (ks.map T.id).Nodup → c.Sublist (ks.map T.id) → (ks.filter fun k => !decide (k.id ∈ c)).length + (c.map fun x => (kidIn ks x).size).sum ≤ T.sizeL ks := by
  intro ks
  induction ks with
  | nil =>
    intro c _ h
    rw [List.map_nil, List.sublist_nil] at h
    subst h; simp [T.sizeL]
  | cons k ks ih =>
    intro c hn h
    rw [List.map_cons] at h hn
    obtain ⟨n1, n2⟩ := List.nodup_cons.1 hn
    have hp := size_pos k
    cases h with
    | cons _ h =>
      have hk : k.id ∉ c := fun z => n1 (h.subset z)
      have h1 := ih c n2 h
      have h2 : c.map (fun x => (kidIn (k :: ks) x).size) = c.map fun x => (kidIn ks x).size := List.map_congr_left fun x hx => by rw [kidIn_ne fun e => hk (e ▸ hx)]
      rw [h2, List.filter_cons, decide_eq_false hk]
      simp only [Bool.not_false, if_true, List.length_cons, T.sizeL]
      omega
    | cons_cons _ h =>
      rename_i c
      have h1 := ih c n2 h
      have h2 : c.map (fun x => (kidIn (k :: ks) x).size) = c.map fun x => (kidIn ks x).size := List.map_congr_left fun x hx => by rw [kidIn_ne fun e => n1 (e ▸ h.subset hx)]
      have h3 : (ks.filter fun s => !decide (s.id ∈ k.id :: c)) = ks.filter fun s => !decide (s.id ∈ c) := List.filter_congr fun s hs => by
        have hne : s.id ≠ k.id := fun e => n1 (e ▸ List.mem_map_of_mem hs)
        simp [hne]
      rw [List.map_cons, List.sum_cons, kidIn_eq, h2, List.filter_cons, decide_eq_true List.mem_cons_self]
      simp only [Bool.not_true, Bool.false_eq_true, if_false, T.sizeL]
      rw [h3]
      omega
theorem fm_sum {α : Type} {F : Int → List α} {g : Int → Nat} : ∀ {c : List Int}, (∀ x ∈ c, (F x).length ≤ g x) → (c.flatMap F).length ≤ (c.map g).sum
  | [], _ => by simp
  | x :: c, h => by
    rw [List.flatMap_cons, List.length_append, List.map_cons, List.sum_cons]
    have h1 := h x List.mem_cons_self
    have h2 := fm_sum (c := c) fun y hy => h y (List.mem_cons_of_mem _ hy)
    omega
theorem cutsL_len : ∀ i w : T, w.ids.Nodup → i.ids.Nodup → (cutsL w i).length + 1 ≤ w.size := by
  intro i
  induction i using T.ind with
  | h id kd tx ks ih =>
    intro w hwn hin
    obtain ⟨wi, wk, wx, wks⟩ := w
    have nk := (kids_nodup hin).1
    have nw := (kids_nodup hwn).1
    simp only [T.kids] at nk nw
    have hsub := lcs_sub _ (wks.map T.id) (ks.map T.id) (Nat.le_refl _)
    have h1 := kids_sum wks (lcs (wks.map T.id) (ks.map T.id)) (ids_nodup nw) hsub.1
    have h2 : cutsL (.mk wi wk wx wks) (.mk id kd tx ks) = ((wks.filter fun k => !decide (k.id ∈ lcs (wks.map T.id) (ks.map T.id))).map fun k => cutStp k.id) ++ (lcs (wks.map T.id) (ks.map T.id)).flatMap fun x => cutsL (kidIn wks x) (kidIn ks x) := by
      unfold cutsL
      rw [pairsT, List.flatMap_cons, show (T.mk wi wk wx wks).kidIds = wks.map T.id from rfl, pairsL_common _ _ _ (ids_nodup nk) hsub.2, List.flatMap_assoc]
      rfl
    have h3 := fm_sum (F := fun x => cutsL (kidIn wks x) (kidIn ks x)) (g := fun x => (kidIn wks x).size) (c := lcs (wks.map T.id) (ks.map T.id)) fun x hx => by
      obtain ⟨m1, m2⟩ := kidIn_mem (hsub.1.subset hx)
      obtain ⟨r1, r2⟩ := kidIn_mem (hsub.2.subset hx)
      have := ih _ r1 _ (kid_nodup nw m1) (kid_nodup nk r1)
      omega
    rw [h2, List.length_append, List.length_map]
    simp only [T.size]
    omega
/-- At most eighty steps. -/
theorem diff_few {a b : T} (ha : a.ids.Nodup) (hb : b.ids.Nodup) (hab : a.id = b.id) (za : a.size ≤ 20) (zb : b.size ≤ 20) : (diffT a b).length ≤ 80 := by
  rw [← spec_diff ha hb hab]
  have h1 := cutsL_len b a ha hb
  have h2 := sets_len a b
  have h3 := sput_len a b
  unfold specT
  unfold cutsL at h1
  unfold setsL at h2
  simp only [List.length_append]
  omega
end Go.Cod

namespace Go.Cod
open Go Go.Proofs
set_option linter.all false
set_option maxRecDepth 10000

/-- What is alone in one thing that is kept is kept. -/
theorem pair_alone {a b w i k s : T} (hp : (w, i) ∈ pairsT a b) (hw : w.kids = [k]) (hi : i.kids = [s]) (he : k.id = s.id) : (k, s) ∈ pairsT a b := by
  refine pairs_trans b a w i k s hp ?_
  rw [pairsT_eq]
  have hc : s.id ∈ commonT (w, i) := by
    unfold commonT T.kidIds
    show s.id ∈ lcs (w.kids.map T.id) (i.kids.map T.id)
    rw [hw, hi, List.map_singleton, List.map_singleton, he, lcs_cons, if_pos rfl]
    exact List.mem_cons_self
  have hk : kidOf w s.id = k := by
    unfold kidOf
    rw [hw, List.find?_cons, decide_eq_true he]; rfl
  refine List.mem_cons_of_mem _ (pairsL_of (k := s) (by rw [hi]; exact List.mem_cons_self) hc ?_)
  rw [hk]; exact pairs_self k s
theorem pair_kept {a b w i : T} (hp : (w, i) ∈ pairsT a b) : i.id ∈ keptOf (pairsT a b) := List.mem_map.2 ⟨_, hp, rfl⟩
end Go.Cod

namespace Go.Cod
open Go Go.Proofs
set_option linter.all false
set_option maxRecDepth 10000

theorem SlIn.src {es : List (List V)} {g : Option (Nat × Nat)} {M : List Stp} {st : St} {k : Nat} (h : SlIn es g M) (hpe : poolEs st k = es) : PSrc st (hdV g M.length) (nrows M) := by
  rcases g with _ | ⟨b, c⟩
  · have hM : M = [] := h
    subst hM
    exact .inl rfl
  · have hm : ent b c 8 (nrows M) ∈ poolEs st k := by rw [hpe]; exact h
    exact .inr ⟨b, 8, 0, M.length, c, k, c, nrows M, .inr ⟨rfl, rfl⟩, hm, by rw [nrows_len]; omega, by rw [List.drop_zero, List.take_of_length_le (by rw [nrows_len]; omega)]⟩
/-- One list behind another one, both in a pool. -/
theorem semAll {o : Oper} {sl x : Operand} {t u e : TypeId} {ti : TI} (ho : o.op = .call { callee := .builtin .append, args := #[sl, x], argTypes := #[t, u] }) (hk : kindOf (tauOf tauL) t = some (.slice e)) (hti : tauOf tauL e = some ti) (hu : notInt (kindOf (tauOf tauL) u) = true)
    (hz : ti.zero.cells.length = ti.size) (hsz : ti.size = 8) (hby : ti.bytes = 104) {vs : List V} {k : Nat} {h g : Option (Nat × Nat)} {L M : List Stp} {es : List (List V)} {st : St} {K : V → St → Prop} (hvs : vs = [hdV h L.length, hdV g M.length]) (hpe : st[k]? = some (poolO es)) (hin : SlIn es h L) (hg : SlIn es g M)
    (hl : L.length + M.length ≤ 1000000) (h0 : h = none → M = [] → K .nils st)
    (hr : ∀ b c, h = some (b, c) → K (.dref b (L.length + M.length) c) (st.set k (poolO (putEnt b (nrows (L ++ M)) es))))
    (hn : ∀ b c, (∀ e ∈ es, labOf e ≠ b) → K (.dref b (L.length + M.length) c) (st.set k (poolO (es ++ [ent b c 8 (nrows (L ++ M))])))) : SemOp Try.prog o vs st K := by
  have hpe' : poolEs st k = es := by simp only [poolEs, hpe]; rfl
  have hw : ∀ m ∈ nrows M, m.length = ti.size := by rw [hsz]; exact nrows_wid _
  have hsrc := hg.src hpe'
  rcases h with _ | ⟨b, c⟩
  · have hL : L = [] := hin
    subst hL
    by_cases hM : M = []
    · subst hM
      exact semAppendNil0 good ho hk hti hu hvs hsrc (h0 rfl rfl)
    · have hpos : 0 < M.length := List.length_pos_iff.2 hM
      refine semAppendNil (m := M.length) good ho hk hti hu hz (by omega) hvs hpe hsrc hw (nrows_len M) hpos (by rw [hby]; simp only [List.length_nil] at hl; omega) fun b c _ hf => ?_
      rw [hsz]
      have := hn b c hf
      rw [List.length_nil, Nat.zero_add, List.nil_append] at this
      exact this
  · have hm : ent b c ti.size (nrows L) ∈ es := by rw [hsz]; exact hin
    refine semAppendE (m := M.length) (rows := nrows L) (es1 := putEnt b (nrows (L ++ M)) es) good ho hk hti hu hz (by omega) hvs hpe' hm hsrc hw (nrows_len M) (by rw [nrows_len]; omega) (by rw [hby]; omega) (by rw [laid_nrows]) (fun _ => hr b c rfl) fun _ b' c' _ hf => ?_
    rw [List.take_of_length_le (by rw [nrows_len]; omega), ← nrows_append, hsz]
    exact hn b' c' hf
end Go.Cod

namespace Go.Cod
open Go Go.Proofs
set_option maxRecDepth 10000

/- A drawn tree is even: where a number stands twice, the later ones bear as many kids as the first. -/
def T.Even (t : T) : Prop := ∀ (x : Int) (s : T) (n : Nat), fT t x = some s → n ≤ s.kids.length → t.PutOk x n
def EvenL (ts : List T) : Prop := ∀ (x : Int) (s : T) (n : Nat), fL ts x = some s → n ≤ s.kids.length → T.PutOkL x n ts
theorem even_nodup {t : T} (hn : t.ids.Nodup) : t.Even := fun x s n h1 h2 => putOk_found x n t s hn h1 h2
theorem evenL_nodup {ts : List T} (hn : (T.idsL ts).Nodup) : EvenL ts := fun x s n h1 h2 => putOkL_found x n ts s hn h1 h2
theorem even_mk {id : Int} {kind text : List UInt8} {kids : List T} (h : ∀ (x : Int) (s : T) (n : Nat), x ≠ id → fL kids x = some s → n ≤ s.kids.length → T.PutOkL x n kids) : (T.mk id kind text kids).Even := by
  intro x s n h1 h2
  simp only [fT] at h1
  simp only [T.PutOk]
  by_cases e : id = x
  · rw [if_pos e] at h1 ⊢
    cases h1
    exact h2
  · rw [if_neg e] at h1 ⊢
    exact h x s n (Ne.symm e) h1 h2
theorem fL_append (a b : List T) (x : Int) : fL (a ++ b) x = match fL a x with
    | some s => some s
    | none => fL b x := by
  induction a with
  | nil => rfl
  | cons t a ih =>
    simp only [List.cons_append, fL, ih]
    cases fT t x <;> rfl
theorem putOkL_append {x : Int} {n : Nat} {a b : List T} (ha : T.PutOkL x n a) (hb : T.PutOkL x n b) : T.PutOkL x n (a ++ b) := by
  induction a with
  | nil => exact hb
  | cons t a ih => exact ⟨ha.1, ih ha.2⟩
/-- What spoiling adds to the numbers. -/
def Spec (i : Int) : Prop := i < 2 ∨ 20 ≤ i
theorem wide_ids : ∀ i : Nat, ∀ x ∈ T.idsL (wideN i), 600 ≤ x
  | 0, x, h => by simp [wideN, T.idsL] at h
  | i + 1, x, h => by
    rw [wideN, idsL_snoc] at h
    rcases List.mem_append.1 h with h | h
    · exact wide_ids i x h
    · simp [T.ids, T.idsL] at h; omega
theorem deep_ids (t : T) : ∀ i : Nat, ∀ x ∈ (deepN t i).ids, x ∈ t.ids ∨ 500 ≤ x
  | 0, x, h => .inl h
  | i + 1, x, h => by
    simp only [deepN, T.ids, T.idsL, List.mem_cons, List.append_nil] at h
    rcases h with h | h
    · right; omega
    · exact deep_ids t i x h
theorem spoil_ids {t t' : T} (h : SpoilOf t t') : ∀ x ∈ t'.ids, x ∈ t.ids ∨ Spec x := by
  induction h with
  | @kid id kind text kids i hi t' hs ih =>
    intro x hx
    simp only [T.ids, List.mem_cons] at hx ⊢
    rcases hx with hx | hx
    · exact .inl (.inl hx)
    · have : ∀ (ks : List T) (j : Nat) (hj : j < ks.length), (∀ y ∈ t'.ids, y ∈ ks[j].ids ∨ Spec y) → ∀ y ∈ T.idsL (ks.set j t'), y ∈ T.idsL ks ∨ Spec y := by
        intro ks
        induction ks with
        | nil => intro j hj; simp at hj
        | cons k ks ihk =>
          intro j hj hh y hy
          cases j with
          | zero =>
            simp only [List.set_cons_zero, T.idsL, List.mem_append] at hy ⊢
            rcases hy with hy | hy
            · exact (hh y hy).imp .inl _root_.id
            · exact .inl (.inr hy)
          | succ j =>
            simp only [List.set_cons_succ, T.idsL, List.mem_append] at hy ⊢
            rcases hy with hy | hy
            · exact .inl (.inl hy)
            · exact (ihk j (by simpa using hj) hh y hy).imp .inr _root_.id
      exact (this kids i hi ih x hx).imp .inr _root_.id
  | id z hz =>
    intro x hx
    simp only [T.ids, List.mem_cons] at hx ⊢
    rcases hx with rfl | hx
    · right; unfold Spec; omega
    · exact .inl (.inr hx)
  | word k' x' => exact fun x hx => .inl hx
  | @twice id kind text kids =>
    intro x hx
    simp only [T.ids, idsL_snoc, List.mem_cons, List.mem_append] at hx ⊢
    rcases hx with hx | hx | hx | hx
    · exact .inl (.inl hx)
    · exact .inl (.inr hx)
    · exact .inl (.inl hx)
    · exact .inl (.inr hx)
  | @deep t =>
    intro x hx
    rcases deep_ids t 6 x hx with h | h
    · exact .inl h
    · right; unfold Spec; omega
  | @wide id kind text kids =>
    intro x hx
    simp only [T.ids, T.idsL_append, List.mem_cons, List.mem_append] at hx ⊢
    rcases hx with hx | hx | hx
    · exact .inl (.inl hx)
    · exact .inl (.inr hx)
    · have := wide_ids 20 x hx
      right; unfold Spec; omega
theorem wide_put (x : Int) : ∀ (i : Nat) (n : Nat), n ≤ 0 → T.PutOkL x n (wideN i)
  | 0, _, _ => trivial
  | i + 1, n, h => by
    rw [wideN]
    refine putOkL_append (wide_put x i n h) ⟨?_, trivial⟩
    simp only [T.PutOk]
    split
    · omega
    · trivial
theorem wide_kids : ∀ (i : Nat) (x : Int) (s : T), fL (wideN i) x = some s → s.kids = []
  | 0, x, s, h => by simp [wideN, fL] at h
  | i + 1, x, s, h => by
    rw [wideN, fL_append] at h
    cases h1 : fL (wideN i) x with
    | some s' =>
      rw [h1] at h
      cases h
      exact wide_kids i x s h1
    | none =>
      rw [h1] at h
      simp only [fL, fT] at h
      split at h
      · rename_i s' h2
        split at h2
        · cases h2; cases h; rfl
        · cases h2
      · cases h
theorem deep_even (t : T) (ht : t.Even) (hl : ∀ x ∈ t.ids, x < 500) : ∀ i : Nat, (deepN t i).Even
  | 0 => ht
  | i + 1 => by
    refine even_mk fun x s n hne h1 h2 => ?_
    simp only [fL] at h1
    have : fT (deepN t i) x = some s := by
      cases h3 : fT (deepN t i) x with
      | some s' => rw [h3] at h1; exact h1
      | none => rw [h3] at h1; cases h1
    exact ⟨deep_even t ht hl i x s n this h2, trivial⟩
theorem idsL_get : ∀ (l : List T) (i : Nat) (hi : i < l.length), (T.idsL l).Nodup → l[i].ids.Nodup ∧ ∀ y ∈ l[i].ids, y ∈ T.idsL l
  | [], i, hi, _ => by simp at hi
  | t :: l, 0, _, hn => by
    simp only [T.idsL, List.nodup_append] at hn
    exact ⟨hn.1, fun y hy => by simp only [T.idsL, List.mem_append]; exact .inl hy⟩
  | t :: l, i + 1, hi, hn => by
    simp only [T.idsL, List.nodup_append] at hn
    have := idsL_get l i (by simpa using hi) hn.2.1
    exact ⟨this.1, fun y hy => by simp only [T.idsL, List.mem_append]; exact .inr (this.2 y hy)⟩
theorem kids_ids {t : T} {x : Int} (h : x ∈ T.idsL t.kids) : x ∈ t.ids := by
  cases t
  simp only [T.ids, List.mem_cons]
  exact .inr h
theorem id_ids (t : T) : t.id ∈ t.ids := by
  cases t
  simp only [T.ids, List.mem_cons]
  exact .inl rfl
theorem spoil_even {t t' : T} (h : SpoilOf t t') : t.ids.Nodup → (∀ x ∈ T.idsL t.kids, 2 ≤ x ∧ x < 20) → t.id < 500 → t'.Even := by
  induction h with
  | @kid id kind text kids i hi t' hs ih =>
    intro hn hr2 _
    have hids := spoil_ids hs
    simp only [T.ids, List.nodup_cons] at hn
    have hg := idsL_get kids i hi hn.2
    have hr3 : ∀ x ∈ T.idsL kids, 2 ≤ x ∧ x < 20 := hr2
    have he := ih hg.1 (fun x h => hr3 x (hg.2 x (kids_ids h))) (by have := hr3 _ (hg.2 _ (id_ids kids[i])); omega)
    refine even_mk fun x s n hne => ?_
    have key : ∀ (ks : List T) (j : Nat) (hj : j < ks.length), (T.idsL ks).Nodup → (∀ y ∈ t'.ids, y ∈ ks[j].ids ∨ Spec y) → t'.Even → (∀ y ∈ T.idsL ks, y = x → ¬ Spec x ∨ x ∉ t'.ids ∨ y ∈ ks[j].ids) →
        fL (ks.set j t') x = some s → n ≤ s.kids.length → T.PutOkL x n (ks.set j t') := by
      intro ks
      induction ks with
      | nil => intro j hj; simp at hj
      | cons k ks ihk =>
        intro j hj hkn hh he hs1 h1 h2
        simp only [T.idsL, List.nodup_append] at hkn
        cases j with
        | zero =>
          simp only [List.set_cons_zero, fL] at h1 ⊢
          simp only [List.getElem_cons_zero] at hh hs1
          cases h3 : fT t' x with
          | some s' =>
            rw [h3] at h1
            cases h1
            have hx : x ∈ t'.ids := Decidable.byContradiction fun hc => by rw [(fT_none t' x).2 hc] at h3; cases h3
            refine ⟨he x s n h3 h2, putOkL_none x n ks fun hks => ?_⟩
            rcases hh x hx with h | h
            · exact hkn.2.2 x h x hks rfl
            · rcases hs1 x (by simp [T.idsL, hks]) rfl with h4 | h4 | h4
              · exact h4 h
              · exact h4 hx
              · exact hkn.2.2 x h4 x hks rfl
          | none =>
            rw [h3] at h1
            exact ⟨putOk_none x n t' ((fT_none t' x).1 h3), evenL_nodup hkn.2.1 x s n h1 h2⟩
        | succ j =>
          simp only [List.set_cons_succ, fL] at h1 ⊢
          simp only [List.getElem_cons_succ] at hh hs1
          have hj' : j < ks.length := by simpa using hj
          have hkj : ∀ y ∈ ks[j].ids, y ∈ T.idsL ks := by
            intro y hy
            have : ∀ (l : List T) (i : Nat) (hi : i < l.length), y ∈ l[i].ids → y ∈ T.idsL l := by
              intro l
              induction l with
              | nil => intro i hi; simp at hi
              | cons a l ihl =>
                intro i hi h
                simp only [T.idsL, List.mem_append]
                cases i with
                | zero => exact .inl h
                | succ i => exact .inr (ihl i (by simpa using hi) h)
            exact this ks j hj' hy
          cases h3 : fT k x with
          | some s' =>
            rw [h3] at h1
            cases h1
            have hx : x ∈ k.ids := Decidable.byContradiction fun hc => by rw [(fT_none k x).2 hc] at h3; cases h3
            refine ⟨putOk_found x n k s hkn.1 h3 h2, putOkL_none x n _ fun hks => ?_⟩
            have hxk : x ∉ T.idsL ks := fun h => hkn.2.2 x hx x h rfl
            have hmem : x ∈ t'.ids ∨ x ∈ T.idsL ks := by
              have : ∀ (l : List T) (i : Nat), x ∈ T.idsL (l.set i t') → x ∈ t'.ids ∨ x ∈ T.idsL l := by
                intro l
                induction l with
                | nil => intro i h; simp [T.idsL] at h
                | cons a l ihl =>
                  intro i h
                  cases i with
                  | zero =>
                    simp only [List.set_cons_zero, T.idsL, List.mem_append] at h ⊢
                    exact h.imp _root_.id .inr
                  | succ i =>
                    simp only [List.set_cons_succ, T.idsL, List.mem_append] at h ⊢
                    rcases h with h | h
                    · exact .inr (.inl h)
                    · exact (ihl i h).imp _root_.id .inr
              exact this ks j hks
            rcases hmem with h | h
            · rcases hs1 x (by simp [T.idsL, hx]) rfl with h4 | h4 | h4
              · rcases hh x h with h5 | h5
                · exact hxk (hkj x h5)
                · exact h4 h5
              · exact h4 h
              · exact hxk (hkj x h4)
            · exact hxk h
          | none =>
            rw [h3] at h1
            exact ⟨putOk_none x n k ((fT_none k x).1 h3), ihk j hj' hkn.2.1 hh he (fun y hy => hs1 y (by simp [T.idsL, hy])) h1 h2⟩
    exact fun h1 h2 => key kids i hi hn.2 hids he (fun y hy e => .inl (by subst e; unfold Spec; have := hr3 y hy; omega)) h1 h2
  | @id id kind text kids z hz =>
    intro hn _ _
    simp only [T.ids, List.nodup_cons] at hn
    exact even_mk fun x s n _ h1 h2 => evenL_nodup hn.2 x s n h1 h2
  | @word id kind text kids k' x' =>
    intro hn _ _
    simp only [T.ids, List.nodup_cons] at hn
    exact even_mk fun x s n _ h1 h2 => evenL_nodup hn.2 x s n h1 h2
  | @twice id kind text kids =>
    intro hn _ _
    simp only [T.ids, List.nodup_cons] at hn
    refine even_mk fun x s n hne h1 h2 => ?_
    rw [fL_append] at h1
    cases h3 : fL kids x with
    | some s' =>
      rw [h3] at h1
      cases h1
      have := evenL_nodup hn.2 x s n h3 h2
      refine putOkL_append this ⟨?_, trivial⟩
      simp only [T.PutOk]
      rw [if_neg (Ne.symm hne)]
      exact this
    | none =>
      rw [h3] at h1
      have hx := (fL_none kids x).1 h3
      simp only [fL, fT, if_neg (Ne.symm hne), h3] at h1
      cases h1
  | @deep t =>
    intro hn hr h5
    refine deep_even t (even_nodup hn) (fun x h => ?_) 6
    cases t with
    | mk id kind text kids =>
    simp only [T.ids, List.mem_cons] at h
    rcases h with rfl | h
    · exact h5
    · have := hr x h; omega
  | @wide id kind text kids =>
    intro hn hr _
    simp only [T.ids, List.nodup_cons] at hn
    refine even_mk fun x s n hne h1 h2 => ?_
    rw [fL_append] at h1
    cases h3 : fL kids x with
    | some s' =>
      rw [h3] at h1
      cases h1
      have hx : x ∈ T.idsL kids := Decidable.byContradiction fun hc => by rw [(fL_none kids x).2 hc] at h3; cases h3
      refine putOkL_append (evenL_nodup hn.2 x s n h3 h2) (putOkL_none x n _ fun h => ?_)
      have := wide_ids 20 x h
      have := hr x hx
      omega
    | none =>
      rw [h3] at h1
      have h4 := wide_kids 20 x s h1
      rw [h4] at h2
      exact putOkL_append (putOkL_none x n kids ((fL_none kids x).1 h3)) (wide_put x 20 n h2)
theorem drawn_even {t : T} (h : Drawn t) : t.Even := by
  obtain ⟨t0, h1, h2, h3, _, rfl | h4⟩ := h
  · exact even_nodup h1
  · refine spoil_even h4 h1 (fun x hx => ?_) (by omega)
    have h5 := h2 x (kids_ids hx)
    have : x ≠ 1 := fun e => by
      cases t0 with
      | mk id kind text kids =>
      simp only [T.ids, List.nodup_cons] at h1
      have h3 : id = 1 := h3
      exact h1.1 (by rw [h3, ← e]; exact hx)
    omega
theorem nodup_len : ∀ (n : Nat) (l : List Int) (lo : Int), l.Nodup → (∀ i ∈ l, lo ≤ i ∧ i < lo + n) → l.length ≤ n
  | 0, l, lo, _, h => by
    cases l with
    | nil => simp
    | cons a l => have := h a (List.mem_cons_self ..); omega
  | n + 1, l, lo, hn, h => by
    have := nodup_len n (l.erase (lo + n)) lo (hn.erase _) fun i hi => by
      obtain ⟨h1, h2⟩ := hn.mem_erase_iff.1 hi
      have := h i h2
      omega
    rw [List.length_erase] at this
    split at this <;> omega
theorem drawn_size {t : T} (h : Drawn t) : t.size ≤ 60 := by
  obtain ⟨t0, h1, h2, h3, h4, _⟩ := h
  have := nodup_len 19 t0.ids 1 h1 fun i hi => by have := h2 i hi; omega
  rw [T.ids_size] at this
  omega
end Go.Cod

namespace Go.Cod
open Go Go.Proofs
set_option maxRecDepth 10000

set_option maxHeartbeats 4000000 in
theorem l4Do_even (t : T) (s : Stp) (ht : t.Small) (hz : t.size ≤ 10000) (hn : t.Even) (hs : s.node.Small) (hsz : s.node.size ≤ 1048577) (htx : s.text.length ≤ 1048576) :
    Pure Try.prog 58 [.agg t.cells, .agg s.cells] (· = doR t (doT t s)) := by
  have f1 := l2Find_pure t ht s.id
  have f2 := l4Bare_pure s
  have f3 := specTreeOk_pure s.node hs (by rw [T.ids_size]; exact hsz)
  have f4 : ∀ x : T, fT t s.id = some x → s.at_.toNat ≤ x.kids.length → Pure Try.prog 83 [.agg t.cells, .int .i64 s.id, .int .i64 s.at_.toNat, .agg s.node.cells] (· = .agg (t.mapAt s.id (putKidT s.at_.toNat s.node)).cells) := fun x h1 h2 => l4Put_pure t ht s.id s.at_.toNat s.node (hn s.id x s.at_.toNat h1 h2)
  have f5 := l4Cut_pure t ht s.id
  have f6 := l4Set_pure t ht s.id
  have f7 : ∀ y : T, y.Small → y.size ≤ 1048577 → Pure Try.prog 11 [.agg y.cells] (· = .bool (okT y)) := fun y h1 h2 => specTreeOk_pure y h1 (by rw [T.ids_size]; exact h2)
  have z1 : ∀ x, okT s.node = true → (t.mapAt s.id (putKidT x s.node)).Small ∧ (t.mapAt s.id (putKidT x s.node)).size ≤ 1048577 := fun x h => by
    have hk := okT_size h
    refine ⟨T.mapAt_small _ _ 1000000 (fun y h1 _ h2 => putKidT_small x s.node y h1 hs h2) t ht (by omega), ?_⟩
    have := T.mapAt_size s.id (putKidT x s.node) 20 (fun y => by rw [putKidT_size]; omega) t
    omega
  have z2 := T.cut_small s.id t ht
  have z3 : ∀ k w : List UInt8, k.length ≤ 1048576 → w.length ≤ 1048576 → (t.mapAt s.id (setT k w)).Small ∧ (t.mapAt s.id (setT k w)).size ≤ 1048577 := fun k w h1 h2 => by
    refine ⟨T.mapAt_small _ _ 1000000 (fun y h _ _ => setT_small k w y h h1 h2) t ht (by omega), ?_⟩
    have := T.mapAt_size s.id (setT k w) 0 (fun y => by rw [setT_size]; omega) t
    omega
  have hsm := fun x => fT_small t s.id ht x
  have hed : editT t s = match fT t s.id with
    | none => none
    | some x => if bareT s = false then none else
      if s.kind = 1 then (if 0 ≤ s.at_ ∧ s.at_ ≤ x.kids.length ∧ okT s.node = true then some (t.mapAt s.id (putKidT s.at_.toNat s.node)) else none)
      else if s.kind = 2 then (if s.id = t.id then none else some (t.cut s.id))
      else if s.kind = 3 then some (t.mapAt s.id (setT x.kind s.text))
      else if s.kind = 4 then some (t.mapAt s.id (setT s.text x.text))
      else none := rfl
  have d0 : editT t s = none → doT t s = none := doT_none
  have d1 : ∀ y, editT t s = some y → doT t s = okO y := fun y => doT_some
  generalize doT t s = d at *
  generalize editT t s = e at *
  generalize fT t s.id = f at *
  generalize bareT s = b at *
  cases s with
  | mk kind sid at_ node text =>
  simp only at f1 f3 f4 f5 f6 z1 z2 z3 hed hs hsz htx hsm
  generalize T.cut sid t = tc at *
  generalize hset : (fun k w => T.mapAt sid (setT k w) t) = ts at *
  have hset : ∀ k w, T.mapAt sid (setT k w) t = ts k w := fun k w => by rw [← hset]
  simp only [hset] at f6 z3 hed
  generalize hput : T.mapAt sid (putKidT at_.toNat node) t = tp at *
  have zp : okT node = true → tp.Small ∧ tp.size ≤ 1048577 := fun h => hput ▸ z1 at_.toNat h
  clear hset hput z1
  generalize okT node = okn at *
  have hend : ∀ y : T, e = some y → y.Small → y.size ≤ 1048577 → Pure Try.prog 11 [.agg y.cells] (· = .bool (okT y)) ∧ d = okO y := fun y h1 h2 h3 => ⟨f7 y h2 h3, d1 y h1⟩
  clear f7 d1
  have hok : ∀ y : T, e = some y → d = okO y → doR t d = if okT y = true then .tup [.agg y.cells, .bool true] else .tup [.agg t.cells, .bool false] := fun y _ h => by
    rw [h]; unfold okO
    split <;> rfl
  simp only [Stp.cells] at f2 ⊢
  have hbig : ∀ y : T, y.Small → y.size ≤ 1048577 → e = some y → d = okO y ∧ Pure Try.prog 11 [.agg y.cells] (· = .bool (okT y)) := fun y h1 h2 h3 => ⟨(hend y h3 h1 h2).2, (hend y h3 h1 h2).1⟩
  clear hend
  cases t with
  | mk tid tk tx tks =>
  cases node with
  | mk nid nk nx nks =>
  refine pure_of_awp good Try.func58 rfl (by kernel_rfl) (by decide) ?_
  conv => whnf
  refine .inl (f1.mono ?_)
  rintro r rfl
  cases f with
  | none =>
    conv => whnf
    rw [d0 hed]
    rfl
  | some x =>
    cases x with
    | mk xid xk xx xks =>
    conv => whnf
    refine .inl (f2.mono ?_)
    rintro r rfl
    cases b with
    | false =>
      conv => whnf
      rw [d0 hed]
      rfl
    | true =>
      simp only [Bool.true_eq_false, if_false] at hed
      conv => whnf
      by_cases k1 : kind = 1
      · rw [if_pos k1] at hed
        rw [eqB_t k1]
        conv => whnf
        refine .inl ((l1In_pure _ _ _).mono ?_)
        rintro r rfl
        by_cases hr : 0 ≤ at_ ∧ at_ ≤ (xks.length : Int)
        · rw [show (decide ((0 : Int) ≤ at_ ∧ at_ ≤ ((T.rows xks).length : Int))) = true by rw [Go.Cod.rows_len]; simpa using hr]
          conv => whnf
          refine .inl (f3.mono ?_)
          rintro r rfl
          cases okn with
          | false =>
            conv => whnf
            rw [d0 (by rw [hed, if_neg (by simp)])]
            rfl
          | true =>
            obtain ⟨n, rfl⟩ : ∃ n : Nat, at_ = n := ⟨at_.toNat, by omega⟩
            have hed : e = some tp := by rw [hed]; exact if_pos ⟨hr.1, hr.2, rfl⟩
            have f4 := f4 _ rfl (by simp only [T.kids]; omega)
            obtain ⟨q1, q2⟩ := zp rfl
            obtain ⟨q3, q4⟩ := hbig tp q1 q2 hed
            have hok := hok tp hed q3
            generalize okT tp = okp at *
            cases tp with
            | mk pid pk px pks =>
            conv => whnf
            refine .inl (f4.mono ?_)
            rintro r rfl
            conv => whnf
            refine .inl (q4.mono ?_)
            rintro r rfl
            rw [hok]
            cases okp <;> (conv => whnf) <;> rfl
        · rw [show (decide ((0 : Int) ≤ at_ ∧ at_ ≤ ((T.rows xks).length : Int))) = false by rw [Go.Cod.rows_len]; simpa using hr]
          conv => whnf
          rw [d0 (by rw [hed]; exact if_neg (fun h => hr ⟨h.1, h.2.1⟩))]
          rfl
      rw [if_neg k1] at hed
      rw [eqB_f k1]
      conv => whnf
      by_cases k2 : kind = 2
      · rw [if_pos k2] at hed
        rw [eqB_t k2]
        conv => whnf
        by_cases hi : sid = tid
        · rw [eqB_t hi]
          conv => whnf
          rw [d0 (by rw [hed]; exact if_pos hi)]
          rfl
        · rw [eqB_f hi]
          have hed : e = some tc := by rw [hed]; exact if_neg hi
          obtain ⟨q3, q4⟩ := hbig tc z2.1 (by have := z2.2; simp only [T.size] at this hz ⊢; omega) hed
          have hok := hok tc hed q3
          generalize okT tc = okp at *
          cases tc with
          | mk pid pk px pks =>
          conv => whnf
          refine .inl (f5.mono ?_)
          rintro r rfl
          conv => whnf
          refine .inl (q4.mono ?_)
          rintro r rfl
          rw [hok]
          cases okp <;> (conv => whnf) <;> rfl
      rw [if_neg k2] at hed
      rw [eqB_f k2]
      conv => whnf
      have hx := hsm _ rfl
      have hxk : xk.length ≤ 1048576 ∧ xx.length ≤ 1048576 := by
        cases hx with
        | mk g1 g2 g3 g4 g5 => exact ⟨g2, g3⟩
      by_cases k3 : kind = 3
      · rw [if_pos k3] at hed
        rw [eqB_t k3]
        have f6 := f6 xk text
        obtain ⟨q1, q2⟩ := z3 xk text hxk.1 htx
        have hed : e = some (ts xk text) := hed
        obtain ⟨q3, q4⟩ := hbig _ q1 q2 hed
        have hok := hok _ hed q3
        generalize ts xk text = tp at *
        generalize okT tp = okp at *
        cases tp with
        | mk pid pk px pks =>
        conv => whnf
        refine .inl (f6.mono ?_)
        rintro r rfl
        conv => whnf
        refine .inl (q4.mono ?_)
        rintro r rfl
        rw [hok]
        cases okp <;> (conv => whnf) <;> rfl
      rw [if_neg k3] at hed
      rw [eqB_f k3]
      conv => whnf
      by_cases k4 : kind = 4
      · rw [if_pos k4] at hed
        rw [eqB_t k4]
        have f6 := f6 text xx
        obtain ⟨q1, q2⟩ := z3 text xx htx hxk.2
        have hed : e = some (ts text xx) := hed
        obtain ⟨q3, q4⟩ := hbig _ q1 q2 hed
        have hok := hok _ hed q3
        generalize ts text xx = tp at *
        generalize okT tp = okp at *
        cases tp with
        | mk pid pk px pks =>
        conv => whnf
        refine .inl (f6.mono ?_)
        rintro r rfl
        conv => whnf
        refine .inl (q4.mono ?_)
        rintro r rfl
        rw [hok]
        cases okp <;> (conv => whnf) <;> rfl
      rw [if_neg k4] at hed
      rw [eqB_f k4]
      conv => whnf
      rw [d0 hed]
      rfl
end Go.Cod

namespace Go.Cod
open Go Go.Proofs Go.ChangeShapes Go.WideShapes Go.ChangeAt Go.RowKit
set_option maxRecDepth 10000

/-- A tree that steps may be tried on. -/
def T.Tried (x : T) : Prop := x.Small ∧ x.size ≤ 60 ∧ x.Even
theorem tried_do {x y : T} {s : Stp} (h : x.Tried) (hs : s.Dr) (hd : doT x s = some y) : y.Tried := by
  obtain ⟨h1, h2⟩ := doT_ok hd
  have := okT_size h2
  exact ⟨editT_small h.1 (by have := h.2.1; omega) hs.1 (by have := hs.2.2; omega) h1, by omega, even_nodup ((okT_iff' y).1 h2).2.1⟩

end Go.Cod

namespace Go.Cod
open Go Go.Proofs
set_option linter.all false
set_option maxRecDepth 10000

set_option maxHeartbeats 8000000 in
theorem l11Edits_own (bs : List UInt8) (hb : bs.length ≤ 2000) (t : T) (ht : t.Tried) (p : Int) (p0 : 0 ≤ p) (p1 : p ≤ 2000000) (m : Nat) (hm : m ≤ 10) :
    Full Try.prog noY 29 [.ptr 0 0 0, .agg t.cells, .int .i64 m, .int .i64 100, .bool false] [rdO bs p] fun o st' => ∃ (x : T) (p' : Int), x.Tried ∧ p ≤ p' ∧ p' ≤ p + 10000 ∧ o = .ret (.agg [.int .i64 x.id, .str x.kind, .str x.text, kidsV x.kids 1]) ∧ st' = rdO bs p' :: kidsO x.kids := by
  have ht' := ht
  obtain ⟨ti, tk, tx, tks⟩ := t
  refine full_of_awp good Try.func29 rfl (by kernel_rfl) (by decide) ?_
  conv => whnf
  refine loop_drop (fun n fr st => ∃ (i : Nat) (x : T) (p' k' : Int), n + i = m ∧ x.Tried ∧ (p ≤ p' ∧ p' + 1000 * n ≤ p + 1000 * m) ∧ (0 ≤ k' ∧ k' + 1000 * n ≤ 100 + 1000 * m) ∧
      Holds fr [(0, .ptr 0 0 0), (2, .int .i64 m), (4, .bool false), (6, .ptr 1 0 0), (10, .ptr 2 0 0), (11, .ptr 3 0 0), (12, .int .i64 i)] ∧
      st = [rdO bs p', bxO x.cells 4, bxO zrow 4, nxO k']) m none
    (by
      conv => whnf
      exact ⟨0, .mk ti tk tx tks, p, 100, by omega, ht', by omega, by omega, ⟨rfl, rfl, rfl, rfl, rfl, rfl, rfl, trivial⟩, rfl⟩) ?_
  rintro n fr st ⟨i, x, p', k', b1, b2, b3, b4, hh, rfl⟩
  obtain ⟨fr, rfl⟩ := hh.split
  clear hh
  have f4 := l2Copy_own x b2.1
  by_cases hlt : i < m
  · have hed := l11Edit_full bs hb p' k' (by omega) (by omega) (by omega) (by omega) x b2.1 (by have := b2.2.1; omega)
    have hdo := fun s (h : s.Dr) => l4Do_even x s b2.1 (by have := b2.2.1; omega) b2.2.2 h.1 (by have := h.2.1; omega) (by have := h.2.2; omega)
    have htd := fun s y (h : s.Dr) (hd : doT x s = some y) => tried_do b2 h hd
    have hw : V.int .i64 (IntKind.i64.wrap ((i : Int) + 1)) = .int .i64 ((i + 1 : Nat) : Int) := by rw [wrap64 (by omega) (by omega)]; simp
    obtain ⟨xi, xk, xx, xks⟩ := x
    conv => whnf
    rw [ltB_t (by omega)]
    conv => whnf
    repeat' (first
      | (refine ⟨[0, 3], false, ?_⟩
         conv => whnf
         refine hed.mono ?_
         rintro o st' ⟨⟨ek, ei, ea, ⟨ni, nk, nx, nks⟩, ex⟩, p2, k2, d1, d2, d3, d4, d5, rfl, rfl⟩
         have hdo := hdo _ d1
         have htd := fun y => htd _ y d1
         generalize hdoo : doT (T.mk xi xk xx xks) _ = dd at hdo htd
         rcases dd with _ | ⟨yi, yk, yx, yks⟩
         case' none => have hdo : Pure Try.prog 58 _ (· = .tup [.agg (T.mk xi xk xx xks).cells, .bool false]) := hdo
         case' some =>
           have hdo : Pure Try.prog 58 _ (· = .tup [.agg (T.mk yi yk yx yks).cells, .bool true]) := hdo
           have htd := htd _ rfl
         all_goals conv => whnf)
      | (refine ⟨_, .inl hdo, ?_⟩
         conv => whnf)
      | (refine .inl (hdo.mono ?_)
         rintro r rfl
         conv => whnf)
      | (refine ⟨n - 1, by omega, some [0, 1, 2, 3], ?_⟩
         conv => whnf
         first
           | exact ⟨i + 1, .mk yi yk yx yks, p2, k2, by omega, htd, by omega, by omega, ⟨rfl, rfl, rfl, rfl, rfl, rfl, hw, trivial⟩, rfl⟩
           | exact ⟨i + 1, .mk xi xk xx xks, p2, k2, by omega, b2, by omega, by omega, ⟨rfl, rfl, rfl, rfl, rfl, rfl, hw, trivial⟩, rfl⟩)
      | (refine And.intro ?_ ?_ <;> (conv => whnf)))
    all_goals rfl
  · obtain ⟨xi, xk, xx, xks⟩ := x
    conv => whnf
    rw [ltB_f (by omega)]
    conv => whnf
    refine .inr (.inl ⟨[], false, ?_⟩)
    conv => whnf
    refine f4.mono ?_
    rintro o st' ⟨rfl, rfl⟩
    cases xks with
    | nil =>
      conv => whnf
      refine ⟨[], true, ?_⟩
      conv => whnf
      exact ⟨.mk xi xk xx [], p', b2, by omega, by omega, rfl, rfl⟩
    | cons x0 xs =>
      conv => whnf
      refine ⟨[4], false, ?_⟩
      conv => whnf
      exact ⟨.mk xi xk xx (x0 :: xs), p', b2, by omega, by omega, rfl, rfl⟩
end Go.Cod

namespace Go.Cod
open Go Go.Proofs
set_option linter.all false
set_option maxRecDepth 10000

theorem swap_small {id : Int} {k x : List UInt8} {a b : T} {ks : List T} (h : (T.mk id k x (a :: b :: ks)).Small) : (T.mk id k x (b :: a :: ks)).Small := by
  cases h with
  | mk g1 g2 g3 g4 g5 =>
    refine .mk g1 g2 g3 (by simpa using g4) fun t ht => g5 t ?_
    simp at ht ⊢
    rcases ht with h | h | h <;> simp [h]
theorem swap_size {id : Int} {k x : List UInt8} {a b : T} {ks : List T} : (T.mk id k x (b :: a :: ks)).size = (T.mk id k x (a :: b :: ks)).size := by
  simp [T.size, T.sizeL]; omega
/-- Two drawn trees. -/
def DrawDS (r : V) : Prop := ∃ a b : T, a.Small ∧ a.size ≤ 10000 ∧ b.Small ∧ b.size ≤ 10000 ∧ r = .tup [.agg a.cells, .agg b.cells]
set_option maxHeartbeats 8000000 in
theorem drawDiffSteps_pure (bs : List UInt8) (hb : bs.length ≤ 1048576) : Pure Try.prog 7 [.sl (brows bs)] DrawDS := by
  have ho := l1Open_full bs hb
  refine pure_of_draw good Try.func7 rfl (by kernel_rfl) (by decide) fun X hX => ?_
  conv => whnf
  refine .inr (.inl ⟨[], false, ?_⟩)
  conv => whnf
  refine ho.mono ?_
  rintro o st' ⟨rfl, bs', hb', rfl⟩
  conv => whnf
  refine ⟨[2], false, ?_⟩
  conv => whnf
  refine (l11AnyTree_full bs' hb' 0 (by omega) (by omega)).mono ?_
  rintro o st' ⟨t, p, s1, ⟨s2, s5, s6, s7⟩, s3, s4, rfl, rfl⟩
  have hdr : Drawn t := ⟨t, s5, s6, s7, by omega, .inl rfl⟩
  have htr : t.Tried := ⟨s1, drawn_size hdr, drawn_even hdr⟩
  have hts := drawn_size hdr
  have hpk := pick_full bs' p 7 hb' (by omega) (by omega)
  have hed := fun (c : Nat) (h : c ≤ 10) => l11Edits_own bs' hb' t htr (p + 1) (by omega) (by omega) c h
  have hp0 : 0 ≤ p ∧ p ≤ 2000000 := by omega
  clear hdr htr s2 s3 s4 s5 s6 s7
  rcases t with ⟨ti, tk, tx, tks⟩
  conv => whnf
  refine draw_with hX [(2, .ptr 0 0 0), (3, .ptr 1 0 0), (4, .ptr 2 0 0), (5, .ptr 3 0 0)] ⟨rfl, rfl, rfl, rfl, trivial⟩ fun C hC fr => ?_
  have key : ∀ fr st, (∃ (x : T) (p2 : Int), x.Tried ∧ 0 ≤ p2 ∧ p2 ≤ 3000000 ∧
      ((x.kids = [] ∧ Holds fr [(2, .ptr 0 0 0), (3, .ptr 1 0 0), (4, .ptr 2 0 0), (5, .ptr 3 0 0), (6, .ptr 4 0 0)] ∧ st = [⟨[zrow], 4, true, true, true, .cell⟩, ⟨[zrow], 4, true, true, true, .cell⟩, rdO bs' p2, ⟨[[.int .i64 ti, .str tk, .str tx, .sl (T.rows tks)]], 4, true, true, true, .cell⟩, ⟨[[.int .i64 x.id, .str x.kind, .str x.text, .nils]], 4, true, true, true, .cell⟩]) ∨
       (x.kids ≠ [] ∧ Holds fr [(2, .ptr 0 0 0), (3, .ptr 1 0 0), (4, .ptr 2 0 0), (5, .ptr 3 0 0), (6, .ptr 4 0 0)] ∧ st = [⟨[zrow], 4, true, true, true, .cell⟩, ⟨[zrow], 4, true, true, true, .cell⟩, rdO bs' p2, ⟨[[.int .i64 ti, .str tk, .str tx, .sl (T.rows tks)]], 4, true, true, true, .cell⟩, ⟨[[.int .i64 x.id, .str x.kind, .str x.text, .own 5]], 4, true, true, true, .cell⟩, ⟨T.rows x.kids, 4, true, true, false, .cell⟩]) ∨
       (x.kids ≠ [] ∧ Holds fr [(2, .ptr 0 0 0), (3, .ptr 1 0 0), (4, .ptr 2 0 0), (5, .ptr 3 0 0), (6, .ptr 5 0 0)] ∧ st = [⟨[zrow], 4, true, true, true, .cell⟩, ⟨[zrow], 4, true, true, true, .cell⟩, rdO bs' p2, ⟨[[.int .i64 ti, .str tk, .str tx, .sl (T.rows tks)]], 4, true, true, true, .cell⟩, ⟨T.rows x.kids, 4, true, true, false, .cell⟩, ⟨[[.int .i64 x.id, .str x.kind, .str x.text, .own 4]], 4, true, true, true, .cell⟩]))) → C fr st := by
    rintro fr st ⟨⟨xi, xk, xx, xks⟩, p2, ⟨hx1, hx2, _⟩, q0, q1, hJ⟩
    have hpk2 := pick_full bs' p2 6 hb' (by omega) (by omega)
    have hany := l11AnyTree_full bs' hb' (p2 + 1) (by omega) (by omega)
    have hsp := spoil_full bs' hb' (.mk xi xk xx xks) hx1 (p2 + 1) (by omega) (by omega) (by omega)
    simp only [T.kids, T.id, T.kind, T.text] at hJ
    rcases hJ with ⟨hk, hh, rfl⟩ | ⟨hk, hh, rfl⟩ | ⟨hk, hh, rfl⟩
    · obtain ⟨fr, rfl⟩ := hh.split
      clear hh
      refine hC _ _ ?_
      clear hC
      obtain rfl : xks = [] := hk
      conv => whnf
      refine ⟨[2], false, ?_⟩
      conv => whnf
      refine hpk2.mono ?_
      rintro o st' ⟨e, e0, e1, rfl, rfl⟩
      conv => whnf
      by_cases hd0 : e = 0
      · rw [eqB_t hd0]
        conv => whnf
        refine ⟨[2], false, ?_⟩
        conv => whnf
        refine hany.mono ?_
        rintro o st' ⟨t2, p3, z1, ⟨z2, z5, z6, z7⟩, z3, z4, rfl, rfl⟩
        have hds : t2.size ≤ 60 := drawn_size ⟨t2, z5, z6, z7, by omega, .inl rfl⟩
        clear z2 z3 z4 z5 z6 z7
        rcases t2 with ⟨ui, uk, ux, uks⟩
        conv => whnf
        refine draw_go hX ?_
        conv => whnf
        repeat' (first
          | (refine And.intro (by (conv => whnf); rfl) ?_
             conv => whnf)
          | (refine And.intro ?_ ?_ <;> (conv => whnf)))
        all_goals exact ⟨.mk ti tk tx tks, .mk ui uk ux uks, s1, by omega, z1, by omega, rfl⟩
      rw [eqB_f hd0]
      conv => whnf
      by_cases hd1 : e = 1
      · rw [eqB_t hd1]
        conv => whnf
        refine ⟨[2], false, ?_⟩
        conv => whnf
        refine hsp.mono ?_
        rintro o st' ⟨y, p3, y1, ⟨y2, y3⟩, y4, y5, rfl, rfl⟩
        rcases y with ⟨yi, yk, yx, yks⟩
        conv => whnf
        refine draw_go hX ?_
        conv => whnf
        repeat' (first
          | (refine And.intro (by (conv => whnf); rfl) ?_
             conv => whnf)
          | (refine And.intro ?_ ?_ <;> (conv => whnf)))
        all_goals exact ⟨.mk ti tk tx tks, .mk yi yk yx yks, s1, by omega, y1, by omega, rfl⟩
      rw [eqB_f hd1]
      conv => whnf
      by_cases hd2 : e = 2
      · rw [eqB_t hd2]
        conv => whnf
        rw [ltB_f (by simp)]
        conv => whnf
        refine draw_go hX ?_
        conv => whnf
        repeat' (first
          | (refine And.intro (by (conv => whnf); rfl) ?_
             conv => whnf)
          | (refine And.intro ?_ ?_ <;> (conv => whnf)))
        all_goals exact ⟨.mk ti tk tx tks, (.mk xi xk xx []), s1, by omega, hx1, by omega, rfl⟩
      rw [eqB_f hd2]
      conv => whnf
      refine draw_go hX ?_
      conv => whnf
      repeat' (first
        | (refine And.intro (by (conv => whnf); rfl) ?_
           conv => whnf)
        | (refine And.intro ?_ ?_ <;> (conv => whnf)))
      all_goals exact ⟨.mk ti tk tx tks, (.mk xi xk xx []), s1, by omega, hx1, by omega, rfl⟩
    · obtain ⟨fr, rfl⟩ := hh.split
      clear hh
      refine hC _ _ ?_
      clear hC
      obtain ⟨k0, ks, rfl⟩ : ∃ k0 ks, xks = k0 :: ks := by
        cases xks with
        | nil => exact absurd rfl hk
        | cons k0 ks => exact ⟨k0, ks, rfl⟩
      conv => whnf
      refine ⟨[2], false, ?_⟩
      conv => whnf
      refine hpk2.mono ?_
      rintro o st' ⟨e, e0, e1, rfl, rfl⟩
      conv => whnf
      by_cases hd0 : e = 0
      · rw [eqB_t hd0]
        conv => whnf
        refine ⟨[2], false, ?_⟩
        conv => whnf
        refine hany.mono ?_
        rintro o st' ⟨t2, p3, z1, ⟨z2, z5, z6, z7⟩, z3, z4, rfl, rfl⟩
        have hds : t2.size ≤ 60 := drawn_size ⟨t2, z5, z6, z7, by omega, .inl rfl⟩
        clear z2 z3 z4 z5 z6 z7
        rcases t2 with ⟨ui, uk, ux, uks⟩
        conv => whnf
        refine draw_go hX ?_
        conv => whnf
        repeat' (first
          | (refine And.intro (by (conv => whnf); rfl) ?_
             conv => whnf)
          | (refine And.intro ?_ ?_ <;> (conv => whnf)))
        all_goals exact ⟨.mk ti tk tx tks, .mk ui uk ux uks, s1, by omega, z1, by omega, rfl⟩
      rw [eqB_f hd0]
      conv => whnf
      by_cases hd1 : e = 1
      · rw [eqB_t hd1]
        conv => whnf
        refine ⟨[2], false, ?_⟩
        conv => whnf
        refine hsp.mono ?_
        rintro o st' ⟨y, p3, y1, ⟨y2, y3⟩, y4, y5, rfl, rfl⟩
        rcases y with ⟨yi, yk, yx, yks⟩
        conv => whnf
        refine draw_go hX ?_
        conv => whnf
        repeat' (first
          | (refine And.intro (by (conv => whnf); rfl) ?_
             conv => whnf)
          | (refine And.intro ?_ ?_ <;> (conv => whnf)))
        all_goals exact ⟨.mk ti tk tx tks, .mk yi yk yx yks, s1, by omega, y1, by omega, rfl⟩
      rw [eqB_f hd1]
      conv => whnf
      by_cases hd2 : e = 2
      · rw [eqB_t hd2]
        conv => whnf
        rcases ks with _ | ⟨k1, ks⟩
        · rw [ltB_f (by simp [T.rows])]
          conv => whnf
          refine draw_go hX ?_
          conv => whnf
          repeat' (first
            | (refine And.intro (by (conv => whnf); rfl) ?_
               conv => whnf)
            | (refine And.intro ?_ ?_ <;> (conv => whnf)))
          all_goals exact ⟨.mk ti tk tx tks, (.mk xi xk xx [k0]), s1, by omega, hx1, by omega, rfl⟩
        · rw [ltB_t (by simp [T.rows]; omega)]
          have hsw := swap_small hx1
          obtain ⟨ai, ak, ax, as1⟩ := k0
          obtain ⟨bi, bk, bx, bs1⟩ := k1
          conv => whnf
          refine ⟨by omega, _, _, 4, rfl, rfl, rfl, rfl, ?_⟩
          conv => whnf
          refine AtRow_intro _ rfl ?_
          conv => whnf
          refine draw_go hX ?_
          conv => whnf
          refine ⟨by omega, _, _, 4, rfl, rfl, rfl, rfl, ?_⟩
          conv => whnf
          refine AtRow_intro _ rfl ?_
          conv => whnf
          refine ⟨by omega, _, _, 4, rfl, rfl, rfl, rfl, ?_⟩
          conv => whnf
          refine AtRow_intro _ rfl ?_
          conv => whnf
          refine ⟨by omega, _, _, 4, rfl, rfl, rfl, rfl, ?_⟩
          conv => whnf
          refine AtRow_intro _ rfl ?_
          conv => whnf
          refine draw_go hX ?_
          conv => whnf
          repeat' (first
            | (refine And.intro (by (conv => whnf); rfl) ?_
               conv => whnf)
            | (refine And.intro ?_ ?_ <;> (conv => whnf)))
          all_goals exact ⟨.mk ti tk tx tks, (.mk xi xk xx (.mk bi bk bx bs1 :: .mk ai ak ax as1 :: ks)), s1, by omega, hsw, by rw [swap_size]; omega, rfl⟩
      rw [eqB_f hd2]
      conv => whnf
      refine draw_go hX ?_
      conv => whnf
      repeat' (first
        | (refine And.intro (by (conv => whnf); rfl) ?_
           conv => whnf)
        | (refine And.intro ?_ ?_ <;> (conv => whnf)))
      all_goals exact ⟨.mk ti tk tx tks, (.mk xi xk xx (k0 :: ks)), s1, by omega, hx1, by omega, rfl⟩
    · obtain ⟨fr, rfl⟩ := hh.split
      clear hh
      refine hC _ _ ?_
      clear hC
      obtain ⟨k0, ks, rfl⟩ : ∃ k0 ks, xks = k0 :: ks := by
        cases xks with
        | nil => exact absurd rfl hk
        | cons k0 ks => exact ⟨k0, ks, rfl⟩
      conv => whnf
      refine ⟨[2], false, ?_⟩
      conv => whnf
      refine hpk2.mono ?_
      rintro o st' ⟨e, e0, e1, rfl, rfl⟩
      conv => whnf
      by_cases hd0 : e = 0
      · rw [eqB_t hd0]
        conv => whnf
        refine ⟨[2], false, ?_⟩
        conv => whnf
        refine hany.mono ?_
        rintro o st' ⟨t2, p3, z1, ⟨z2, z5, z6, z7⟩, z3, z4, rfl, rfl⟩
        have hds : t2.size ≤ 60 := drawn_size ⟨t2, z5, z6, z7, by omega, .inl rfl⟩
        clear z2 z3 z4 z5 z6 z7
        rcases t2 with ⟨ui, uk, ux, uks⟩
        conv => whnf
        refine draw_go hX ?_
        conv => whnf
        repeat' (first
          | (refine And.intro (by (conv => whnf); rfl) ?_
             conv => whnf)
          | (refine And.intro ?_ ?_ <;> (conv => whnf)))
        all_goals exact ⟨.mk ti tk tx tks, .mk ui uk ux uks, s1, by omega, z1, by omega, rfl⟩
      rw [eqB_f hd0]
      conv => whnf
      by_cases hd1 : e = 1
      · rw [eqB_t hd1]
        conv => whnf
        refine ⟨[2], false, ?_⟩
        conv => whnf
        refine hsp.mono ?_
        rintro o st' ⟨y, p3, y1, ⟨y2, y3⟩, y4, y5, rfl, rfl⟩
        rcases y with ⟨yi, yk, yx, yks⟩
        conv => whnf
        refine draw_go hX ?_
        conv => whnf
        repeat' (first
          | (refine And.intro (by (conv => whnf); rfl) ?_
             conv => whnf)
          | (refine And.intro ?_ ?_ <;> (conv => whnf)))
        all_goals exact ⟨.mk ti tk tx tks, .mk yi yk yx yks, s1, by omega, y1, by omega, rfl⟩
      rw [eqB_f hd1]
      conv => whnf
      by_cases hd2 : e = 2
      · rw [eqB_t hd2]
        conv => whnf
        rcases ks with _ | ⟨k1, ks⟩
        · rw [ltB_f (by simp [T.rows])]
          conv => whnf
          refine draw_go hX ?_
          conv => whnf
          repeat' (first
            | (refine And.intro (by (conv => whnf); rfl) ?_
               conv => whnf)
            | (refine And.intro ?_ ?_ <;> (conv => whnf)))
          all_goals exact ⟨.mk ti tk tx tks, (.mk xi xk xx [k0]), s1, by omega, hx1, by omega, rfl⟩
        · rw [ltB_t (by simp [T.rows]; omega)]
          have hsw := swap_small hx1
          obtain ⟨ai, ak, ax, as1⟩ := k0
          obtain ⟨bi, bk, bx, bs1⟩ := k1
          conv => whnf
          refine ⟨by omega, _, _, 4, rfl, rfl, rfl, rfl, ?_⟩
          conv => whnf
          refine AtRow_intro _ rfl ?_
          conv => whnf
          refine draw_go hX ?_
          conv => whnf
          refine ⟨by omega, _, _, 4, rfl, rfl, rfl, rfl, ?_⟩
          conv => whnf
          refine AtRow_intro _ rfl ?_
          conv => whnf
          refine ⟨by omega, _, _, 4, rfl, rfl, rfl, rfl, ?_⟩
          conv => whnf
          refine AtRow_intro _ rfl ?_
          conv => whnf
          refine ⟨by omega, _, _, 4, rfl, rfl, rfl, rfl, ?_⟩
          conv => whnf
          refine AtRow_intro _ rfl ?_
          conv => whnf
          refine draw_go hX ?_
          conv => whnf
          repeat' (first
            | (refine And.intro (by (conv => whnf); rfl) ?_
               conv => whnf)
            | (refine And.intro ?_ ?_ <;> (conv => whnf)))
          all_goals exact ⟨.mk ti tk tx tks, (.mk xi xk xx (.mk bi bk bx bs1 :: .mk ai ak ax as1 :: ks)), s1, by omega, hsw, by rw [swap_size]; omega, rfl⟩
      rw [eqB_f hd2]
      conv => whnf
      refine draw_go hX ?_
      conv => whnf
      repeat' (first
        | (refine And.intro (by (conv => whnf); rfl) ?_
           conv => whnf)
        | (refine And.intro ?_ ?_ <;> (conv => whnf)))
      all_goals exact ⟨.mk ti tk tx tks, (.mk xi xk xx (k0 :: ks)), s1, by omega, hx1, by omega, rfl⟩
  conv => whnf
  repeat' (first
    | (refine ⟨[2], false, ?_⟩
       conv => whnf
       refine hpk.mono ?_
       rintro o st' ⟨c, c0, c1, rfl, rfl⟩
       have c1 := c1 (by omega)
       obtain ⟨c, rfl⟩ : ∃ n : Nat, c = n := ⟨c.toNat, by omega⟩
       have hed := hed c (by omega)
       conv => whnf)
    | (refine ⟨[2], false, ?_⟩
       conv => whnf
       refine hed.mono ?_
       rintro o st' ⟨x, p2, x1, x2, x3, rfl, rfl⟩
       rcases x with ⟨xi, xk, xx, _ | ⟨x0, xs⟩⟩
       all_goals conv => whnf)
    | (refine And.intro (by (conv => whnf); rfl) ?_
       conv => whnf)
    | (refine And.intro ?_ ?_ <;> (conv => whnf)))
  all_goals first
    | exact key _ _ ⟨.mk xi xk xx [], p2, x1, by omega, by omega, .inl ⟨rfl, ⟨rfl, rfl, rfl, rfl, rfl, trivial⟩, rfl⟩⟩
    | exact key _ _ ⟨.mk xi xk xx (x0 :: xs), p2, x1, by omega, by omega, .inr (.inl ⟨(by intro h; cases h), ⟨rfl, rfl, rfl, rfl, rfl, trivial⟩, rfl⟩)⟩
    | exact key _ _ ⟨.mk xi xk xx (x0 :: xs), p2, x1, by omega, by omega, .inr (.inr ⟨(by intro h; cases h), ⟨rfl, rfl, rfl, rfl, rfl, trivial⟩, rfl⟩)⟩
end Go.Cod

namespace Go.Cod
open Go Go.Proofs Go.ChangeShapes Go.WideShapes Go.ChangeAt Go.RowKit
set_option maxRecDepth 10000

theorem ownK : ownKnob Try.prog.godebug = none := by kernel_rfl
def byteOf : List V → UInt8
  | [.int _ i] => UInt8.ofNat i.toNat
  | _ => 0
theorem argBytes {H : Type} {enc : TypeId × Value → H} {W : World} : ReadsA enc Try.prog W 22 fun x => ∃ bs : List UInt8, x = .sl (brows bs) := by
  intro base v d p hv h
  obtain ⟨x, ⟨es, hx, _, hr⟩, hrep⟩ := readsA_slice (S := fun vs => ∃ es, vs = [.sl es] ∧ es.length ≤ maxLen ∧ ∀ r ∈ es, (∃ i, r = [.int .u8 i] ∧ IntKind.u8.min ≤ i ∧ i ≤ IntKind.u8.max) ∧ r.length = Try.prog.cellsOf 5 ∧ (∀ v ∈ r, v.leaf = true) ∧ V.clean.cleanL 0 r = true)
    Try.underlying22 (fun n => reads_slice Try.underlying22 (by decide +kernel) fun m _ => reads_int Try.underlying5) base v d p hv h
  cases hx
  refine ⟨_, ⟨es.map byteOf, ?_⟩, hrep⟩
  congr 1
  rw [brows, List.map_map]
  refine (List.map_id es).symm.trans (List.map_congr_left fun r hr' => ?_)
  obtain ⟨⟨i, rfl, h1, h2⟩, _⟩ := hr r hr'
  have h1 : 0 ≤ i := h1
  have h2 : i ≤ 255 := h2
  simp only [id_eq, Function.comp, byteOf, cellB]
  congr 2
  simp only [UInt8.toNat_ofNat']
  omega
end Go.Cod

namespace Go.Cod
open Go Go.Proofs
set_option linter.all false
set_option maxRecDepth 10000

theorem force_hdV (h : Option (Nat × Nat)) (n : Nat) (K : V → Prop) : force (hdV h n) K = K (hdV h n) := by rcases h with _ | ⟨b, c⟩ <;> rfl
theorem st_same {st : St} {k : Nat} {p : O} (h : st[k]? = some p) : st.set k p = st := by
  refine List.ext_getElem? fun j => ?_
  rw [List.getElem?_set]
  split
  · rename_i e
    subst e
    split
    · rw [h]
    · rename_i h2
      exact absurd (List.getElem?_eq_some_iff.1 h).1 h2
  · rfl
theorem semAllU {o : Oper} {sl x : Operand} {t u e : TypeId} {ti : TI} (ho : o.op = .call { callee := .builtin .append, args := #[sl, x], argTypes := #[t, u] }) (hk : kindOf (tauOf tauL) t = some (.slice e)) (hti : tauOf tauL e = some ti) (hu : notInt (kindOf (tauOf tauL) u) = true)
    (hz : ti.zero.cells.length = ti.size) (hsz : ti.size = 8) (hby : ti.bytes = 104) {vs : List V} {k : Nat} {h g : Option (Nat × Nat)} {L M : List Stp} {es : List (List V)} {st : St} {K : V → St → Prop} (hvs : vs = [hdV h L.length, hdV g M.length]) (hpe : st[k]? = some (poolO es)) (hin : SlIn es h L) (hg : SlIn es g M)
    (hl : L.length + M.length ≤ 1000000)
    (hK : ∀ es' h', SlIn es' h' (L ++ M) → (∀ k N, SlIn es k N → Apart h k → SlIn es' k N ∧ Apart h' k) → K (hdV h' (L ++ M).length) (st.set k (poolO es'))) : SemOp Try.prog o vs st K := by
  refine semAll ho hk hti hu hz hsz hby hvs hpe hin hg hl (fun e1 e2 => ?_) (fun b c e1 => ?_) fun b c hf => ?_
  · subst e1 e2
    have hL : L = [] := hin
    subst hL
    have := hK es none rfl fun k N hN _ => ⟨hN, fun _ _ _ _ h => by cases h⟩
    rwa [st_same hpe] at this
  · subst e1
    have := hK (putEnt b (nrows (L ++ M)) es) (some (b, c)) (putEnt_mem hin) fun k N hN ha => ⟨hN.put ha _, ha⟩
    rwa [List.length_append] at this
  · have := hK (es ++ [ent b c 8 (nrows (L ++ M))]) (some (b, c)) (List.mem_append_right _ (by simp)) fun k N hN _ => ⟨hN.more _, hN.fresh hf⟩
    rwa [List.length_append] at this
set_option maxHeartbeats 16000000 in
theorem specDiffSteps_yes (a b : T) (ha : a.Small) (hb : b.Small) (h1 : okT a = true) (h2 : okT b = true) (h3 : a.id = b.id) : Full Try.prog noY 9 [.agg a.cells, .agg b.cells] [] fun o st' => ∃ (h : Option (Nat × Nat)) (es : List (List V)), SlIn es h (specT a b) ∧ o = .ret (.tup [hdV h (specT a b).length, .bool true]) ∧ st' = [poolO es] := by
  have f1 := specTreeOk_pure a ha (by have := okT_size h1; rw [T.ids_size]; omega)
  have f2 := specTreeOk_pure b hb (by have := okT_size h2; rw [T.ids_size]; omega)
  rw [h1] at f1
  rw [h2] at f2
  have na := ((okT_iff' a).1 h1).2.1
  have nb := ((okT_iff' b).1 h2).2.1
  have za := okT_size h1
  have zb := okT_size h2
  have l1 := cutsL_len b a na nb
  have l2 := sets_len a b
  have l3 := sput_len a b
  have hD0 : D3 [] none none none [] [] [] := ⟨rfl, rfl, rfl, (fun _ _ _ _ h => by cases h), (fun _ _ _ _ h => by cases h), fun _ _ _ _ h => by cases h⟩
  have hn := Full.start (st0 := [dbox .nils .nils .nils]) (node_full b a h3 ha hb na nb [] none none none [] [] [] hD0 (by rw [List.length_nil]; omega) (by rw [List.length_nil]; omega) (by rw [List.length_nil]; omega))
  have hs : specT a b = cutsL a b ++ (setsL a b ++ sputT a b) := rfl
  unfold NodeR at hn
  simp only [List.nil_append] at hn
  rw [hs]
  clear hs hD0
  generalize cutsL a b = c at *
  generalize setsL a b = s at *
  generalize sputT a b = p at *
  obtain ⟨ai, ak, ax, aks⟩ := a
  obtain ⟨bi, bk, bx, bks⟩ := b
  obtain rfl : ai = bi := h3
  refine full_of_draw good Try.func9 rfl (by kernel_rfl) (by decide) fun X hX => ?_
  conv => whnf
  refine .inl (f1.mono ?_)
  rintro r rfl
  conv => whnf
  refine .inl (f2.mono ?_)
  rintro r rfl
  conv => whnf
  rw [eqB_t rfl]
  conv => whnf
  refine ⟨[2], true, ?_⟩
  conv => whnf
  refine hn.mono ?_
  rintro o st' ⟨rfl, es, g1, g2, g3, hD, rfl⟩
  clear hn f1 f2
  conv => whnf
  refine draw_with hX [(6, .ptr 2 0 0)] ⟨rfl, trivial⟩ fun C hC fr => ?_
  simp only [hdV_mapN]
  show drawR _ _ _ _ _ [⟨[[.int .i64 ai, .str ak, .str ax, .sl (T.rows aks)]], 4, true, true, true, .cell⟩, ⟨[[.int .i64 ai, .str bk, .str bx, .sl (T.rows bks)]], 4, true, true, true, .cell⟩, dbox (hdV g1 c.length) (hdV g2 s.length) (hdV g3 p.length), poolO es] _ _
  have hJ : ∀ fr es' h, SlIn es' h (c ++ (s ++ p)) → Holds fr [(4, hdV h (c ++ (s ++ p)).length), (5, .bool true)] →
      C fr [⟨[[.int .i64 ai, .str ak, .str ax, .sl (T.rows aks)]], 4, true, true, true, .cell⟩, ⟨[[.int .i64 ai, .str bk, .str bx, .sl (T.rows bks)]], 4, true, true, true, .cell⟩, dbox (hdV g1 c.length) (hdV g2 s.length) (hdV g3 p.length), poolO es'] := by
    intro fr es' h hS hh
    obtain ⟨fr, rfl⟩ := hh.split
    refine hC _ _ ?_
    clear hC hh
    rcases h with _ | ⟨b0, c0⟩
    all_goals
      conv => whnf
      refine ⟨[3], true, ?_⟩
      conv => whnf
      exact ⟨_, es', hS, rfl, rfl⟩
  clear hC
  obtain ⟨i1, i2, i3, d12, d13, d23⟩ := hD
  conv => whnf
  rw [force_hdV]
  conv => whnf
  rw [force_hdV]
  conv => whnf
  rw [force_hdV]
  conv => whnf
  refine semAllU (k := 3) (h := none) (g := g1) (L := []) (M := c) (es := es) rfl rfl rfl rfl rfl rfl rfl rfl rfl rfl i1 (by rw [List.length_nil]; omega) fun es1 k1 s1 p1 => ?_
  obtain ⟨q2, r2⟩ := p1 _ _ i2 (fun _ _ _ _ h => by cases h)
  obtain ⟨q3, r3⟩ := p1 _ _ i3 (fun _ _ _ _ h => by cases h)
  rw [List.nil_append] at s1 ⊢
  clear p1
  rcases k1 with _ | ⟨b1, c1⟩
  · conv => whnf
    repeat (refine And.intro (by (conv => whnf); rfl) ?_; conv => whnf)
    refine semAllU (k := 3) (h := none) (g := g2) (L := c) (M := s) (es := es1) rfl rfl rfl rfl rfl rfl rfl rfl rfl s1 q2 (by omega) fun es2 k2 s2 p2 => ?_
    obtain ⟨v3, _⟩ := p2 _ _ q3 r3
    clear p2
    rcases k2 with _ | ⟨b2, c2⟩
    · conv => whnf
      repeat (refine And.intro (by (conv => whnf); rfl) ?_; conv => whnf)
      refine semAllU (k := 3) (h := none) (g := g3) (L := c ++ s) (M := p) (es := es2) rfl rfl rfl rfl rfl rfl rfl rfl rfl s2 v3 (by rw [List.length_append]; omega) fun es3 k3 s3 _ => ?_
      rw [List.append_assoc] at s3 ⊢
      rcases k3 with _ | ⟨b3, c3⟩
      all_goals
        conv => whnf
        exact hJ _ _ _ s3 ⟨rfl, rfl, trivial⟩
    · conv => whnf
      repeat (refine And.intro (by (conv => whnf); rfl) ?_; conv => whnf)
      refine semAllU (k := 3) (h := some (b2, c2)) (g := g3) (L := c ++ s) (M := p) (es := es2) rfl rfl rfl rfl rfl rfl rfl rfl rfl s2 v3 (by rw [List.length_append]; omega) fun es3 k3 s3 _ => ?_
      rw [List.append_assoc] at s3 ⊢
      rcases k3 with _ | ⟨b3, c3⟩
      all_goals
        conv => whnf
        exact hJ _ _ _ s3 ⟨rfl, rfl, trivial⟩
  · conv => whnf
    repeat (refine And.intro (by (conv => whnf); rfl) ?_; conv => whnf)
    refine semAllU (k := 3) (h := some (b1, c1)) (g := g2) (L := c) (M := s) (es := es1) rfl rfl rfl rfl rfl rfl rfl rfl rfl s1 q2 (by omega) fun es2 k2 s2 p2 => ?_
    obtain ⟨v3, _⟩ := p2 _ _ q3 r3
    clear p2
    rcases k2 with _ | ⟨b2, c2⟩
    · conv => whnf
      repeat (refine And.intro (by (conv => whnf); rfl) ?_; conv => whnf)
      refine semAllU (k := 3) (h := none) (g := g3) (L := c ++ s) (M := p) (es := es2) rfl rfl rfl rfl rfl rfl rfl rfl rfl s2 v3 (by rw [List.length_append]; omega) fun es3 k3 s3 _ => ?_
      rw [List.append_assoc] at s3 ⊢
      rcases k3 with _ | ⟨b3, c3⟩
      all_goals
        conv => whnf
        exact hJ _ _ _ s3 ⟨rfl, rfl, trivial⟩
    · conv => whnf
      repeat (refine And.intro (by (conv => whnf); rfl) ?_; conv => whnf)
      refine semAllU (k := 3) (h := some (b2, c2)) (g := g3) (L := c ++ s) (M := p) (es := es2) rfl rfl rfl rfl rfl rfl rfl rfl rfl s2 v3 (by rw [List.length_append]; omega) fun es3 k3 s3 _ => ?_
      rw [List.append_assoc] at s3 ⊢
      rcases k3 with _ | ⟨b3, c3⟩
      all_goals
        conv => whnf
        exact hJ _ _ _ s3 ⟨rfl, rfl, trivial⟩
end Go.Cod

namespace Go.Cod
open Go Go.Proofs
set_option linter.all false
set_option maxRecDepth 10000

/-! Both DiffSteps, their lists as plain rows. -/
theorem stp_soft {s : Stp} (h : s.kind ≠ 1 → s.node = TZ) : V.softL s.cellsN = s.cells := by
  obtain ⟨k, x, n, t, tx⟩ := s
  unfold Stp.cellsN Stp.cells
  by_cases hk : k = 1
  · rw [if_pos hk]
    have := softT t
    simp only [V.soft, V.agg.injEq] at this
    obtain ⟨ti, tk, tt, tks⟩ := t
    simp only [T.cells, V.softL, V.soft] at this
    simp only [T.cells, V.softL, V.soft, List.append_assoc, List.cons_append, List.nil_append]
    simp only [List.cons.injEq] at this
    rw [this.2.2.2.1]
  · obtain rfl := h hk
    rw [if_neg hk]; rfl
theorem soft_nrows : ∀ ls : List Stp, (∀ s ∈ ls, s.kind ≠ 1 → s.node = TZ) → V.softLL (nrows ls) = prows ls
  | [], _ => rfl
  | s :: ls, h => by
    have h1 := stp_soft (h s List.mem_cons_self)
    have h2 := soft_nrows ls fun s hs => h s (List.mem_cons_of_mem _ hs)
    show V.softL s.cellsN :: V.softLL (nrows ls) = _
    rw [h1, h2]; rfl
theorem diff_Z {a b : T} : ∀ s ∈ diffT a b, s.kind ≠ 1 → s.node = TZ := by
  intro s hs h1
  unfold diffT at hs
  rcases List.mem_append.1 hs with hs | hs
  · obtain ⟨p, _, hp⟩ := List.mem_flatMap.1 hs
    unfold cutsOf at hp
    obtain ⟨k, hk, rfl⟩ := List.mem_map.1 hp
    rfl
  · rcases List.mem_append.1 hs with hs | hs
    · obtain ⟨p, _, hp⟩ := List.mem_flatMap.1 hs
      unfold wordsOf at hp
      rcases List.mem_append.1 hp with hp | hp
      · split at hp
        · rw [List.mem_singleton] at hp; subst hp; rfl
        · cases hp
      · split at hp
        · rw [List.mem_singleton] at hp; subst hp; rfl
        · cases hp
    · exact absurd (puts_not _ b s hs).1 h1
theorem dsT_Z {a b : T} : ∀ s ∈ (dsT a b).1, s.kind ≠ 1 → s.node = TZ := by
  unfold dsT
  split
  · exact diff_Z
  · intro s hs; cases hs
theorem cellsN_leaf (s : Stp) : (∀ x ∈ s.cellsN, x.leaf = true) ∧ V.clean.cleanL 0 s.cellsN = true := by
  obtain ⟨k, x, n, t, tx⟩ := s
  unfold Stp.cellsN
  obtain ⟨ti, tk, tt, tks⟩ := t
  by_cases hk : k = 1
  · rw [if_pos hk]
    refine ⟨fun x hx => ?_, rfl⟩
    simp only [T.cells, List.cons_append, List.nil_append, List.mem_cons, List.not_mem_nil, or_false] at hx
    rcases hx with rfl | rfl | rfl | rfl | rfl | rfl | rfl | rfl <;> rfl
  · rw [if_neg hk]
    refine ⟨fun x hx => ?_, rfl⟩
    simp only [List.cons_append, List.nil_append, List.mem_cons, List.not_mem_nil, or_false] at hx
    rcases hx with rfl | rfl | rfl | rfl | rfl | rfl | rfl | rfl <;> rfl
theorem nrows_clean : ∀ ls : List Stp, V.clean.cleanLL 0 (nrows ls) = true
  | [] => rfl
  | s :: ls => by
    show (V.clean.cleanL 0 s.cellsN && V.clean.cleanLL 0 (nrows ls)) = true
    rw [(cellsN_leaf s).2, nrows_clean ls]; rfl
theorem specDiffSteps_pure1 (a b : T) (ha : a.Small) (hb : b.Small) (h1 : okT a = true) (h2 : okT b = true) (h3 : a.id = b.id) : Pure Try.prog 9 [.agg a.cells, .agg b.cells] (· = .tup [.sl (nrows (diffT a b)), .bool true]) := by
  refine Full.freeze (specDiffSteps_yes a b ha hb h1 h2 h3) ?_
  rintro o st' ⟨h, es, hs, rfl, rfl⟩
  rw [spec_diff ((okT_iff' a).1 h1).2.1 ((okT_iff' b).1 h2).2.1 h3] at *
  refine ⟨_, _, _, rfl, rfl, ?_, by rcases h with _ | ⟨_, _⟩ <;> rfl, rfl⟩
  refine .tup rfl fun i x y p q => ?_
  match i, p, q with
  | 1, p, q => cases p; cases q; exact .same _
  | 0, p, q =>
    cases p; cases q
    rcases h with _ | ⟨b, c⟩
    · have : diffT a _ = [] := hs
      rw [this]; exact .nils
    · have hm : ent b c 8 (nrows (diffT a _)) ∈ es := hs
      refine .dref hm (by rw [nrows_len]) rfl (nrows_clean _) (fun e he x hx => ?_) (fun i r r' p q => ?_) (fun i r r' j x y p q u v => ?_)
      · obtain ⟨s, _, rfl⟩ := List.mem_map.1 he
        exact (cellsN_leaf s).1 x hx
      · rw [p] at q; cases q; rfl
      · rw [p] at q; cases q; rw [u] at v; cases v; exact .same _
set_option maxHeartbeats 8000000 in
theorem specDiffSteps_no (a b : T) (ha : a.Small) (hb : b.Small) (na : a.ids.length ≤ 1048577) (nb : b.ids.length ≤ 1048577) (h : ¬ (okT a = true ∧ okT b = true ∧ a.id = b.id)) : Pure Try.prog 9 [.agg a.cells, .agg b.cells] (· = .tup [.sl [], .bool false]) := by
  have f1 := specTreeOk_pure a ha na
  have f2 := specTreeOk_pure b hb nb
  obtain ⟨ai, ak, ax, aks⟩ := a
  obtain ⟨bi, bk, bx, bks⟩ := b
  simp only [T.id] at h
  refine pure_of_draw good Try.func9 rfl (by kernel_rfl) (by decide) fun X hX => ?_
  conv => whnf
  refine .inl (f1.mono ?_)
  rintro r rfl
  cases h1 : okT (.mk ai ak ax aks) with
  | false =>
    conv => whnf
    rfl
  | true =>
    conv => whnf
    refine .inl (f2.mono ?_)
    rintro r rfl
    cases h2 : okT (.mk bi bk bx bks) with
    | false =>
      conv => whnf
      rfl
    | true =>
      conv => whnf
      rw [eqB_f (fun e => h ⟨h1, h2, e⟩)]
      conv => whnf
      rfl
theorem specDiffSteps_plain (a b : T) (ha : a.Small) (hb : b.Small) (na : a.ids.length ≤ 1048577) (nb : b.ids.length ≤ 1048577) : Pure Try.prog 9 [.agg a.cells, .agg b.cells] (· = .tup [.sl (prows (dsT a b).1), .bool (dsT a b).2]) := by
  have key : Pure Try.prog 9 [.agg a.cells, .agg b.cells] (· = .tup [.sl (nrows (dsT a b).1), .bool (dsT a b).2]) := by
    unfold dsT
    by_cases h : okT a = true ∧ okT b = true ∧ a.id = b.id
    · rw [if_pos h]; exact specDiffSteps_pure1 a b ha hb h.1 h.2.1 h.2.2
    · rw [if_neg h]; exact specDiffSteps_no a b ha hb na nb h
  refine key.soft ?_
  rintro r rfl
  show V.tup [.sl (V.softLL (nrows (dsT a b).1)), _] = _
  rw [soft_nrows _ dsT_Z]; rfl
theorem implDiffSteps_plain (a b : T) (ha : a.Small) (hb : b.Small) : Pure Try.prog 8 [.agg a.cells, .agg b.cells] (· = .tup [.sl (prows (dsT a b).1), .bool (dsT a b).2]) := by
  refine (implDiffSteps_pure a b ha hb).soft ?_
  rintro r rfl
  show V.tup [.sl (V.softLL (nrows (dsT a b).1)), _] = _
  rw [soft_nrows _ dsT_Z]; rfl
end Go.Cod

namespace Go.Cod
open Go Go.Proofs
set_option linter.all false
set_option maxRecDepth 10000

/-! What is put is of the second tree. -/
theorem puts_of (kept : Int → Bool) : ∀ t : T, t.Small → ∀ s ∈ putsT kept t, s.node.Small ∧ s.node.size ≤ t.size ∧ s.text = [] := by
  intro t
  induction t using T.ind with
  | h id kd tx ks ih =>
    intro ht
    cases ht with
    | mk i1 i2 i3 i4 i5 =>
    rw [putsT]
    have key : ∀ (ls : List T) (n : Nat), (∀ k ∈ ls, k ∈ ks) → ∀ s ∈ putsL kept id n ls, s.node.Small ∧ s.node.size ≤ 1 + T.sizeL ls ∧ s.text = [] := by
      intro ls
      induction ls with
      | nil => intro n _ s hs; simp [putsL] at hs
      | cons k ls ihl =>
        intro n hk s hs
        rw [putsL, List.mem_append] at hs
        have hkk := hk k List.mem_cons_self
        simp only [T.sizeL]
        rcases hs with hs | hs
        · cases hkp : kept k.id with
          | true =>
            rw [hkp, if_pos rfl] at hs
            obtain ⟨h1, h2, h3⟩ := ih k hkk (i5 k hkk) s hs
            exact ⟨h1, by omega, h3⟩
          | false =>
            rw [hkp, if_neg (by simp), List.mem_singleton] at hs
            subst hs; exact ⟨i5 k hkk, by show k.size ≤ _; omega, rfl⟩
        · obtain ⟨h1, h2, h3⟩ := ihl (n + 1) (fun k h => hk k (List.mem_cons_of_mem _ h)) s hs
          exact ⟨h1, by omega, h3⟩
    have := key ks 0 fun _ h => h
    simpa only [T.size] using this
theorem pairs_sm {a b : T} (ha : a.Small) (hb : b.Small) : ∀ p ∈ pairsT a b, p.1.Small ∧ p.2.Small := by
  revert a
  induction b using T.ind with
  | h id kd tx ks ih =>
    intro a ha p hp
    have hb' := hb
    cases hb with
    | mk i1 i2 i3 i4 i5 =>
    rw [pairsT_eq] at hp
    rcases List.mem_cons.1 hp with hp | hp
    · subst hp; exact ⟨ha, hb'⟩
    · obtain ⟨k, k1, k2, k3⟩ := pairsL_mem hp
      obtain ⟨s, s1, s2, s3⟩ := kidOf_some (common_l k2)
      rw [s2] at k3
      have hs : s.Small := by
        cases ha with
        | mk j1 j2 j3 j4 j5 => exact j5 s s1
      exact ih k k1 (i5 k k1) hs p k3
theorem TZ_sm : TZ.Small := .mk (by decide) (Nat.zero_le _) (Nat.zero_le _) (Nat.zero_le _) (fun t h => by cases h)
theorem diff_sm {a b : T} (ha : a.Small) (hb : b.Small) : ∀ s ∈ diffT a b, s.node.Small ∧ s.node.size ≤ b.size ∧ s.text.length ≤ 1048576 := by
  intro s hs
  have hz : TZ.size ≤ b.size := by have := size_pos b; show 1 ≤ _; omega
  unfold diffT at hs
  rcases List.mem_append.1 hs with hs | hs
  · obtain ⟨p, _, hp⟩ := List.mem_flatMap.1 hs
    unfold cutsOf at hp
    obtain ⟨k, hk, rfl⟩ := List.mem_map.1 hp
    exact ⟨TZ_sm, hz, Nat.zero_le _⟩
  · rcases List.mem_append.1 hs with hs | hs
    · obtain ⟨p, hp1, hp⟩ := List.mem_flatMap.1 hs
      have h2 := (pairs_sm ha hb p hp1).2
      obtain ⟨w, i⟩ := p
      cases h2 with
      | mk j1 j2 j3 j4 j5 =>
      unfold wordsOf at hp
      rcases List.mem_append.1 hp with hp | hp
      · split at hp
        · rw [List.mem_singleton] at hp; subst hp; exact ⟨TZ_sm, hz, j2⟩
        · cases hp
      · split at hp
        · rw [List.mem_singleton] at hp; subst hp; exact ⟨TZ_sm, hz, j3⟩
        · cases hp
    · obtain ⟨h1, h2, h3⟩ := puts_of _ b hb s hs
      exact ⟨h1, h2, by rw [h3]; exact Nat.zero_le _⟩
set_option maxHeartbeats 8000000 in
theorem wcStep_self (s : Stp) (hs : s.node.Small) : Pure Try.prog 37 [.agg s.cells, .agg s.cells] (· = .bool true) := by
  have f1 := wcTree_refl s.node hs
  simp only [Stp.cells]
  obtain ⟨kind, sid, at_, ⟨ni, nk, nx, nks⟩, text⟩ := s
  show Pure Try.prog _ [.agg [.int .i64 kind, .int .i64 sid, .int .i64 at_, .int .i64 ni, .str nk, .str nx, .sl (T.rows nks), .str text], .agg [.int .i64 kind, .int .i64 sid, .int .i64 at_, .int .i64 ni, .str nk, .str nx, .sl (T.rows nks), .str text]] _
  refine pure_of_awp good Try.func37 rfl (by kernel_rfl) (by decide) ?_
  conv => whnf
  rw [eqB_refl]
  conv => whnf
  rw [eqB_refl]
  conv => whnf
  rw [eqB_refl]
  conv => whnf
  rw [eqS_refl]
  conv => whnf
  refine .inl (f1.mono ?_)
  rintro r rfl
  conv => whnf
set_option maxHeartbeats 4000000 in
theorem wcSteps_self (ls : List Stp) (hs : ∀ s ∈ ls, s.node.Small) (hl : ls.length ≤ 1048576) : Pure Try.prog 10 [.sl (prows ls), .sl (prows ls)] (· = .bool true) := by
  have hlen := prows_len ls
  have hget := prows_get ls
  generalize prows ls = rows at *
  refine pure_of_awp good Try.func10 rfl (by kernel_rfl) (by decide) ?_
  conv => whnf
  rw [eqB_refl]
  conv => whnf
  refine loop_intro (fun n fr st => ∃ i : Nat, n + i = ls.length ∧ st = [] ∧ Holds fr [(0, .sl rows), (1, .sl rows), (5, .int .i64 i)]) ls.length
    ⟨0, rfl, rfl, rfl, rfl, rfl, trivial⟩ ?_
  rintro n fr st ⟨i, hi, rfl, hh⟩
  obtain ⟨fr, rfl⟩ := hh.split
  clear hh
  conv => whnf
  by_cases hlt : i < ls.length
  · rw [hlen, ltB_t (by omega)]
    have hg := hget i hlt
    have ws := wcStep_self ls[i] (hs _ (List.getElem_mem _))
    generalize ls[i] = s at *
    obtain ⟨ak, ai, aa, ⟨a1, a2, a3, a4⟩, a5⟩ := s
    conv => whnf
    repeat (first
      | (refine ⟨by omega, rows, _, 8, rfl, hg, rfl, rfl, ?_⟩
         conv => whnf)
      | (refine ⟨_, .inl ws, ?_⟩
         conv => whnf))
    refine ⟨n - 1, by omega, i + 1, by omega, rfl, rfl, rfl, ?_, trivial⟩
    · show V.int .i64 (IntKind.i64.wrap (i + 1)) = _
      rw [wrap64 (by omega) (by omega)]; simp
  · rw [hlen, ltB_f (by omega)]
    conv => whnf
end Go.Cod

namespace Go.Cod
open Go Go.Proofs
set_option linter.all false
set_option maxRecDepth 10000

/-! What is in the same things all the way up, alone in each, is kept. -/
theorem fL_down : ∀ (ts : List T) (k : T) (x : Int) (s : T), (T.idsL ts).Nodup → k ∈ ts → fT k x = some s → fL ts x = some s
  | [], _, _, _, _, h, _ => by cases h
  | t :: ts, k, x, s, hn, h, hf => by
    simp only [T.idsL, List.nodup_append] at hn
    have hxk : x ∈ k.ids := by
      obtain ⟨e, h2, _⟩ := fT_spec k x s hf
      rw [← e]; exact h2.subset s.id_mem
    simp only [fL]
    rcases List.mem_cons.1 h with rfl | h
    · rw [hf]
    · have hm : x ∈ T.idsL ts := kid_ids (t := .mk 0 [] [] ts) h _ hxk
      rw [(fT_none t x).2 fun hc => hn.2.2 x hc x hm rfl]
      exact fL_down ts k x s hn.2.1 h hf
theorem fT_down {t k : T} {x : Int} {s : T} (hn : t.ids.Nodup) (hk : k ∈ t.kids) (hf : fT k x = some s) : fT t x = some s := by
  obtain ⟨a, b, c, d⟩ := t
  have hk : k ∈ d := hk
  have hxk : x ∈ k.ids := by
    obtain ⟨e, h2, _⟩ := fT_spec k x s hf
    rw [← e]; exact h2.subset s.id_mem
  have hm : x ∈ T.idsL d := kid_ids (t := .mk 0 [] [] d) hk _ hxk
  simp only [T.ids, List.nodup_cons] at hn
  have hne : ¬ a = x := fun e => hn.1 (by rw [e]; exact hm)
  simp only [fT, if_neg hne]
  exact fL_down d k x s hn.2 hk hf
mutual
theorem fT_trans : ∀ (t : T) (p x : Int) (s k : T), t.ids.Nodup → fT t p = some s → fT s x = some k → fT t x = some k
  | .mk id kind text kids, p, x, s, k, hn, h1, h2 => by
    by_cases e : id = p
    · rw [fT, if_pos e] at h1
      cases h1; exact h2
    · rw [fT, if_neg e] at h1
      have hx : x ∈ T.idsL kids := by
        obtain ⟨e1, h3, _⟩ := fT_spec s x k h2
        obtain ⟨_, h4, _⟩ := fL_spec kids p s h1
        rw [← e1]; exact h4.subset (h3.subset k.id_mem)
      simp only [T.ids, List.nodup_cons] at hn
      have hne : ¬ id = x := fun e => hn.1 (by rw [e]; exact hx)
      rw [fT, if_neg hne]
      exact fL_trans kids p x s k hn.2 h1 h2
theorem fL_trans : ∀ (ts : List T) (p x : Int) (s k : T), (T.idsL ts).Nodup → fL ts p = some s → fT s x = some k → fL ts x = some k
  | [], _, _, _, _, _, h, _ => by simp [fL] at h
  | t :: ts, p, x, s, k, hn, h1, h2 => by
    simp only [T.idsL, List.nodup_append] at hn
    cases e : fT t p with
    | some s' =>
      simp only [fL, e] at h1
      cases h1
      have := fT_trans t p x _ k hn.1 e h2
      simp only [fL, this]
    | none =>
      simp only [fL, e] at h1
      have hx : x ∈ T.idsL ts := by
        obtain ⟨e1, h3, _⟩ := fT_spec s x k h2
        obtain ⟨_, h4, _⟩ := fL_spec ts p s h1
        rw [← e1]; exact h4.subset (h3.subset k.id_mem)
      have := (fT_none t x).2 fun hc => hn.2.2 x hc x hx rfl
      simp only [fL, this]
      exact fL_trans ts p x s k hn.2.1 h1 h2
end
theorem kid_lt {t k : T} (h : k ∈ t.kids) : k.size < t.size := by
  obtain ⟨a, b, c, d⟩ := t
  have h : k ∈ d := h
  simp only [T.size]
  have key : ∀ l : List T, k ∈ l → k.size ≤ T.sizeL l := by
    intro l
    induction l with
    | nil => intro h; cases h
    | cons x l ih =>
      intro h
      simp only [T.sizeL]
      rcases List.mem_cons.1 h with rfl | h
      · omega
      · have := ih h; omega
  have := key d h
  omega
theorem fT_self (t : T) : fT t t.id = some t := by
  obtain ⟨a, b, c, d⟩ := t
  simp only [fT, T.id, if_true]
theorem pairs_find : ∀ (b a w i : T), a.ids.Nodup → b.ids.Nodup → (w, i) ∈ pairsT a b → fT a w.id = some w ∧ fT b i.id = some i := by
  intro b
  induction b using T.ind with
  | h id kd tx ks ih =>
    intro a w i ha hb hp
    rw [pairsT_eq] at hp
    rcases List.mem_cons.1 hp with hp | hp
    · cases hp; exact ⟨fT_self _, fT_self _⟩
    · obtain ⟨k, k1, k2, k3⟩ := pairsL_mem hp
      obtain ⟨s, s1, s2, s3⟩ := kidOf_some (common_l k2)
      rw [s2] at k3
      obtain ⟨q1, q2⟩ := ih k k1 s w i (kid_nodup (kids_nodup ha).1 s1) (kid_nodup (kids_nodup hb).1 k1) k3
      exact ⟨fT_down ha s1 q1, fT_down hb k1 q2⟩
theorem one_kid {x : T} {id : Int} (h1 : x.kids.length = 1) (h2 : (x.kids.map T.id).count id = 1) : ∃ k, x.kids = [k] ∧ k.id = id := by
  obtain ⟨k, hk⟩ := List.length_eq_one_iff.1 h1
  refine ⟨k, hk, ?_⟩
  rw [hk] at h2
  simp only [List.map_cons, List.map_nil] at h2
  by_cases e : k.id = id
  · exact e
  · rw [List.count_cons_of_ne e] at h2; simp at h2
def Paired (a b : T) (x : Int) : Prop := ∃ p ∈ pairsT a b, p.1.id = x
theorem Paired.kept {a b : T} (oa : okT a = true) (ob : okT b = true) (hab : a.id = b.id) {x : Int} (h : Paired a b x) : x ∈ keptOf (pairsT a b) := by
  obtain ⟨⟨w, i⟩, hp, rfl⟩ := h
  have h1 := (pairs_ids ((okT_iff' a).1 oa).2.1 ((okT_iff' b).1 ob).2.1 hab hp).1
  show w.id ∈ _
  rw [h1]; exact pair_kept hp
theorem paired_step {a b : T} (oa : okT a = true) (ob : okT b = true) (hab : a.id = b.id) {x n : Int} (ha : treeOver a x = n) (hb : treeOver b x = n) (hn : 0 < n) {u v : T} (hu : findT a n = some u) (hv : findT b n = some v) (lu : u.kids.length = 1) (lv : v.kids.length = 1) (h : Paired a b n) : Paired a b x := by
  have na := ((okT_iff' a).1 oa).2.1
  have nb := ((okT_iff' b).1 ob).2.1
  obtain ⟨⟨w, i⟩, hp, hw⟩ := h
  have hw : w.id = n := hw
  obtain ⟨f1, f2⟩ := pairs_find b a w i na nb hp
  have h1 := (pairs_ids na nb hab hp).1
  rw [hw] at f1
  rw [← h1, hw] at f2
  have e1 : u = w := by have := (findT_spec hu).2.1; rw [f1] at this; cases this; rfl
  have e2 : v = i := by have := (findT_spec hv).2.1; rw [f2] at this; cases this; rfl
  subst e1; subst e2
  rcases treeOver_cases a x with ⟨e, _⟩ | ⟨_, e, _⟩ | ⟨_, s, hs, _, hc⟩
  · omega
  · omega
  rw [ha, hu] at hs
  cases hs
  rcases treeOver_cases b x with ⟨e, _⟩ | ⟨_, e, _⟩ | ⟨_, s, hs, _, hd⟩
  · omega
  · omega
  rw [hb, hv] at hs
  cases hs
  obtain ⟨k, k1, k2⟩ := one_kid lu hc
  obtain ⟨m, m1, m2⟩ := one_kid lv hd
  exact ⟨(k, m), pair_alone hp k1 m1 (by rw [k2, m2]), k2⟩
theorem paired_root {a b : T} {x : Int} (ha : treeOver a x = 0) : Paired a b x := by
  rcases treeOver_cases a x with ⟨e, _⟩ | ⟨_, _, e⟩ | ⟨e, _⟩
  · omega
  · exact ⟨(a, b), pairs_self a b, e⟩
  · omega
def upM (a : T) (x : Int) : Nat := if x ≤ 0 then 0 else match findT a x with
  | none => 1
  | some s => 22 - s.size
theorem upM_le (a : T) (oa : okT a = true) {x n : Int} (hx : 0 < x) (ha : treeOver a x = n) : upM a n < upM a x := by
  have hz : ∀ y s, findT a y = some s → s.size ≤ 20 := fun y s h => Nat.le_trans (fT_size a y s (findT_spec h).2.1) (okT_size oa)
  have hpos : 0 < upM a x := by
    unfold upM
    rw [if_neg (by omega)]
    cases h : findT a x with
    | none => decide
    | some s => have := hz x s h; show 0 < 22 - s.size; omega
  by_cases hn : n ≤ 0
  · have : upM a n = 0 := if_pos hn
    omega
  · rcases treeOver_cases a x with ⟨e, _⟩ | ⟨_, e, _⟩ | ⟨_, s, hs, os, hc⟩
    · omega
    · omega
    rw [ha] at hs
    have hm : x ∈ s.kids.map T.id := List.count_pos_iff.1 (by omega)
    obtain ⟨k, hk, rfl⟩ := List.mem_map.1 hm
    have hf : fT a k.id = some k := by
      have h1 := (findT_spec hs).2.1
      have na := ((okT_iff' a).1 oa).2.1
      have ns := ((okT_iff' s).1 os).2.1
      have hf2 : fT s k.id = some k := fT_down ns hk (fT_self k)
      exact fT_trans a _ _ _ _ na h1 hf2
    have hf' : findT a k.id = some k := by unfold findT; rw [if_pos oa]; exact hf
    unfold upM
    rw [if_neg hn, if_neg (by omega), hs, hf']
    have h1 := hz _ _ hs
    have h2 := kid_lt hk
    show 22 - s.size < 22 - k.size
    omega
end Go.Cod

namespace Go.Cod
open Go Go.Proofs
set_option linter.all false
set_option maxRecDepth 10000

theorem fR_some (t : Option T) : ∃ (u : T) (f : Bool), fR t = .tup [.agg u.cells, .bool f] ∧ ((t = some u ∧ f = true) ∨ (t = none ∧ u = TZ ∧ f = false)) := by
  cases t with
  | none => exact ⟨TZ, false, rfl, .inr ⟨rfl, rfl, rfl⟩⟩
  | some u => exact ⟨u, true, rfl, .inl ⟨rfl, rfl⟩⟩
set_option maxHeartbeats 16000000 in
theorem wcKept_pure (a b : T) (ha : a.Small) (hb : b.Small) (oa : okT a = true) (ob : okT b = true) (hab : a.id = b.id) (x : Int) (hx : 0 < x) : Pure Try.prog 17 [.agg a.cells, .agg b.cells, .int .i64 x] fun r => ∃ k : Bool, r = .bool k ∧ (k = true → Paired a b x) := by
  have fa := fun y => implTreeOver_pure a ha y
  have fb := fun y => implTreeOver_pure b hb y
  have ga := fun y => implTreeFind_pure a ha y
  have gb := fun y => implTreeFind_pure b hb y
  have hup : ∀ cur n, 0 < cur → treeOver a cur = n → treeOver b cur = n → (0 < n → ∀ u v, findT a n = some u → findT b n = some v → u.kids.length = 1 → v.kids.length = 1 → Paired a b n → Paired a b cur) ∧ (n = 0 → Paired a b cur) ∧ upM a n < upM a cur := by
    intro cur n h0 h1 h2
    exact ⟨fun hn u v hu hv lu lv hp => paired_step oa ob hab h1 h2 hn hu hv lu lv hp, fun hn => paired_root (by rw [h1, hn]), upM_le a oa h0 h1⟩
  generalize hQ : Paired a b = Q at *
  generalize upM a = M at *
  have hfa := fun y u (h : findT a y = some u) => fT_small a y ha u (findT_spec h).2.1
  have hfb := fun y u (h : findT b y = some u) => fT_small b y hb u (findT_spec h).2.1
  generalize treeOver a = ova at *
  generalize treeOver b = ovb at *
  generalize findT a = fda at *
  generalize findT b = fdb at *
  clear oa ob hab hQ ha hb
  obtain ⟨ai, ak, ax, as1⟩ := a
  obtain ⟨bi, bk, bx, bs1⟩ := b
  refine pure_of_box good Try.func17 rfl (by kernel_rfl) (by decide) fun A hA => ?_
  conv => whnf
  refine box_go hA ?_
  conv => whnf
  refine loop_drop (fun n fr st => ∃ cur : Int, n = M cur ∧ (0 < cur → Q cur → Q x) ∧ (cur = 0 → Q x) ∧ Holds fr [(2, .int .i64 cur), (3, .ptr 0 0 0), (4, .ptr 1 0 0)] ∧ st = [⟨[[.int .i64 ai, .str ak, .str ax, .sl (T.rows as1)]], 4, true, true, true, .cell⟩, ⟨[[.int .i64 bi, .str bk, .str bx, .sl (T.rows bs1)]], 4, true, true, true, .cell⟩]) (M x) none ?_ ?_
  · exact ⟨x, rfl, fun _ h => h, fun h => absurd h (by omega), ⟨rfl, rfl, rfl, trivial⟩, rfl⟩
  rintro n fr st ⟨cur, rfl, q1, q2, hh, rfl⟩
  obtain ⟨fr, rfl⟩ := hh.split
  clear hh
  conv => whnf
  refine box_go hA ?_
  conv => whnf
  by_cases hc : 0 < cur
  · rw [ltB_t hc]
    conv => whnf
    refine box_with hA [(2, .int .i64 cur), (3, .ptr 0 0 0), (4, .ptr 1 0 0)] ⟨rfl, rfl, rfl, trivial⟩ fun fr => ?_
    conv => whnf
    refine .inl ((fa cur).mono ?_)
    rintro r rfl
    conv => whnf
    have hup := hup cur
    generalize ova cur = n at *
    refine box_with hA [(2, .int .i64 cur), (3, .ptr 0 0 0), (4, .ptr 1 0 0), (7, .int .i64 n)] ⟨rfl, rfl, rfl, rfl, trivial⟩ fun fr => ?_
    conv => whnf
    refine .inl ((fb cur).mono ?_)
    rintro r rfl
    conv => whnf
    by_cases hn : n = ovb cur
    · rw [eqB_t hn]
      obtain ⟨u1, u2, u3⟩ := hup n hc rfl hn.symm
      conv => whnf
      refine box_with hA [(2, .int .i64 cur), (3, .ptr 0 0 0), (4, .ptr 1 0 0), (7, .int .i64 n)] ⟨rfl, rfl, rfl, rfl, trivial⟩ fun fr => ?_
      conv => whnf
      by_cases h0 : 0 < n
      · rw [ltB_t h0]
        conv => whnf
        obtain ⟨u, f, e1, c1⟩ := fR_some (fda n)
        obtain ⟨v, g, e2, c2⟩ := fR_some (fdb n)
        have ga := ga n
        have gb := gb n
        rw [e1] at ga
        rw [e2] at gb
        have lu : u.kids.length = 1 → fda n = some u := fun h => by
          rcases c1 with ⟨h1, _⟩ | ⟨_, h1, _⟩
          · exact h1
          · subst h1; cases h
        have lv : v.kids.length = 1 → fdb n = some v := fun h => by
          rcases c2 with ⟨h1, _⟩ | ⟨_, h1, _⟩
          · exact h1
          · subst h1; cases h
        clear c1 c2 e1 e2
        obtain ⟨ui, uk, ux, us⟩ := u
        obtain ⟨vi, vk, vx, vs⟩ := v
        have hlu := Go.Cod.rows_len us
        have hlv := Go.Cod.rows_len vs
        refine box_with hA [(2, .int .i64 cur), (3, .ptr 0 0 0), (4, .ptr 1 0 0), (7, .int .i64 n)] ⟨rfl, rfl, rfl, rfl, trivial⟩ fun fr => ?_
        conv => whnf
        refine .inl (ga.mono ?_)
        rintro r rfl
        conv => whnf
        refine box_with hA [(2, .int .i64 cur), (3, .ptr 0 0 0), (4, .ptr 1 0 0), (7, .int .i64 n), (8, .ptr 2 0 0)] ⟨rfl, rfl, rfl, rfl, rfl, trivial⟩ fun fr => ?_
        conv => whnf
        refine .inl (gb.mono ?_)
        rintro r rfl
        conv => whnf
        refine box_with hA [(2, .int .i64 cur), (3, .ptr 0 0 0), (4, .ptr 1 0 0), (7, .int .i64 n), (8, .ptr 2 0 0), (10, .ptr 3 0 0)] ⟨rfl, rfl, rfl, rfl, rfl, rfl, trivial⟩ fun fr => ?_
        conv => whnf
        rw [hlu]
        by_cases l1 : us.length = 1
        · rw [eqB_t (by omega)]
          conv => whnf
          rw [hlv]
          by_cases l2 : vs.length = 1
          · rw [eqB_t (by omega)]
            conv => whnf
            refine box_with hA [(2, .int .i64 cur), (3, .ptr 0 0 0), (4, .ptr 1 0 0), (7, .int .i64 n)] ⟨rfl, rfl, rfl, rfl, trivial⟩ fun fr => ?_
            conv => whnf
            refine ⟨M n, u3, some [0, 1], ?_⟩
            conv => whnf
            exact ⟨n, rfl, fun _ hq => q1 hc (u1 h0 _ _ (lu l1) (lv l2) l1 l2 hq), fun h => absurd h (by omega), ⟨rfl, rfl, rfl, trivial⟩, rfl⟩
          · rw [eqB_f (by omega)]
            conv => whnf
            refine box_go hA ?_
            conv => whnf
            exact ⟨false, rfl, fun h => by cases h⟩
        · rw [eqB_f (by omega)]
          conv => whnf
          refine box_go hA ?_
          conv => whnf
          exact ⟨false, rfl, fun h => by cases h⟩
      · rw [ltB_f (by omega)]
        conv => whnf
        refine box_with hA [(2, .int .i64 cur), (3, .ptr 0 0 0), (4, .ptr 1 0 0), (7, .int .i64 n)] ⟨rfl, rfl, rfl, rfl, trivial⟩ fun fr => ?_
        conv => whnf
        refine ⟨M n, u3, none, ?_⟩
        exact ⟨n, rfl, fun h => absurd h h0, fun h => q1 hc (u2 h), ⟨rfl, rfl, rfl, trivial⟩, rfl⟩
    · rw [eqB_f hn]
      conv => whnf
      refine box_go hA ?_
      conv => whnf
      exact ⟨false, rfl, fun h => by cases h⟩
  · rw [ltB_f (by omega)]
    conv => whnf
    refine box_go hA ?_
    conv => whnf
    by_cases h0 : cur = 0
    · rw [eqB_t h0]
      exact ⟨true, rfl, fun _ => q2 h0⟩
    · rw [eqB_f h0]
      exact ⟨false, rfl, fun h => by cases h⟩
end Go.Cod

namespace Go.Cod
open Go Go.Proofs Go.ChangeShapes Go.WideShapes Go.ChangeAt Go.RowKit
set_option linter.all false
set_option maxRecDepth 10000

theorem dsT_cases (a b : T) : (okT a = true ∧ okT b = true ∧ a.id = b.id ∧ dsT a b = (diffT a b, true)) ∨ (dsT a b = ([], false)) := by
  unfold dsT
  by_cases h : okT a = true ∧ okT b = true ∧ a.id = b.id
  · rw [if_pos h]; exact .inl ⟨h.1, h.2.1, h.2.2, rfl⟩
  · rw [if_neg h]; exact .inr rfl
mutual
theorem nT_sz : ∀ t : T, t.ids.length = t.size
  | .mk _ _ _ ks => by simp only [T.ids, T.size, List.length_cons, nL_sz ks]; omega
theorem nL_sz : ∀ ts : List T, (T.idsL ts).length = T.sizeL ts
  | [] => by simp [T.idsL, T.sizeL]
  | t :: ts => by simp only [T.idsL, T.sizeL, List.length_append, nT_sz t, nL_sz ts]
end
set_option maxHeartbeats 16000000 in
theorem law_fnDiffFew (bs : List UInt8) : Pure Try.prog 4 [.sl (brows bs)] (· = .bool true) := by
  have hl := brows_len bs
  have hd := drawDiffSteps_pure bs
  refine pure_of_box good Try.func4 rfl (by kernel_rfl) (by decide) fun A hA => ?_
  generalize brows bs = R at *
  conv => whnf
  refine box_go hA ?_
  conv => whnf
  refine box_go hA ?_
  conv => whnf
  by_cases a0 : 1048576 < R.length
  · rw [ltB_t (by omega)]
    conv => whnf
    refine box_go hA ?_
    conv => whnf
  rw [ltB_f (by omega)]
  conv => whnf
  refine box_with hA [(0, .sl R)] ⟨rfl, trivial⟩ fun fr => ?_
  conv => whnf
  refine .inl ((hd (by omega)).mono ?_)
  rintro r ⟨a, b, a1, a2, b1, b2, rfl⟩
  have i1 := implDiffSteps_plain a b a1 b1
  have i2 := specDiffSteps_plain a b a1 b1 (by rw [nT_sz]; omega) (by rw [nT_sz]; omega)
  have heq : ∀ b : Bool, (!(b == b)) = false := by decide
  rcases dsT_cases a b with ⟨oa, ob, hab, hds⟩ | hds
  · rw [hds] at i1 i2
    have na := ((okT_iff' a).1 oa).2.1
    have nb := ((okT_iff' b).1 ob).2.1
    have hlen80 := diff_few na nb hab (okT_size oa) (okT_size ob)
    have hsm := fun s h => (diff_sm a1 b1 s h).1
    have hno := fun s h => diff_not (a := a) (b := b) s h
    have ws := wcSteps_self (diffT a b) hsm (by omega)
    have fo := fun y => implTreeOver_pure a a1 y
    have fo2 := fun y => implTreeOver_pure b b1 y
    have ga := fun y => implTreeFind_pure a a1 y
    have gb := fun y => implTreeFind_pure b b1 y
    have wk := fun x hx => wcKept_pure a b a1 b1 oa ob hab x hx
    have hst : ∀ x n, treeOver a x = n → treeOver b x = n → 0 < n → ∀ u v, findT a n = some u → findT b n = some v → u.kids.length = 1 → v.kids.length = 1 → Paired a b n → x ∈ keptOf (pairsT a b) :=
      fun x n h1 h2 h3 u v h4 h5 h6 h7 h8 => (paired_step oa ob hab h1 h2 h3 h4 h5 h6 h7 h8).kept oa ob hab
    generalize Paired a b = Q at *
    generalize keptOf (pairsT a b) = KP at *
    generalize diffT a b = L at *
    have hlr := prows_len L
    have hlg := prows_get L
    generalize prows L = rows at *
    generalize treeOver a = ova at *
    generalize treeOver b = ovb at *
    generalize findT a = fda at *
    generalize findT b = fdb at *
    clear oa ob hab na nb hds hd hl
    obtain ⟨ai, ak, ax, as1⟩ := a
    obtain ⟨bi, bk, bx, bs1⟩ := b
    conv => whnf
    refine box_with hA [(3, .ptr 0 0 0), (4, .ptr 1 0 0)] ⟨rfl, rfl, trivial⟩ fun fr => ?_
    conv => whnf
    refine .inl (i1.mono ?_)
    rintro r rfl
    conv => whnf
    refine box_with hA [(3, .ptr 0 0 0), (4, .ptr 1 0 0), (5, .sl rows), (6, .bool true)] ⟨rfl, rfl, rfl, rfl, trivial⟩ fun fr => ?_
    conv => whnf
    refine .inl (i2.mono ?_)
    rintro r rfl
    conv => whnf
    refine box_with hA [(3, .ptr 0 0 0), (4, .ptr 1 0 0), (5, .sl rows), (6, .bool true), (7, .sl rows), (8, .bool true)] ⟨rfl, rfl, rfl, rfl, rfl, rfl, trivial⟩ fun fr => ?_
    conv => whnf
    refine .inl (ws.mono ?_)
    rintro r rfl
    conv => whnf
    refine box_with hA [(3, .ptr 0 0 0), (4, .ptr 1 0 0), (5, .sl rows)] ⟨rfl, rfl, rfl, trivial⟩ fun fr => ?_
    conv => whnf
    refine loop_drop (fun n fr st => ∃ i : Nat, n + i = L.length ∧ Holds fr [(3, .ptr 0 0 0), (4, .ptr 1 0 0), (5, .sl rows), (9, .int .i64 i)] ∧ st = [⟨[[.int .i64 ai, .str ak, .str ax, .sl (T.rows as1)]], 4, true, true, true, .cell⟩, ⟨[[.int .i64 bi, .str bk, .str bx, .sl (T.rows bs1)]], 4, true, true, true, .cell⟩]) L.length none ?_ ?_
    · exact ⟨0, rfl, ⟨rfl, rfl, rfl, rfl, trivial⟩, rfl⟩
    rintro n fr st ⟨i, hi, hh, rfl⟩
    obtain ⟨fr, rfl⟩ := hh.split
    clear hh
    conv => whnf
    refine box_go hA ?_
    conv => whnf
    rw [hlr]
    by_cases hlt : i < L.length
    · rw [ltB_t (by omega)]
      have hg := hlg i hlt
      have hno := hno _ (List.getElem_mem hlt)
      have hwk : V.int .i64 (IntKind.i64.wrap ((i : Int) + 1)) = .int .i64 ((i + 1 : Nat) : Int) := by rw [wrapJ1 i (by omega)]
      generalize L[i] = s at *
      obtain ⟨sk, si, sa, ⟨ti, tk, tx, tks⟩, sx⟩ := s
      simp only [T.id] at hno
      conv => whnf
      refine box_with hA [(3, .ptr 0 0 0), (4, .ptr 1 0 0), (5, .sl rows), (9, .int .i64 i)] ⟨rfl, rfl, rfl, rfl, trivial⟩ fun fr => ?_
      conv => whnf
      refine ⟨by omega, rows, _, 8, rfl, hg, rfl, rfl, ?_⟩
      conv => whnf
      refine box_with hA [(3, .ptr 0 0 0), (4, .ptr 1 0 0), (5, .sl rows), (9, .int .i64 i), (10, .int .i64 si)] ⟨rfl, rfl, rfl, rfl, rfl, trivial⟩ fun fr => ?_
      conv => whnf
      refine ⟨by omega, rows, _, 8, rfl, hg, rfl, rfl, ?_⟩
      conv => whnf
      by_cases k1 : sk = 1
      · rw [eqB_t k1]
        conv => whnf
        refine box_with hA [(3, .ptr 0 0 0), (4, .ptr 1 0 0), (5, .sl rows), (9, .int .i64 i), (10, .int .i64 si)] ⟨rfl, rfl, rfl, rfl, rfl, trivial⟩ fun fr => ?_
        conv => whnf
        refine ⟨by omega, rows, _, 8, rfl, hg, rfl, rfl, ?_⟩
        conv => whnf
        refine box_with hA [(3, .ptr 0 0 0), (4, .ptr 1 0 0), (5, .sl rows), (9, .int .i64 i), (10, .int .i64 ti)] ⟨rfl, rfl, rfl, rfl, rfl, trivial⟩ fun fr => ?_
        conv => whnf
        refine ⟨by omega, rows, _, 8, rfl, hg, rfl, rfl, ?_⟩
        conv => whnf
        rw [ltB_f (show sk ≤ 2 by omega)]
        conv => whnf
        refine box_with hA [(3, .ptr 0 0 0), (4, .ptr 1 0 0), (5, .sl rows), (9, .int .i64 i), (10, .int .i64 ti)] ⟨rfl, rfl, rfl, rfl, rfl, trivial⟩ fun fr => ?_
        conv => whnf
        refine .inl ((fo ti).mono ?_)
        rintro r rfl
        conv => whnf
        have hst := hst ti
        generalize ova ti = ov at *
        obtain ⟨u, f, e1, c1⟩ := fR_some (fda ov)
        obtain ⟨v, g, e2, c2⟩ := fR_some (fdb ov)
        have ga := ga ov
        have gb := gb ov
        rw [e1] at ga
        rw [e2] at gb
        have lu : u.kids.length = 1 → fda ov = some u := fun h => by
          rcases c1 with ⟨h1, _⟩ | ⟨_, h1, _⟩
          · exact h1
          · subst h1; cases h
        have lv : v.kids.length = 1 → fdb ov = some v := fun h => by
          rcases c2 with ⟨h1, _⟩ | ⟨_, h1, _⟩
          · exact h1
          · subst h1; cases h
        clear c1 c2 e1 e2
        obtain ⟨ui, uk, ux, us⟩ := u
        obtain ⟨vi, vk, vx, vs⟩ := v
        have hlu := Go.Cod.rows_len us
        have hlv := Go.Cod.rows_len vs
        refine box_with hA [(3, .ptr 0 0 0), (4, .ptr 1 0 0), (5, .sl rows), (9, .int .i64 i), (10, .int .i64 ti), (11, .int .i64 ov)] ⟨rfl, rfl, rfl, rfl, rfl, rfl, trivial⟩ fun fr => ?_
        conv => whnf
        refine .inl (ga.mono ?_)
        rintro r rfl
        conv => whnf
        refine box_with hA [(3, .ptr 0 0 0), (4, .ptr 1 0 0), (5, .sl rows), (9, .int .i64 i), (10, .int .i64 ti), (11, .int .i64 ov), (12, .ptr 2 0 0)] ⟨rfl, rfl, rfl, rfl, rfl, rfl, rfl, trivial⟩ fun fr => ?_
        conv => whnf
        refine .inl (gb.mono ?_)
        rintro r rfl
        conv => whnf
        refine box_with hA [(3, .ptr 0 0 0), (4, .ptr 1 0 0), (5, .sl rows), (9, .int .i64 i), (10, .int .i64 ti), (11, .int .i64 ov), (12, .ptr 2 0 0), (14, .ptr 3 0 0)] ⟨rfl, rfl, rfl, rfl, rfl, rfl, rfl, rfl, trivial⟩ fun fr => ?_
        conv => whnf
        have fin : ∀ (k : Bool), (k = true → 0 < ov ∧ ov = ovb ti ∧ us.length = 1 ∧ vs.length = 1 ∧ Q ov) → k = false := by
          intro k hk
          cases k with
          | false => rfl
          | true =>
            obtain ⟨z1, z2, z3, z4, z5⟩ := hk rfl
            exact absurd (hst ov rfl z2.symm z1 _ _ (lu z3) (lv z4) z3 z4 z5) (hno.1 k1)
        clear hst lu lv
        by_cases m1 : 0 < ov
        · rw [ltB_t m1]
          conv => whnf
          refine .inl ((fo2 ti).mono ?_)
          rintro r rfl
          by_cases m2 : ov = ovb ti
          · conv => whnf
            rw [eqB_t m2]
            conv => whnf
            rw [hlu]
            by_cases m3 : us.length = 1
            · rw [eqB_t (by omega)]
              conv => whnf
              rw [hlv]
              by_cases m4 : vs.length = 1
              · rw [eqB_t (by omega)]
                conv => whnf
                refine .inl ((wk ov m1).mono ?_)
                rintro r ⟨k, rfl, hk⟩
                obtain rfl := fin k fun h => ⟨m1, m2, m3, m4, hk h⟩
                conv => whnf
                refine box_with hA [(3, .ptr 0 0 0), (4, .ptr 1 0 0), (5, .sl rows), (9, .int .i64 i)] ⟨rfl, rfl, rfl, rfl, trivial⟩ fun fr => ?_
                conv => whnf
                refine ⟨n - 1, by omega, some [0, 1], ?_⟩
                conv => whnf
                exact ⟨i + 1, by omega, ⟨rfl, rfl, rfl, hwk, trivial⟩, rfl⟩
              · rw [eqB_f (by omega)]
                conv => whnf
                refine box_with hA [(3, .ptr 0 0 0), (4, .ptr 1 0 0), (5, .sl rows), (9, .int .i64 i)] ⟨rfl, rfl, rfl, rfl, trivial⟩ fun fr => ?_
                conv => whnf
                refine ⟨n - 1, by omega, some [0, 1], ?_⟩
                conv => whnf
                exact ⟨i + 1, by omega, ⟨rfl, rfl, rfl, hwk, trivial⟩, rfl⟩
            · rw [eqB_f (by omega)]
              conv => whnf
              refine box_with hA [(3, .ptr 0 0 0), (4, .ptr 1 0 0), (5, .sl rows), (9, .int .i64 i)] ⟨rfl, rfl, rfl, rfl, trivial⟩ fun fr => ?_
              conv => whnf
              refine ⟨n - 1, by omega, some [0, 1], ?_⟩
              conv => whnf
              exact ⟨i + 1, by omega, ⟨rfl, rfl, rfl, hwk, trivial⟩, rfl⟩
          · conv => whnf
            rw [eqB_f m2]
            conv => whnf
            refine box_with hA [(3, .ptr 0 0 0), (4, .ptr 1 0 0), (5, .sl rows), (9, .int .i64 i)] ⟨rfl, rfl, rfl, rfl, trivial⟩ fun fr => ?_
            conv => whnf
            refine ⟨n - 1, by omega, some [0, 1], ?_⟩
            conv => whnf
            exact ⟨i + 1, by omega, ⟨rfl, rfl, rfl, hwk, trivial⟩, rfl⟩
        · rw [ltB_f (by omega)]
          conv => whnf
          refine box_with hA [(3, .ptr 0 0 0), (4, .ptr 1 0 0), (5, .sl rows), (9, .int .i64 i)] ⟨rfl, rfl, rfl, rfl, trivial⟩ fun fr => ?_
          conv => whnf
          refine ⟨n - 1, by omega, some [0, 1], ?_⟩
          conv => whnf
          exact ⟨i + 1, by omega, ⟨rfl, rfl, rfl, hwk, trivial⟩, rfl⟩
      · rw [eqB_f k1]
        conv => whnf
        refine box_with hA [(3, .ptr 0 0 0), (4, .ptr 1 0 0), (5, .sl rows), (9, .int .i64 i), (10, .int .i64 si)] ⟨rfl, rfl, rfl, rfl, rfl, trivial⟩ fun fr => ?_
        conv => whnf
        refine ⟨by omega, rows, _, 8, rfl, hg, rfl, rfl, ?_⟩
        conv => whnf
        by_cases k2 : 2 < sk
        · rw [ltB_t (show 2 < sk from k2)]
          conv => whnf
          refine box_with hA [(3, .ptr 0 0 0), (4, .ptr 1 0 0), (5, .sl rows), (9, .int .i64 i)] ⟨rfl, rfl, rfl, rfl, trivial⟩ fun fr => ?_
          conv => whnf
          refine ⟨n - 1, by omega, none, ?_⟩
          exact ⟨i + 1, by omega, ⟨rfl, rfl, rfl, hwk, trivial⟩, rfl⟩
        · rw [ltB_f (show sk ≤ 2 by omega)]
          conv => whnf
          have k3 : sk = 2 := by have := hno.2.2; omega
          refine box_with hA [(3, .ptr 0 0 0), (4, .ptr 1 0 0), (5, .sl rows), (9, .int .i64 i), (10, .int .i64 si)] ⟨rfl, rfl, rfl, rfl, rfl, trivial⟩ fun fr => ?_
          conv => whnf
          refine .inl ((fo si).mono ?_)
          rintro r rfl
          conv => whnf
          have hst := hst si
          generalize ova si = ov at *
          obtain ⟨u, f, e1, c1⟩ := fR_some (fda ov)
          obtain ⟨v, g, e2, c2⟩ := fR_some (fdb ov)
          have ga := ga ov
          have gb := gb ov
          rw [e1] at ga
          rw [e2] at gb
          have lu : u.kids.length = 1 → fda ov = some u := fun h => by
            rcases c1 with ⟨h1, _⟩ | ⟨_, h1, _⟩
            · exact h1
            · subst h1; cases h
          have lv : v.kids.length = 1 → fdb ov = some v := fun h => by
            rcases c2 with ⟨h1, _⟩ | ⟨_, h1, _⟩
            · exact h1
            · subst h1; cases h
          clear c1 c2 e1 e2
          obtain ⟨ui, uk, ux, us⟩ := u
          obtain ⟨vi, vk, vx, vs⟩ := v
          have hlu := Go.Cod.rows_len us
          have hlv := Go.Cod.rows_len vs
          refine box_with hA [(3, .ptr 0 0 0), (4, .ptr 1 0 0), (5, .sl rows), (9, .int .i64 i), (10, .int .i64 si), (11, .int .i64 ov)] ⟨rfl, rfl, rfl, rfl, rfl, rfl, trivial⟩ fun fr => ?_
          conv => whnf
          refine .inl (ga.mono ?_)
          rintro r rfl
          conv => whnf
          refine box_with hA [(3, .ptr 0 0 0), (4, .ptr 1 0 0), (5, .sl rows), (9, .int .i64 i), (10, .int .i64 si), (11, .int .i64 ov), (12, .ptr 2 0 0)] ⟨rfl, rfl, rfl, rfl, rfl, rfl, rfl, trivial⟩ fun fr => ?_
          conv => whnf
          refine .inl (gb.mono ?_)
          rintro r rfl
          conv => whnf
          refine box_with hA [(3, .ptr 0 0 0), (4, .ptr 1 0 0), (5, .sl rows), (9, .int .i64 i), (10, .int .i64 si), (11, .int .i64 ov), (12, .ptr 2 0 0), (14, .ptr 3 0 0)] ⟨rfl, rfl, rfl, rfl, rfl, rfl, rfl, rfl, trivial⟩ fun fr => ?_
          conv => whnf
          have fin : ∀ (k : Bool), (k = true → 0 < ov ∧ ov = ovb si ∧ us.length = 1 ∧ vs.length = 1 ∧ Q ov) → k = false := by
            intro k hk
            cases k with
            | false => rfl
            | true =>
              obtain ⟨z1, z2, z3, z4, z5⟩ := hk rfl
              exact absurd (hst ov rfl z2.symm z1 _ _ (lu z3) (lv z4) z3 z4 z5) (hno.2.1 k3)
          clear hst lu lv
          by_cases m1 : 0 < ov
          · rw [ltB_t m1]
            conv => whnf
            refine .inl ((fo2 si).mono ?_)
            rintro r rfl
            by_cases m2 : ov = ovb si
            · conv => whnf
              rw [eqB_t m2]
              conv => whnf
              rw [hlu]
              by_cases m3 : us.length = 1
              · rw [eqB_t (by omega)]
                conv => whnf
                rw [hlv]
                by_cases m4 : vs.length = 1
                · rw [eqB_t (by omega)]
                  conv => whnf
                  refine .inl ((wk ov m1).mono ?_)
                  rintro r ⟨k, rfl, hk⟩
                  obtain rfl := fin k fun h => ⟨m1, m2, m3, m4, hk h⟩
                  conv => whnf
                  refine box_with hA [(3, .ptr 0 0 0), (4, .ptr 1 0 0), (5, .sl rows), (9, .int .i64 i)] ⟨rfl, rfl, rfl, rfl, trivial⟩ fun fr => ?_
                  conv => whnf
                  refine ⟨n - 1, by omega, some [0, 1], ?_⟩
                  conv => whnf
                  exact ⟨i + 1, by omega, ⟨rfl, rfl, rfl, hwk, trivial⟩, rfl⟩
                · rw [eqB_f (by omega)]
                  conv => whnf
                  refine box_with hA [(3, .ptr 0 0 0), (4, .ptr 1 0 0), (5, .sl rows), (9, .int .i64 i)] ⟨rfl, rfl, rfl, rfl, trivial⟩ fun fr => ?_
                  conv => whnf
                  refine ⟨n - 1, by omega, some [0, 1], ?_⟩
                  conv => whnf
                  exact ⟨i + 1, by omega, ⟨rfl, rfl, rfl, hwk, trivial⟩, rfl⟩
              · rw [eqB_f (by omega)]
                conv => whnf
                refine box_with hA [(3, .ptr 0 0 0), (4, .ptr 1 0 0), (5, .sl rows), (9, .int .i64 i)] ⟨rfl, rfl, rfl, rfl, trivial⟩ fun fr => ?_
                conv => whnf
                refine ⟨n - 1, by omega, some [0, 1], ?_⟩
                conv => whnf
                exact ⟨i + 1, by omega, ⟨rfl, rfl, rfl, hwk, trivial⟩, rfl⟩
            · conv => whnf
              rw [eqB_f m2]
              conv => whnf
              refine box_with hA [(3, .ptr 0 0 0), (4, .ptr 1 0 0), (5, .sl rows), (9, .int .i64 i)] ⟨rfl, rfl, rfl, rfl, trivial⟩ fun fr => ?_
              conv => whnf
              refine ⟨n - 1, by omega, some [0, 1], ?_⟩
              conv => whnf
              exact ⟨i + 1, by omega, ⟨rfl, rfl, rfl, hwk, trivial⟩, rfl⟩
          · rw [ltB_f (by omega)]
            conv => whnf
            refine box_with hA [(3, .ptr 0 0 0), (4, .ptr 1 0 0), (5, .sl rows), (9, .int .i64 i)] ⟨rfl, rfl, rfl, rfl, trivial⟩ fun fr => ?_
            conv => whnf
            refine ⟨n - 1, by omega, some [0, 1], ?_⟩
            conv => whnf
            exact ⟨i + 1, by omega, ⟨rfl, rfl, rfl, hwk, trivial⟩, rfl⟩
    · rw [ltB_f (by omega)]
      conv => whnf
      refine box_with hA [(5, .sl rows)] ⟨rfl, trivial⟩ fun fr => ?_
      conv => whnf
      rw [hlr, leB_t (by omega)]
  · rw [hds] at i1 i2
    have ws := wcSteps_self [] (fun s h => by cases h) (Nat.zero_le _)
    clear hds
    obtain ⟨ai, ak, ax, as1⟩ := a
    obtain ⟨bi, bk, bx, bs1⟩ := b
    conv => whnf
    refine box_with hA [(3, .ptr 0 0 0), (4, .ptr 1 0 0)] ⟨rfl, rfl, trivial⟩ fun fr => ?_
    conv => whnf
    refine .inl (i1.mono ?_)
    rintro r rfl
    conv => whnf
    refine box_with hA [(3, .ptr 0 0 0), (4, .ptr 1 0 0), (5, .sl []), (6, .bool false)] ⟨rfl, rfl, rfl, rfl, trivial⟩ fun fr => ?_
    conv => whnf
    refine .inl (i2.mono ?_)
    rintro r rfl
    conv => whnf
    refine box_with hA [(3, .ptr 0 0 0), (4, .ptr 1 0 0), (5, .sl []), (6, .bool false), (7, .sl []), (8, .bool false)] ⟨rfl, rfl, rfl, rfl, rfl, rfl, trivial⟩ fun fr => ?_
    conv => whnf
    refine .inl (ws.mono ?_)
    rintro r rfl
    conv => whnf
    refine box_with hA [(5, .sl []), (6, .bool false), (7, .sl []), (8, .bool false)] ⟨rfl, rfl, rfl, rfl, trivial⟩ fun fr => ?_
    conv => whnf
    refine .inl (ws.mono ?_)
    rintro r rfl
    conv => whnf
theorem lawFnDiffFew (bs : List UInt8) : Pure Try.prog 4 [.sl (brows bs)] (· = .bool true) := law_fnDiffFew bs
theorem conFnDiffFew (H : Type) (enc : TypeId × Value → H) (W : World) (base : Nat) (args : Array Value) (ds gs : List (DataW H)) (before : List MemPlace)
    (hval : ∀ (j : Nat) t v, Try.f4.params[j]? = some t → args[j]? = some v → Value.okWide Try.prog W .any base t v)
    (hW : DataW.Whole enc Try.prog Try.f4.params.toList Ytgnnacognpkgoaa.Rows.fnDiffFewSpec.vars false W args.toList ds gs before) {fresh handsOn again : Bool} :
    Calls Try.prog 4 args W fun e W' => ∃ v, e = .returned v ∧ Ytgnnacognpkgoaa.Rows.fnDiffFewSpec.post enc Try.prog Try.f4 false fresh handsOn again W args v W' := by
  refine law_calls kids full (tb := 4) rfl Try.underlying4 (by decide +kernel) rfl hW (fun ds h => by match ds, h with | [_], _ => exact ⟨rfl, rfl, rfl⟩) hval
    (Ss := [fun x => ∃ bs : List UInt8, x = .sl (brows bs)]) laid0 ?_ ?_
  · rw [Try.params4]
    exact ⟨argBytes, trivial⟩
  · intro xs h
    obtain ⟨_, rfl, ⟨t0, rfl⟩⟩ := hold1 h
    exact lawFnDiffFew t0

set_option maxRecDepth 100000 in
theorem overFnDiffFew : Ytgnnacognpkgoaa.Rows.FnDiffFewSaid :=
  OpenClaim.holds_of_wide 4 Try.f4 rfl rfl rfl rfl rfl rfl rfl ⟨rfl, rfl, rfl, rfl, rfl⟩ rfl rfl rfl rfl rfl (by kernel_rfl) Try.func4 (by kernel_rfl)
    (of_decide_eq_true (by kernel_rfl)) (by unfold Func.isWrapper; first | (rw [if_pos (by decide +kernel)]; kernel_rfl) | (rw [if_neg (by decide +kernel)]; exact ⟨rfl, rfl⟩))
    (fun os started H enc _ => returnsInHanded_of_change ownK started (by kernel_rfl) Try.func4
      (ChangeSpec.witness6 (enc := enc) (C := Try.checked) false ⟨#[], #[.slice none 0 0], []⟩ 8 (by kernel_rfl) (by kernel_rfl) (by kernel_rfl) (by kernel_rfl))
      (fun W base args ds gs before hval hW _ _ => conFnDiffFew H enc W base args ds gs before hval hW))
end Go.Cod

