/- Own texts. -/
import Derived.WalkKit
import Derived.ProofKit
import Derived.Test.YtpbomdlknkakgaaCodF
namespace Go.Cod
open Go Go.Proofs
set_option maxRecDepth 10000

def mkN (p : SL) : Nat := 7 + 3 * LT.sizeL p.2.kids
def mkS : List SL → Nat
  | [] => 0
  | p :: ps => mkN p + mkS ps
theorem mkS_drop (ps : List SL) (i : Nat) (h : i < ps.length) : mkS (ps.drop i) = mkN ps[i] + mkS (ps.drop (i + 1)) := by
  rw [List.drop_eq_getElem_cons h]; rfl
theorem slEnts_drop (ps : List SL) (i : Nat) (h : i < ps.length) : slEnts (ps.drop i) = ps[i].2.ents ++ slEnts (ps.drop (i + 1)) := by
  rw [List.drop_eq_getElem_cons h]; rfl
theorem slEnts_split (ps : List SL) (i : Nat) : slEnts ps = slEnts (ps.take i) ++ slEnts (ps.drop i) := by
  unfold slEnts
  rw [← LT.entsL_append, ← List.map_append, List.take_append_drop]
set_option maxHeartbeats 16000000 in
theorem markSteps_full (ps : List SL) (hpl : ps.length ≤ 1048576) (b c : Nat) (k : Int) (es : List (List V)) (h0 : 0 ≤ k) (h1 : k + mkS ps ≤ 1152921504606846976) (hok : SlOk ps) (hin : ∀ e ∈ slEnts ps ++ [ent b c 8 (slRows ps)], e ∈ es)
    (hn : ((slEnts ps ++ [ent b c 8 (slRows ps)]).map labOf).Nodup) :
    Full Try.prog noY 22 [.dref b ps.length c, .int .i64 k] [poolO es] fun o st' => ∃ (es' : List (List V)) (k' : Int), 0 ≤ k' ∧ o = .ret (.int .i64 k') ∧ st' = [poolO es'] := by
  have hroot : ent b c 8 (slRows ps) ∈ es := hin _ (by simp)
  have hbn : b ∉ (slEnts ps).map labOf := by
    rw [List.map_append, List.nodup_append] at hn
    intro hm
    exact hn.2.2 b hm b (by simp [ent, labOf]) rfl
  have hndL : ((slEnts ps).map labOf).Nodup := by
    rw [List.map_append, List.nodup_append] at hn; exact hn.1
  have hrl := slRows_len ps
  have hrg := slRows_get ps
  refine full_of_awp good Try.func22 rfl (by kernel_rfl) (by decide) ?_
  conv => whnf
  refine loop_drop (fun n fr st => ∃ (i : Nat) (es0 : List (List V)) (kk : Int) (R0 : List (List V)), n + i = ps.length ∧ 0 ≤ kk ∧ kk + mkS (ps.drop i) ≤ 1152921504606846976 ∧ st = [poolO es0] ∧ Holds fr [(0, .dref b ps.length c), (1, .int .i64 kk), (5, .int .i64 i)] ∧
      ent b c 8 R0 ∈ es0 ∧ (R0.length = ps.length ∧ ∀ j (h : j < ps.length), i ≤ j → R0[j]? = some (slC ps[j])) ∧ (∀ e ∈ slEnts (ps.drop i), e ∈ es0)) ps.length none
    ⟨0, es, k, slRows ps, by omega, h0, h1, rfl, ⟨rfl, rfl, rfl, trivial⟩, hroot, ⟨hrl, fun j h _ => hrg j h⟩, fun e he => hin e (List.mem_append_left _ he)⟩ ?_
  rintro n fr st ⟨i, es0, kk, R0, hi, hk0, hk1, rfl, hh, hA, hJ0, hB⟩
  obtain ⟨fr, rfl⟩ := hh.split
  clear hh
  conv => whnf
  by_cases hlt : i < ps.length
  · rw [ltB_t (by omega)]
    conv => whnf
    have hset : ∀ (R : List (List V)) (X : List V), (R.length = ps.length ∧ ∀ j (h : j < ps.length), i + 1 ≤ j → R[j]? = some (slC ps[j])) → ((R.set i X).length = ps.length ∧ ∀ j (h : j < ps.length), i + 1 ≤ j → (R.set i X)[j]? = some (slC ps[j])) := fun R X h => by
      refine ⟨by simp [h.1], fun j hj hij => ?_⟩
      rw [List.getElem?_set_ne (by omega)]
      exact h.2 j hj hij
    have hg := hJ0.2 i hlt (Nat.le_refl _)
    have hJ : R0.length = ps.length ∧ ∀ j (h : j < ps.length), i + 1 ≤ j → R0[j]? = some (slC ps[j]) := ⟨hJ0.1, fun j h hj => hJ0.2 j h (by omega)⟩
    have hw := hok ps[i] (List.getElem_mem _)
    have hM := markTreeS_full ps[i].2
    have hmk := mkS_drop ps i hlt
    have hed := slEnts_drop ps i hlt
    have hnd2 := hndL
    rw [slEnts_split ps i, List.map_append, List.nodup_append, hed, List.map_append, List.nodup_append] at hnd2
    have hbi : b ∉ ps[i].2.ents.map labOf := fun hm => hbn (by
      rw [slEnts_split ps i, hed, List.map_append, List.map_append]
      exact List.mem_append_right _ (List.mem_append_left _ hm))
    have hin : ∀ e ∈ ps[i].2.ents, e ∈ es0 := fun e he => hB e (by rw [hed]; exact List.mem_append_left _ he)
    have hrest : ∀ e ∈ slEnts (ps.drop (i + 1)), e ∈ es0 ∧ labOf e ≠ b ∧ labOf e ∉ ps[i].2.ents.map labOf := fun e he => by
      refine ⟨hB e (by rw [hed]; exact List.mem_append_right _ he), fun hh => hbn ?_, fun hh => ?_⟩
      · rw [← hh, slEnts_split ps i, hed, List.map_append, List.map_append]
        exact List.mem_append_right _ (List.mem_append_right _ (List.mem_map_of_mem he))
      · exact hnd2.2.1.2.2 _ hh _ (List.mem_map_of_mem he) rfl
    have hndi := hnd2.2.1.1
    clear hnd2 hed hB
    have hnN : mkN ps[i] = 7 + 3 * LT.sizeL ps[i].2.kids := rfl
    have hE : ∀ e ∈ es0, labOf e ≠ b → e ∈ es0 := fun e he _ => he
    have hwi : V.int .i64 (IntKind.i64.wrap ((i : Int) + 1)) = .int .i64 ((i + 1 : Nat) : Int) := by rw [wrap64 (by omega) (by omega)]; simp
    generalize ps[i] = p at *
    obtain ⟨⟨sk, si, sa, sn, sx⟩, ⟨li, lk, lx, lh, lks⟩⟩ := p
    have hwf := hw.2
    simp only [LT.Wf] at hwf
    simp only [LT.ents] at hin hndi hbi hrest
    simp only [LT.kids] at hnN
    have hg : R0[i]? = some [.int .i64 sk, .int .i64 si, .int .i64 sa, .int .i64 li, .str lk, .str lx, hdV lh lks.length, .str sx] := hg
    have w1 : IntKind.i64.wrap (kk + 1) = kk + 1 := wrap64 (by omega) (by omega)
    have w2 : IntKind.i64.wrap (kk + 1 + 1) = kk + 2 := by rw [wrap64 (by omega) (by omega)]; omega
    have w3 : IntKind.i64.wrap (kk + 2 + 1) = kk + 3 := by rw [wrap64 (by omega) (by omega)]; omega
    have w4 : IntKind.i64.wrap (kk + 3 + 1) = kk + 4 := by rw [wrap64 (by omega) (by omega)]; omega
    have w5 : IntKind.i64.wrap (kk + 4 + 1) = kk + 5 := by rw [wrap64 (by omega) (by omega)]; omega
    have w6 : IntKind.i64.wrap (kk + 5 + 1) = kk + 6 := by rw [wrap64 (by omega) (by omega)]; omega
    rcases lh with _ | ⟨lb, lc⟩
    · refine ⟨by omega, by omega, ?_⟩
      conv => whnf
      obtain ⟨es1, h1⟩ : ∃ x, x = putEnt b (R0.set i [.int .i64 (kk), .int .i64 si, .int .i64 sa, .int .i64 li, .str lk, .str lx, hdV none lks.length, .str sx]) es0 := ⟨_, rfl⟩
      refine ⟨0, c, _, [.int .i64 sk, .int .i64 si, .int .i64 sa, .int .i64 li, .str lk, .str lx, hdV none lks.length, .str sx], es1, hA, hg, h1, ?_⟩
      have hA1 : ent b c 8 (R0.set i [.int .i64 (kk), .int .i64 si, .int .i64 sa, .int .i64 li, .str lk, .str lx, hdV none lks.length, .str sx]) ∈ es1 := h1 ▸ putEnt_mem hA
      have hE1 : ∀ e ∈ es0, labOf e ≠ b → e ∈ es1 := fun e he hb => h1 ▸ putEnt_other (hE e he hb) hb
      have hg1 := set_get hg [.int .i64 (kk), .int .i64 si, .int .i64 sa, .int .i64 li, .str lk, .str lx, hdV none lks.length, .str sx]
      have hJ1 := hset R0 [.int .i64 (kk), .int .i64 si, .int .i64 sa, .int .i64 li, .str lk, .str lx, hdV none lks.length, .str sx] hJ
      clear h1
      obtain ⟨R1, hR1⟩ : ∃ R, R = R0.set i [.int .i64 (kk), .int .i64 si, .int .i64 sa, .int .i64 li, .str lk, .str lx, hdV none lks.length, .str sx] := ⟨_, rfl⟩
      rw [← hR1] at hA1 hg1 hJ1
      conv => whnf
      rw [w1]
      refine ⟨by omega, by omega, ?_⟩
      conv => whnf
      obtain ⟨es2, h2⟩ : ∃ x, x = putEnt b (R1.set i [.int .i64 (kk), .int .i64 (kk + 1), .int .i64 sa, .int .i64 li, .str lk, .str lx, hdV none lks.length, .str sx]) es1 := ⟨_, rfl⟩
      refine ⟨0, c, _, [.int .i64 (kk), .int .i64 si, .int .i64 sa, .int .i64 li, .str lk, .str lx, hdV none lks.length, .str sx], es2, hA1, hg1, h2, ?_⟩
      have hA2 : ent b c 8 (R1.set i [.int .i64 (kk), .int .i64 (kk + 1), .int .i64 sa, .int .i64 li, .str lk, .str lx, hdV none lks.length, .str sx]) ∈ es2 := h2 ▸ putEnt_mem hA1
      have hE2 : ∀ e ∈ es0, labOf e ≠ b → e ∈ es2 := fun e he hb => h2 ▸ putEnt_other (hE1 e he hb) hb
      have hg2 := set_get hg1 [.int .i64 (kk), .int .i64 (kk + 1), .int .i64 sa, .int .i64 li, .str lk, .str lx, hdV none lks.length, .str sx]
      have hJ2 := hset R1 [.int .i64 (kk), .int .i64 (kk + 1), .int .i64 sa, .int .i64 li, .str lk, .str lx, hdV none lks.length, .str sx] hJ1
      clear h2
      obtain ⟨R2, hR2⟩ : ∃ R, R = R1.set i [.int .i64 (kk), .int .i64 (kk + 1), .int .i64 sa, .int .i64 li, .str lk, .str lx, hdV none lks.length, .str sx] := ⟨_, rfl⟩
      rw [← hR2] at hA2 hg2 hJ2
      conv => whnf
      rw [w2]
      refine ⟨by omega, by omega, ?_⟩
      conv => whnf
      obtain ⟨es3, h3⟩ : ∃ x, x = putEnt b (R2.set i [.int .i64 (kk), .int .i64 (kk + 1), .int .i64 (kk + 2), .int .i64 li, .str lk, .str lx, hdV none lks.length, .str sx]) es2 := ⟨_, rfl⟩
      refine ⟨0, c, _, [.int .i64 (kk), .int .i64 (kk + 1), .int .i64 sa, .int .i64 li, .str lk, .str lx, hdV none lks.length, .str sx], es3, hA2, hg2, h3, ?_⟩
      have hA3 : ent b c 8 (R2.set i [.int .i64 (kk), .int .i64 (kk + 1), .int .i64 (kk + 2), .int .i64 li, .str lk, .str lx, hdV none lks.length, .str sx]) ∈ es3 := h3 ▸ putEnt_mem hA2
      have hE3 : ∀ e ∈ es0, labOf e ≠ b → e ∈ es3 := fun e he hb => h3 ▸ putEnt_other (hE2 e he hb) hb
      have hg3 := set_get hg2 [.int .i64 (kk), .int .i64 (kk + 1), .int .i64 (kk + 2), .int .i64 li, .str lk, .str lx, hdV none lks.length, .str sx]
      have hJ3 := hset R2 [.int .i64 (kk), .int .i64 (kk + 1), .int .i64 (kk + 2), .int .i64 li, .str lk, .str lx, hdV none lks.length, .str sx] hJ2
      clear h3
      obtain ⟨R3, hR3⟩ : ∃ R, R = R2.set i [.int .i64 (kk), .int .i64 (kk + 1), .int .i64 (kk + 2), .int .i64 li, .str lk, .str lx, hdV none lks.length, .str sx] := ⟨_, rfl⟩
      rw [← hR3] at hA3 hg3 hJ3
      conv => whnf
      rw [w3]
      refine ⟨by omega, by omega, ?_⟩
      conv => whnf
      obtain ⟨es4, h4⟩ : ∃ x, x = putEnt b (R3.set i [.int .i64 (kk), .int .i64 (kk + 1), .int .i64 (kk + 2), .int .i64 (kk + 3), .str lk, .str lx, hdV none lks.length, .str sx]) es3 := ⟨_, rfl⟩
      refine ⟨0, c, _, [.int .i64 (kk), .int .i64 (kk + 1), .int .i64 (kk + 2), .int .i64 li, .str lk, .str lx, hdV none lks.length, .str sx], es4, hA3, hg3, h4, ?_⟩
      have hA4 : ent b c 8 (R3.set i [.int .i64 (kk), .int .i64 (kk + 1), .int .i64 (kk + 2), .int .i64 (kk + 3), .str lk, .str lx, hdV none lks.length, .str sx]) ∈ es4 := h4 ▸ putEnt_mem hA3
      have hE4 : ∀ e ∈ es0, labOf e ≠ b → e ∈ es4 := fun e he hb => h4 ▸ putEnt_other (hE3 e he hb) hb
      have hg4 := set_get hg3 [.int .i64 (kk), .int .i64 (kk + 1), .int .i64 (kk + 2), .int .i64 (kk + 3), .str lk, .str lx, hdV none lks.length, .str sx]
      have hJ4 := hset R3 [.int .i64 (kk), .int .i64 (kk + 1), .int .i64 (kk + 2), .int .i64 (kk + 3), .str lk, .str lx, hdV none lks.length, .str sx] hJ3
      clear h4
      obtain ⟨R4, hR4⟩ : ∃ R, R = R3.set i [.int .i64 (kk), .int .i64 (kk + 1), .int .i64 (kk + 2), .int .i64 (kk + 3), .str lk, .str lx, hdV none lks.length, .str sx] := ⟨_, rfl⟩
      rw [← hR4] at hA4 hg4 hJ4
      conv => whnf
      rw [w4]
      refine .inl ((markText_pure (kk + 4) (by omega)).mono ?_)
      rintro r rfl
      conv => whnf
      refine ⟨by omega, by omega, ?_⟩
      conv => whnf
      obtain ⟨es5, h5⟩ : ∃ x, x = putEnt b (R4.set i [.int .i64 (kk), .int .i64 (kk + 1), .int .i64 (kk + 2), .int .i64 (kk + 3), .str (mt (kk + 4)), .str lx, hdV none lks.length, .str sx]) es4 := ⟨_, rfl⟩
      refine ⟨0, c, _, [.int .i64 (kk), .int .i64 (kk + 1), .int .i64 (kk + 2), .int .i64 (kk + 3), .str lk, .str lx, hdV none lks.length, .str sx], es5, hA4, hg4, h5, ?_⟩
      have hA5 : ent b c 8 (R4.set i [.int .i64 (kk), .int .i64 (kk + 1), .int .i64 (kk + 2), .int .i64 (kk + 3), .str (mt (kk + 4)), .str lx, hdV none lks.length, .str sx]) ∈ es5 := h5 ▸ putEnt_mem hA4
      have hE5 : ∀ e ∈ es0, labOf e ≠ b → e ∈ es5 := fun e he hb => h5 ▸ putEnt_other (hE4 e he hb) hb
      have hg5 := set_get hg4 [.int .i64 (kk), .int .i64 (kk + 1), .int .i64 (kk + 2), .int .i64 (kk + 3), .str (mt (kk + 4)), .str lx, hdV none lks.length, .str sx]
      have hJ5 := hset R4 [.int .i64 (kk), .int .i64 (kk + 1), .int .i64 (kk + 2), .int .i64 (kk + 3), .str (mt (kk + 4)), .str lx, hdV none lks.length, .str sx] hJ4
      clear h5
      obtain ⟨R5, hR5⟩ : ∃ R, R = R4.set i [.int .i64 (kk), .int .i64 (kk + 1), .int .i64 (kk + 2), .int .i64 (kk + 3), .str (mt (kk + 4)), .str lx, hdV none lks.length, .str sx] := ⟨_, rfl⟩
      rw [← hR5] at hA5 hg5 hJ5
      conv => whnf
      rw [w5]
      refine .inl ((markText_pure (kk + 5) (by omega)).mono ?_)
      rintro r rfl
      conv => whnf
      refine ⟨by omega, by omega, ?_⟩
      conv => whnf
      obtain ⟨es6, h6⟩ : ∃ x, x = putEnt b (R5.set i [.int .i64 (kk), .int .i64 (kk + 1), .int .i64 (kk + 2), .int .i64 (kk + 3), .str (mt (kk + 4)), .str (mt (kk + 5)), hdV none lks.length, .str sx]) es5 := ⟨_, rfl⟩
      refine ⟨0, c, _, [.int .i64 (kk), .int .i64 (kk + 1), .int .i64 (kk + 2), .int .i64 (kk + 3), .str (mt (kk + 4)), .str lx, hdV none lks.length, .str sx], es6, hA5, hg5, h6, ?_⟩
      have hA6 : ent b c 8 (R5.set i [.int .i64 (kk), .int .i64 (kk + 1), .int .i64 (kk + 2), .int .i64 (kk + 3), .str (mt (kk + 4)), .str (mt (kk + 5)), hdV none lks.length, .str sx]) ∈ es6 := h6 ▸ putEnt_mem hA5
      have hE6 : ∀ e ∈ es0, labOf e ≠ b → e ∈ es6 := fun e he hb => h6 ▸ putEnt_other (hE5 e he hb) hb
      have hg6 := set_get hg5 [.int .i64 (kk), .int .i64 (kk + 1), .int .i64 (kk + 2), .int .i64 (kk + 3), .str (mt (kk + 4)), .str (mt (kk + 5)), hdV none lks.length, .str sx]
      have hJ6 := hset R5 [.int .i64 (kk), .int .i64 (kk + 1), .int .i64 (kk + 2), .int .i64 (kk + 3), .str (mt (kk + 4)), .str (mt (kk + 5)), hdV none lks.length, .str sx] hJ5
      clear h6
      obtain ⟨R6, hR6⟩ : ∃ R, R = R5.set i [.int .i64 (kk), .int .i64 (kk + 1), .int .i64 (kk + 2), .int .i64 (kk + 3), .str (mt (kk + 4)), .str (mt (kk + 5)), hdV none lks.length, .str sx] := ⟨_, rfl⟩
      rw [← hR6] at hA6 hg6 hJ6
      conv => whnf
      rw [w6]
      refine ⟨by omega, by omega, ?_⟩
      conv => whnf
      refine ⟨0, c, _, [.int .i64 (kk), .int .i64 (kk + 1), .int .i64 (kk + 2), .int .i64 (kk + 3), .str (mt (kk + 4)), .str (mt (kk + 5)), hdV none lks.length, .str sx], hA6, hg6, ?_⟩
      conv => whnf
      refine .inr (.inl ⟨[0], false, ?_⟩)
      conv => whnf
      refine (hM (kk + 6) es6 (by omega) (by omega) hwf.1 hwf.2 (fun e he => hE6 e (hin e he) fun hh => hbi (hh ▸ List.mem_map_of_mem he)) hndi).mono ?_
      rintro o st' ⟨esm, rfl, rfl, _, hm2⟩
      obtain ⟨km, hkm⟩ : ∃ km : Int, km = kk + 6 + 3 * (LT.sizeL lks : Int) := ⟨_, rfl⟩
      rw [← hkm]
      have hAm := hm2 _ hA6 (by simpa [labOf, ent] using hbi)
      have hEm : ∀ e ∈ es0, labOf e ≠ b → labOf e ∉ (LT.entsL lks ++ rootE none lks).map labOf → e ∈ esm := fun e he h1 h2 => hm2 e (hE6 e he h1) h2
      conv => whnf
      refine .inl ((markText_pure (km) (by omega)).mono ?_)
      rintro r rfl
      conv => whnf
      refine ⟨by omega, by omega, ?_⟩
      conv => whnf
      obtain ⟨es7, h7⟩ : ∃ x, x = putEnt b (R6.set i [.int .i64 (kk), .int .i64 (kk + 1), .int .i64 (kk + 2), .int .i64 (kk + 3), .str (mt (kk + 4)), .str (mt (kk + 5)), hdV none lks.length, .str (mt (km))]) esm := ⟨_, rfl⟩
      refine ⟨0, c, _, [.int .i64 (kk), .int .i64 (kk + 1), .int .i64 (kk + 2), .int .i64 (kk + 3), .str (mt (kk + 4)), .str (mt (kk + 5)), hdV none lks.length, .str sx], es7, hAm, hg6, h7, ?_⟩
      have hA7 : ent b c 8 (R6.set i [.int .i64 (kk), .int .i64 (kk + 1), .int .i64 (kk + 2), .int .i64 (kk + 3), .str (mt (kk + 4)), .str (mt (kk + 5)), hdV none lks.length, .str (mt (km))]) ∈ es7 := h7 ▸ putEnt_mem hAm
      have hE7 : ∀ e ∈ es0, labOf e ≠ b → labOf e ∉ (LT.entsL lks ++ rootE none lks).map labOf → e ∈ es7 := fun e he hb h2 => h7 ▸ putEnt_other (hEm e he hb h2) hb
      have hg7 := set_get hg6 [.int .i64 (kk), .int .i64 (kk + 1), .int .i64 (kk + 2), .int .i64 (kk + 3), .str (mt (kk + 4)), .str (mt (kk + 5)), hdV none lks.length, .str (mt (km))]
      have hJ7 := hset R6 [.int .i64 (kk), .int .i64 (kk + 1), .int .i64 (kk + 2), .int .i64 (kk + 3), .str (mt (kk + 4)), .str (mt (kk + 5)), hdV none lks.length, .str (mt (km))] hJ6
      clear h7
      obtain ⟨R7, hR7⟩ : ∃ R, R = R6.set i [.int .i64 (kk), .int .i64 (kk + 1), .int .i64 (kk + 2), .int .i64 (kk + 3), .str (mt (kk + 4)), .str (mt (kk + 5)), hdV none lks.length, .str (mt (km))] := ⟨_, rfl⟩
      rw [← hR7] at hA7 hg7 hJ7
      conv => whnf
      rw [show IntKind.i64.wrap (km + 1) = km + 1 from wrap64 (by omega) (by omega)]
      refine ⟨n - 1, by omega, none, i + 1, es7, km + 1, R7, by omega, by omega, by omega, rfl, ⟨rfl, rfl, hwi, trivial⟩, hA7, ⟨hJ7.1, fun j h hj => hJ7.2 j h hj⟩, fun e he => ?_⟩
      obtain ⟨q1, q2, q3⟩ := hrest e he
      exact hE7 e q1 q2 q3
    · refine ⟨by omega, by omega, ?_⟩
      conv => whnf
      obtain ⟨es1, h1⟩ : ∃ x, x = putEnt b (R0.set i [.int .i64 (kk), .int .i64 si, .int .i64 sa, .int .i64 li, .str lk, .str lx, hdV (some (lb, lc)) lks.length, .str sx]) es0 := ⟨_, rfl⟩
      refine ⟨0, c, _, [.int .i64 sk, .int .i64 si, .int .i64 sa, .int .i64 li, .str lk, .str lx, hdV (some (lb, lc)) lks.length, .str sx], es1, hA, hg, h1, ?_⟩
      have hA1 : ent b c 8 (R0.set i [.int .i64 (kk), .int .i64 si, .int .i64 sa, .int .i64 li, .str lk, .str lx, hdV (some (lb, lc)) lks.length, .str sx]) ∈ es1 := h1 ▸ putEnt_mem hA
      have hE1 : ∀ e ∈ es0, labOf e ≠ b → e ∈ es1 := fun e he hb => h1 ▸ putEnt_other (hE e he hb) hb
      have hg1 := set_get hg [.int .i64 (kk), .int .i64 si, .int .i64 sa, .int .i64 li, .str lk, .str lx, hdV (some (lb, lc)) lks.length, .str sx]
      have hJ1 := hset R0 [.int .i64 (kk), .int .i64 si, .int .i64 sa, .int .i64 li, .str lk, .str lx, hdV (some (lb, lc)) lks.length, .str sx] hJ
      clear h1
      obtain ⟨R1, hR1⟩ : ∃ R, R = R0.set i [.int .i64 (kk), .int .i64 si, .int .i64 sa, .int .i64 li, .str lk, .str lx, hdV (some (lb, lc)) lks.length, .str sx] := ⟨_, rfl⟩
      rw [← hR1] at hA1 hg1 hJ1
      conv => whnf
      rw [w1]
      refine ⟨by omega, by omega, ?_⟩
      conv => whnf
      obtain ⟨es2, h2⟩ : ∃ x, x = putEnt b (R1.set i [.int .i64 (kk), .int .i64 (kk + 1), .int .i64 sa, .int .i64 li, .str lk, .str lx, hdV (some (lb, lc)) lks.length, .str sx]) es1 := ⟨_, rfl⟩
      refine ⟨0, c, _, [.int .i64 (kk), .int .i64 si, .int .i64 sa, .int .i64 li, .str lk, .str lx, hdV (some (lb, lc)) lks.length, .str sx], es2, hA1, hg1, h2, ?_⟩
      have hA2 : ent b c 8 (R1.set i [.int .i64 (kk), .int .i64 (kk + 1), .int .i64 sa, .int .i64 li, .str lk, .str lx, hdV (some (lb, lc)) lks.length, .str sx]) ∈ es2 := h2 ▸ putEnt_mem hA1
      have hE2 : ∀ e ∈ es0, labOf e ≠ b → e ∈ es2 := fun e he hb => h2 ▸ putEnt_other (hE1 e he hb) hb
      have hg2 := set_get hg1 [.int .i64 (kk), .int .i64 (kk + 1), .int .i64 sa, .int .i64 li, .str lk, .str lx, hdV (some (lb, lc)) lks.length, .str sx]
      have hJ2 := hset R1 [.int .i64 (kk), .int .i64 (kk + 1), .int .i64 sa, .int .i64 li, .str lk, .str lx, hdV (some (lb, lc)) lks.length, .str sx] hJ1
      clear h2
      obtain ⟨R2, hR2⟩ : ∃ R, R = R1.set i [.int .i64 (kk), .int .i64 (kk + 1), .int .i64 sa, .int .i64 li, .str lk, .str lx, hdV (some (lb, lc)) lks.length, .str sx] := ⟨_, rfl⟩
      rw [← hR2] at hA2 hg2 hJ2
      conv => whnf
      rw [w2]
      refine ⟨by omega, by omega, ?_⟩
      conv => whnf
      obtain ⟨es3, h3⟩ : ∃ x, x = putEnt b (R2.set i [.int .i64 (kk), .int .i64 (kk + 1), .int .i64 (kk + 2), .int .i64 li, .str lk, .str lx, hdV (some (lb, lc)) lks.length, .str sx]) es2 := ⟨_, rfl⟩
      refine ⟨0, c, _, [.int .i64 (kk), .int .i64 (kk + 1), .int .i64 sa, .int .i64 li, .str lk, .str lx, hdV (some (lb, lc)) lks.length, .str sx], es3, hA2, hg2, h3, ?_⟩
      have hA3 : ent b c 8 (R2.set i [.int .i64 (kk), .int .i64 (kk + 1), .int .i64 (kk + 2), .int .i64 li, .str lk, .str lx, hdV (some (lb, lc)) lks.length, .str sx]) ∈ es3 := h3 ▸ putEnt_mem hA2
      have hE3 : ∀ e ∈ es0, labOf e ≠ b → e ∈ es3 := fun e he hb => h3 ▸ putEnt_other (hE2 e he hb) hb
      have hg3 := set_get hg2 [.int .i64 (kk), .int .i64 (kk + 1), .int .i64 (kk + 2), .int .i64 li, .str lk, .str lx, hdV (some (lb, lc)) lks.length, .str sx]
      have hJ3 := hset R2 [.int .i64 (kk), .int .i64 (kk + 1), .int .i64 (kk + 2), .int .i64 li, .str lk, .str lx, hdV (some (lb, lc)) lks.length, .str sx] hJ2
      clear h3
      obtain ⟨R3, hR3⟩ : ∃ R, R = R2.set i [.int .i64 (kk), .int .i64 (kk + 1), .int .i64 (kk + 2), .int .i64 li, .str lk, .str lx, hdV (some (lb, lc)) lks.length, .str sx] := ⟨_, rfl⟩
      rw [← hR3] at hA3 hg3 hJ3
      conv => whnf
      rw [w3]
      refine ⟨by omega, by omega, ?_⟩
      conv => whnf
      obtain ⟨es4, h4⟩ : ∃ x, x = putEnt b (R3.set i [.int .i64 (kk), .int .i64 (kk + 1), .int .i64 (kk + 2), .int .i64 (kk + 3), .str lk, .str lx, hdV (some (lb, lc)) lks.length, .str sx]) es3 := ⟨_, rfl⟩
      refine ⟨0, c, _, [.int .i64 (kk), .int .i64 (kk + 1), .int .i64 (kk + 2), .int .i64 li, .str lk, .str lx, hdV (some (lb, lc)) lks.length, .str sx], es4, hA3, hg3, h4, ?_⟩
      have hA4 : ent b c 8 (R3.set i [.int .i64 (kk), .int .i64 (kk + 1), .int .i64 (kk + 2), .int .i64 (kk + 3), .str lk, .str lx, hdV (some (lb, lc)) lks.length, .str sx]) ∈ es4 := h4 ▸ putEnt_mem hA3
      have hE4 : ∀ e ∈ es0, labOf e ≠ b → e ∈ es4 := fun e he hb => h4 ▸ putEnt_other (hE3 e he hb) hb
      have hg4 := set_get hg3 [.int .i64 (kk), .int .i64 (kk + 1), .int .i64 (kk + 2), .int .i64 (kk + 3), .str lk, .str lx, hdV (some (lb, lc)) lks.length, .str sx]
      have hJ4 := hset R3 [.int .i64 (kk), .int .i64 (kk + 1), .int .i64 (kk + 2), .int .i64 (kk + 3), .str lk, .str lx, hdV (some (lb, lc)) lks.length, .str sx] hJ3
      clear h4
      obtain ⟨R4, hR4⟩ : ∃ R, R = R3.set i [.int .i64 (kk), .int .i64 (kk + 1), .int .i64 (kk + 2), .int .i64 (kk + 3), .str lk, .str lx, hdV (some (lb, lc)) lks.length, .str sx] := ⟨_, rfl⟩
      rw [← hR4] at hA4 hg4 hJ4
      conv => whnf
      rw [w4]
      refine .inl ((markText_pure (kk + 4) (by omega)).mono ?_)
      rintro r rfl
      conv => whnf
      refine ⟨by omega, by omega, ?_⟩
      conv => whnf
      obtain ⟨es5, h5⟩ : ∃ x, x = putEnt b (R4.set i [.int .i64 (kk), .int .i64 (kk + 1), .int .i64 (kk + 2), .int .i64 (kk + 3), .str (mt (kk + 4)), .str lx, hdV (some (lb, lc)) lks.length, .str sx]) es4 := ⟨_, rfl⟩
      refine ⟨0, c, _, [.int .i64 (kk), .int .i64 (kk + 1), .int .i64 (kk + 2), .int .i64 (kk + 3), .str lk, .str lx, hdV (some (lb, lc)) lks.length, .str sx], es5, hA4, hg4, h5, ?_⟩
      have hA5 : ent b c 8 (R4.set i [.int .i64 (kk), .int .i64 (kk + 1), .int .i64 (kk + 2), .int .i64 (kk + 3), .str (mt (kk + 4)), .str lx, hdV (some (lb, lc)) lks.length, .str sx]) ∈ es5 := h5 ▸ putEnt_mem hA4
      have hE5 : ∀ e ∈ es0, labOf e ≠ b → e ∈ es5 := fun e he hb => h5 ▸ putEnt_other (hE4 e he hb) hb
      have hg5 := set_get hg4 [.int .i64 (kk), .int .i64 (kk + 1), .int .i64 (kk + 2), .int .i64 (kk + 3), .str (mt (kk + 4)), .str lx, hdV (some (lb, lc)) lks.length, .str sx]
      have hJ5 := hset R4 [.int .i64 (kk), .int .i64 (kk + 1), .int .i64 (kk + 2), .int .i64 (kk + 3), .str (mt (kk + 4)), .str lx, hdV (some (lb, lc)) lks.length, .str sx] hJ4
      clear h5
      obtain ⟨R5, hR5⟩ : ∃ R, R = R4.set i [.int .i64 (kk), .int .i64 (kk + 1), .int .i64 (kk + 2), .int .i64 (kk + 3), .str (mt (kk + 4)), .str lx, hdV (some (lb, lc)) lks.length, .str sx] := ⟨_, rfl⟩
      rw [← hR5] at hA5 hg5 hJ5
      conv => whnf
      rw [w5]
      refine .inl ((markText_pure (kk + 5) (by omega)).mono ?_)
      rintro r rfl
      conv => whnf
      refine ⟨by omega, by omega, ?_⟩
      conv => whnf
      obtain ⟨es6, h6⟩ : ∃ x, x = putEnt b (R5.set i [.int .i64 (kk), .int .i64 (kk + 1), .int .i64 (kk + 2), .int .i64 (kk + 3), .str (mt (kk + 4)), .str (mt (kk + 5)), hdV (some (lb, lc)) lks.length, .str sx]) es5 := ⟨_, rfl⟩
      refine ⟨0, c, _, [.int .i64 (kk), .int .i64 (kk + 1), .int .i64 (kk + 2), .int .i64 (kk + 3), .str (mt (kk + 4)), .str lx, hdV (some (lb, lc)) lks.length, .str sx], es6, hA5, hg5, h6, ?_⟩
      have hA6 : ent b c 8 (R5.set i [.int .i64 (kk), .int .i64 (kk + 1), .int .i64 (kk + 2), .int .i64 (kk + 3), .str (mt (kk + 4)), .str (mt (kk + 5)), hdV (some (lb, lc)) lks.length, .str sx]) ∈ es6 := h6 ▸ putEnt_mem hA5
      have hE6 : ∀ e ∈ es0, labOf e ≠ b → e ∈ es6 := fun e he hb => h6 ▸ putEnt_other (hE5 e he hb) hb
      have hg6 := set_get hg5 [.int .i64 (kk), .int .i64 (kk + 1), .int .i64 (kk + 2), .int .i64 (kk + 3), .str (mt (kk + 4)), .str (mt (kk + 5)), hdV (some (lb, lc)) lks.length, .str sx]
      have hJ6 := hset R5 [.int .i64 (kk), .int .i64 (kk + 1), .int .i64 (kk + 2), .int .i64 (kk + 3), .str (mt (kk + 4)), .str (mt (kk + 5)), hdV (some (lb, lc)) lks.length, .str sx] hJ5
      clear h6
      obtain ⟨R6, hR6⟩ : ∃ R, R = R5.set i [.int .i64 (kk), .int .i64 (kk + 1), .int .i64 (kk + 2), .int .i64 (kk + 3), .str (mt (kk + 4)), .str (mt (kk + 5)), hdV (some (lb, lc)) lks.length, .str sx] := ⟨_, rfl⟩
      rw [← hR6] at hA6 hg6 hJ6
      conv => whnf
      rw [w6]
      refine ⟨by omega, by omega, ?_⟩
      conv => whnf
      refine ⟨0, c, _, [.int .i64 (kk), .int .i64 (kk + 1), .int .i64 (kk + 2), .int .i64 (kk + 3), .str (mt (kk + 4)), .str (mt (kk + 5)), hdV (some (lb, lc)) lks.length, .str sx], hA6, hg6, ?_⟩
      conv => whnf
      refine .inr (.inl ⟨[0], false, ?_⟩)
      conv => whnf
      refine (hM (kk + 6) es6 (by omega) (by omega) hwf.1 hwf.2 (fun e he => hE6 e (hin e he) fun hh => hbi (hh ▸ List.mem_map_of_mem he)) hndi).mono ?_
      rintro o st' ⟨esm, rfl, rfl, _, hm2⟩
      obtain ⟨km, hkm⟩ : ∃ km : Int, km = kk + 6 + 3 * (LT.sizeL lks : Int) := ⟨_, rfl⟩
      rw [← hkm]
      have hAm := hm2 _ hA6 (by simpa [labOf, ent] using hbi)
      have hEm : ∀ e ∈ es0, labOf e ≠ b → labOf e ∉ (LT.entsL lks ++ rootE (some (lb, lc)) lks).map labOf → e ∈ esm := fun e he h1 h2 => hm2 e (hE6 e he h1) h2
      conv => whnf
      refine .inl ((markText_pure (km) (by omega)).mono ?_)
      rintro r rfl
      conv => whnf
      refine ⟨by omega, by omega, ?_⟩
      conv => whnf
      obtain ⟨es7, h7⟩ : ∃ x, x = putEnt b (R6.set i [.int .i64 (kk), .int .i64 (kk + 1), .int .i64 (kk + 2), .int .i64 (kk + 3), .str (mt (kk + 4)), .str (mt (kk + 5)), hdV (some (lb, lc)) lks.length, .str (mt (km))]) esm := ⟨_, rfl⟩
      refine ⟨0, c, _, [.int .i64 (kk), .int .i64 (kk + 1), .int .i64 (kk + 2), .int .i64 (kk + 3), .str (mt (kk + 4)), .str (mt (kk + 5)), hdV (some (lb, lc)) lks.length, .str sx], es7, hAm, hg6, h7, ?_⟩
      have hA7 : ent b c 8 (R6.set i [.int .i64 (kk), .int .i64 (kk + 1), .int .i64 (kk + 2), .int .i64 (kk + 3), .str (mt (kk + 4)), .str (mt (kk + 5)), hdV (some (lb, lc)) lks.length, .str (mt (km))]) ∈ es7 := h7 ▸ putEnt_mem hAm
      have hE7 : ∀ e ∈ es0, labOf e ≠ b → labOf e ∉ (LT.entsL lks ++ rootE (some (lb, lc)) lks).map labOf → e ∈ es7 := fun e he hb h2 => h7 ▸ putEnt_other (hEm e he hb h2) hb
      have hg7 := set_get hg6 [.int .i64 (kk), .int .i64 (kk + 1), .int .i64 (kk + 2), .int .i64 (kk + 3), .str (mt (kk + 4)), .str (mt (kk + 5)), hdV (some (lb, lc)) lks.length, .str (mt (km))]
      have hJ7 := hset R6 [.int .i64 (kk), .int .i64 (kk + 1), .int .i64 (kk + 2), .int .i64 (kk + 3), .str (mt (kk + 4)), .str (mt (kk + 5)), hdV (some (lb, lc)) lks.length, .str (mt (km))] hJ6
      clear h7
      obtain ⟨R7, hR7⟩ : ∃ R, R = R6.set i [.int .i64 (kk), .int .i64 (kk + 1), .int .i64 (kk + 2), .int .i64 (kk + 3), .str (mt (kk + 4)), .str (mt (kk + 5)), hdV (some (lb, lc)) lks.length, .str (mt (km))] := ⟨_, rfl⟩
      rw [← hR7] at hA7 hg7 hJ7
      conv => whnf
      rw [show IntKind.i64.wrap (km + 1) = km + 1 from wrap64 (by omega) (by omega)]
      refine ⟨n - 1, by omega, none, i + 1, es7, km + 1, R7, by omega, by omega, by omega, rfl, ⟨rfl, rfl, hwi, trivial⟩, hA7, ⟨hJ7.1, fun j h hj => hJ7.2 j h hj⟩, fun e he => ?_⟩
      obtain ⟨q1, q2, q3⟩ := hrest e he
      exact hE7 e q1 q2 q3
  · rw [ltB_f (by omega)]
    conv => whnf
    refine ⟨[], false, ?_⟩
    conv => whnf
    exact ⟨es0, kk, hk0, rfl, rfl⟩
end Go.Cod

namespace Go.Cod
open Go Go.Proofs
set_option maxRecDepth 10000

theorem toSteps_pure (ss : List Stp) (hl : ss.length ≤ 1048576) (hs : ∀ s ∈ ss, s.node.Small) : Pure Try.prog 17 [.sl (prows ss)] (· = .sl (prows ss)) := by
  refine Full.freeze (toSteps_new ss hl hs) ?_
  rintro o st' ⟨b, c, ps, h1, h2, h3, rfl, rfl⟩
  have hv := sl_view ps b c h2 (es := slEnts ps ++ [ent b c 8 (slRows ps)]) (fun _ h => h)
  rw [h1] at hv
  exact ⟨_, _, _, rfl, rfl, hv, rfl, rfl⟩
theorem mkS_le (ps : List SL) (h : ∀ p ∈ ps, LT.sizeL p.2.kids ≤ 1048577) : mkS ps ≤ ps.length * 3145738 := by
  induction ps with
  | nil => simp [mkS]
  | cons p ps ih =>
    have h1 := h p (by simp)
    have h2 := ih fun q hq => h q (List.mem_cons_of_mem _ hq)
    simp only [mkS, mkN, List.length_cons]
    omega
end Go.Cod

namespace Go.Cod
open Go Go.Proofs
set_option maxRecDepth 10000

theorem lz_ents (es : List (List V)) : [poolO es] = [poolO (es ++ lz.ents)] := by rw [show lz.ents = [] from rfl, List.append_nil]
/-- A step whose tree is in a pool, and whether it is one. -/
def BackR2 (r : Stp × Bool) (es : List (List V)) (o : Out) (st' : St) : Prop := ∃ l : LT, l.erase = r.1.node ∧ l.Wf ∧ o = .ret (.tup [.agg (stpC r.1 l), .bool r.2]) ∧ st' = [poolO (es ++ l.ents)]
set_option maxHeartbeats 8000000 in
theorem implStepBack_acc2 (t : T) (s : Stp) (ht : t.Small) (hs : s.node.Small) (htx : s.text.length ≤ 1048576) (es : List (List V)) : Full Try.prog noY 27 [.agg t.cells, .agg s.cells] [poolO es] (BackR2 (backT t s) es) := by
  have f1 := implStepDo_pure t s ht hs htx
  have f2 := stepDeedOf_pure s hs
  have hb : backT t s = if okT t = true then (match doT t s with
    | some _ => (backS t s, true)
    | none => (SZ, false)) else (SZ, false) := rfl
  have hst : stepT t s = if okT t = true then (match doT t s with
    | some y => (y, true)
    | none => (t, false)) else (TZ, false) := rfl
  have hF := fun y h1 h2 => back_facts (t := t) (y := y) (s := s) h1 h2
  have hu1 := fun sid at_ => putUndo sid at_ s.node t
  have hu2 := cutUndo s.id t
  have hu3 := fun x h => textUndo s.id s.text t x ht h
  have hu4 := fun x h => kindUndo s.id s.text t x ht h
  have hsm := fun x h => fT_small t x ht h
  have hkl : ∀ ps : T, ps.Small → ps.kids.length ≤ 1048576 := fun ps h => by cases h with | mk g1 g2 g3 g4 g5 => exact g4
  generalize hdk : deedOk s = dk at *
  generalize hdv : deedV s = dv at *
  unfold deedV at hdv
  generalize backT t s = bk at *
  generalize stepT t s = sd at *
  generalize hbs : backS t s = bs at *
  generalize okT t = okt at *
  generalize doT t s = d at *
  simp only [Stp.cells] at f1 f2 ⊢
  obtain ⟨kind, sid, at_, node, text⟩ := s
  simp only at f1 f2 hF hu1 hu2 hu3 hu4 hdv ⊢
  have hk : ∀ y, okt = true → d = some y → (kind = 1 ∧ bs = ⟨2, node.id, 0, TZ, []⟩ ∧ dv = .iface 118 (.agg ([.int .i64 sid, .int .i64 at_] ++ node.cells))) ∨ (kind = 2 ∧ ∃ (ps x : T) (ov j : Int), treeOver t sid = ov ∧ fT t ov = some ps ∧ placeGo sid 0 ps.kids = j ∧ fT t sid = some x ∧ t.id ≠ sid ∧ bs = ⟨1, ov, j, x, []⟩ ∧ dv = .iface 120 (.agg [.int .i64 sid])) ∨
      (kind = 3 ∧ ∃ x, fT t sid = some x ∧ bs = ⟨3, sid, 0, TZ, x.text⟩ ∧ dv = .iface 122 (.agg [.int .i64 sid, .str text])) ∨ (kind = 4 ∧ ∃ x, fT t sid = some x ∧ bs = ⟨4, sid, 0, TZ, x.kind⟩ ∧ dv = .iface 124 (.agg [.int .i64 sid, .str text])) := fun y h1 h2 => by
    rcases hF y h1 h2 with ⟨k, h⟩ | ⟨k, ps, x, ov, j, h3, h4, h5, h6, h7, h⟩ | ⟨k, x, h6, h⟩ | ⟨k, x, h6, h⟩
    · exact .inl ⟨k, h, by rw [← hdv, if_pos k]⟩
    · exact .inr (.inl ⟨k, ps, x, ov, j, h3, h4, h5, h6, h7, h, by rw [← hdv, if_neg (by omega), if_pos k]⟩)
    · exact .inr (.inr (.inl ⟨k, x, h6, h, by rw [← hdv, if_neg (by omega), if_neg (by omega), if_pos k]⟩))
    · exact .inr (.inr (.inr ⟨k, x, h6, h, by rw [← hdv, if_neg (by omega), if_neg (by omega), if_neg (by omega), if_pos k]⟩))
  clear hF hdv
  have hnt : ∀ (a : T), a = t → t = a := fun a h => h.symm
  obtain ⟨tid, tk, tx, tks⟩ := t
  cases okt with
  | false =>
    rw [if_neg (by simp)] at hb hst
    subst hb hst
    obtain ⟨nid, nk, nx, nks⟩ := node
    refine full_of_awp good Try.func27 rfl (by kernel_rfl) (by decide) ?_
    conv => whnf
    refine .inl (f1.mono ?_)
    rintro r rfl
    conv => whnf
    refine ⟨[], true, ?_⟩
    conv => whnf
    exact ⟨lz, rfl, by simp [lz, LT.Wf, LT.WfL], rfl, lz_ents es⟩
  | true =>
    rw [if_pos rfl] at hb hst
    cases hdd : d with
    | none =>
      rw [hdd] at hb hst
      simp only at hb hst
      subst hb hst
      obtain ⟨nid, nk, nx, nks⟩ := node
      refine full_of_awp good Try.func27 rfl (by kernel_rfl) (by decide) ?_
      conv => whnf
      refine .inl (f1.mono ?_)
      rintro r rfl
      conv => whnf
      refine ⟨[], true, ?_⟩
      conv => whnf
      exact ⟨lz, rfl, by simp [lz, LT.Wf, LT.WfL], rfl, lz_ents es⟩
    | some y =>
      rw [hdd] at hb hst
      simp only at hb hst
      subst hb hst
      have hk := hk y rfl hdd
      obtain ⟨yid, yk, yx, yks⟩ := y
      rcases hk with ⟨k, rfl, rfl⟩ | ⟨k, ps, x, ov, j, h3, h4, h5, h6, h7, rfl, rfl⟩ | ⟨k, x, h6, rfl, rfl⟩ | ⟨k, x, h6, rfl, rfl⟩
      · have hu1 := hu1 sid at_
        obtain ⟨nid, nk, nx, nks⟩ := node
        refine full_of_awp good Try.func27 rfl (by kernel_rfl) (by decide) ?_
        conv => whnf
        refine .inl (f1.mono ?_)
        rintro r rfl
        conv => whnf
        refine .inl (f2.mono ?_)
        rintro r rfl
        conv => whnf
        refine ⟨152, rfl, ?_⟩
        conv => whnf
        refine .inr (.inl ⟨[], true, ?_⟩)
        conv => whnf
        refine hu1.mono ?_
        rintro o st' ⟨rfl, rfl⟩
        conv => whnf
        refine ⟨[], true, ?_⟩
        conv => whnf
        exact ⟨lz, rfl, by simp [lz, LT.Wf, LT.WfL], rfl, lz_ents es⟩
      · have hu2 := hu2 ps x ht (hkl ps (hsm _ _ h4)) (hsm _ _ h6) ov j h3 h4 h5 h6 h7 es
        clear h3 h4 h5 h6 h7
        obtain ⟨nid, nk, nx, nks⟩ := node
        obtain ⟨xid, xk, xx, xks⟩ := x
        refine full_of_awp good Try.func27 rfl (by kernel_rfl) (by decide) ?_
        conv => whnf
        refine .inl (f1.mono ?_)
        rintro r rfl
        conv => whnf
        refine .inl (f2.mono ?_)
        rintro r rfl
        conv => whnf
        refine ⟨159, rfl, ?_⟩
        conv => whnf
        refine .inr (.inl ⟨[0], true, ?_⟩)
        conv => whnf
        refine hu2.mono ?_
        rintro o st' ⟨l, l1, l2, rfl, rfl⟩
        obtain ⟨li, lk, lx, lh, lks⟩ := l
        rcases lh with _ | ⟨lb, lc⟩
        all_goals
          conv => whnf
          refine ⟨[], true, ?_⟩
          conv => whnf
          exact ⟨_, l1, l2, rfl, rfl⟩
      · have hu3 := hu3 x h6
        obtain ⟨nid, nk, nx, nks⟩ := node
        obtain ⟨xid, xk, xx, xks⟩ := x
        refine full_of_awp good Try.func27 rfl (by kernel_rfl) (by decide) ?_
        conv => whnf
        refine .inl (f1.mono ?_)
        rintro r rfl
        conv => whnf
        refine .inl (f2.mono ?_)
        rintro r rfl
        conv => whnf
        refine ⟨163, rfl, ?_⟩
        conv => whnf
        refine .inr (.inl ⟨[], true, ?_⟩)
        conv => whnf
        refine hu3.mono ?_
        rintro o st' ⟨rfl, rfl⟩
        conv => whnf
        refine ⟨[], true, ?_⟩
        conv => whnf
        exact ⟨lz, rfl, by simp [lz, LT.Wf, LT.WfL], rfl, lz_ents es⟩
      · have hu4 := hu4 x h6
        obtain ⟨nid, nk, nx, nks⟩ := node
        obtain ⟨xid, xk, xx, xks⟩ := x
        refine full_of_awp good Try.func27 rfl (by kernel_rfl) (by decide) ?_
        conv => whnf
        refine .inl (f1.mono ?_)
        rintro r rfl
        conv => whnf
        refine .inl (f2.mono ?_)
        rintro r rfl
        conv => whnf
        refine ⟨165, rfl, ?_⟩
        conv => whnf
        refine .inr (.inl ⟨[], true, ?_⟩)
        conv => whnf
        refine hu4.mono ?_
        rintro o st' ⟨rfl, rfl⟩
        conv => whnf
        refine ⟨[], true, ?_⟩
        conv => whnf
        exact ⟨lz, rfl, by simp [lz, LT.Wf, LT.WfL], rfl, lz_ents es⟩
end Go.Cod

namespace Go.Cod
open Go Go.Proofs
set_option maxRecDepth 10000

set_option maxHeartbeats 8000000 in
theorem reverse_sl (rows : List (List V)) (hr : ∀ r ∈ rows, ∃ s : SL, r = slC s) (hl : rows.length ≤ 1048576) : Full Try.prog noY 65 [.own 0] [ownS rows] fun o st' => o = .ret (.tup []) ∧ st' = [ownS rows.reverse] := by
  refine full_of_awp good Try.func65 rfl (by kernel_rfl) (by decide) ?_
  conv => whnf
  refine loop_drop (fun n fr st => ∃ (i : Nat) (rs : List (List V)), n + i = rows.length ∧ RevAt rows i rs ∧ (∀ r ∈ rs, ∃ s : SL, r = slC s) ∧ st = [ownS rs] ∧ Holds fr [(0, .own 0), (2, .int .i64 i), (3, .int .i64 ((rows.length : Int) - 1 - i))]) rows.length none
    ⟨0, rows, rfl, RevAt.zero rows, hr, rfl, rfl, rfl, by
      show V.int .i64 (IntKind.i64.wrap ((rows.length : Int) - 1)) = _
      rw [wrap64 (by omega) (by omega)]; simp, trivial⟩ ?_
  rintro n fr st ⟨i, rs, hi, hra, hrs, rfl, hh⟩
  obtain ⟨fr, rfl⟩ := hh.split
  clear hh
  conv => whnf
  by_cases hlt : (i : Int) < (rows.length : Int) - 1 - i
  · rw [ltB_t hlt]
    have hln := hra.1
    obtain ⟨a, ha⟩ : ∃ a, rs[i]? = some a := ⟨rs[i], by rw [List.getElem?_eq_getElem]⟩
    obtain ⟨b, hb⟩ : ∃ b, rs[rows.length - 1 - i]? = some b := ⟨rs[rows.length - 1 - i], by rw [List.getElem?_eq_getElem]⟩
    have hn := hra.next (by omega) a b ha hb
    obtain ⟨sa, rfl⟩ := hrs a (List.mem_of_getElem? ha)
    obtain ⟨sb, rfl⟩ := hrs b (List.mem_of_getElem? hb)
    have e1 : ((rows.length : Int) - 1 - i).toNat = rows.length - 1 - i := by omega
    have hb' : rs[((rows.length : Int) - 1 - i).toNat]? = some (slC sb) := by rw [e1]; exact hb
    have ha' : rs[(i : Int).toNat]? = some (slC sa) := ha
    have hb2 : ∀ X, (rs.set (i : Int).toNat X)[((rows.length : Int) - 1 - i).toNat]? = some (slC sb) := fun X => by
      rw [e1, show (i : Int).toNat = i from rfl, List.getElem?_set_ne (by omega)]; exact hb
    have hrs2 : ∀ r ∈ (rs.set i (slC sb)).set (rows.length - 1 - i) (slC sa), ∃ s : SL, r = slC s := fun r hr => by
      rcases List.mem_or_eq_of_mem_set hr with h | h
      · rcases List.mem_or_eq_of_mem_set h with h | h
        · exact hrs r h
        · exact ⟨_, h⟩
      · exact ⟨_, h⟩
    obtain ⟨⟨ak, ai, aa, an, a5⟩, ⟨a1, a2, a3, ah, a4⟩⟩ := sa
    obtain ⟨⟨bk, bi, ba, bn, b5⟩, ⟨b1, b2, b3, bh, b4⟩⟩ := sb
    rcases ah with _ | ⟨ah, ac⟩ <;> rcases bh with _ | ⟨bh, bc⟩
    all_goals
      conv => whnf
      repeat (first
        | (refine And.intro (by
                (conv => whnf)
                first
                  | rfl
                  | exact ⟨by omega, rs, _, 8, rfl, hb', rfl, rfl, rfl⟩
                  | exact ⟨by omega, rs, _, 8, rfl, ha', rfl, rfl, rfl⟩
                  | exact AtRow_intro _ hb' rfl
                  | exact AtRow_intro _ ha' rfl) ?_
           conv => whnf)
        | (refine ⟨by omega, rs, _, 8, rfl, hb', rfl, rfl, ?_⟩
           conv => whnf)
        | (refine ⟨by omega, rs, _, 8, rfl, ha', rfl, rfl, ?_⟩
           conv => whnf)
        | (refine AtRow_intro _ hb' ?_
           conv => whnf)
        | (refine AtRow_intro _ ha' ?_
           conv => whnf))
      refine ⟨by omega, _, _, 8, rfl, hb2 _, rfl, rfl, ?_⟩
      conv => whnf
      refine AtRow_intro _ (hb2 _) ?_
      conv => whnf
      refine ⟨n - 1, by omega, none, i + 1, _, by omega, hn, hrs2, ?_, rfl, ?_, ?_, trivial⟩
      · rw [← e1]
        rfl
      · show V.int .i64 (IntKind.i64.wrap ((i : Int) + 1)) = _
        rw [wrap64 (by omega) (by omega)]; simp
      · show V.int .i64 (IntKind.i64.wrap ((rows.length : Int) - 1 - i - 1)) = _
        rw [wrap64 (by omega) (by omega)]; congr 1; omega
  · rw [ltB_f (by omega)]
    conv => whnf
    refine ⟨[], false, ?_⟩
    conv => whnf
    exact ⟨rfl, by rw [hra.done (by omega)]; rfl⟩
def slV (ps : List SL) (m : Nat) : V := match ps with
  | [] => .nils
  | _ :: _ => .own m
def slO (ps : List SL) : List O := match ps with
  | [] => []
  | _ :: _ => [ownS (slRows ps)]
theorem slRows_cells (ps : List SL) : ∀ r ∈ slRows ps, ∃ p : SL, r = slC p := fun r hr => by
  obtain ⟨p, _, rfl⟩ := List.mem_map.1 hr
  exact ⟨p, rfl⟩
theorem slRows_rev (ps : List SL) : (slRows ps).reverse = slRows ps.reverse := by simp [slRows]
/-- Steps that undo, in one's own memory, or nothing. -/
def BacksR (r : List Stp × Bool) (o : Out) (st' : St) : Prop := (∃ es, r.1 = [] ∧ o = .ret (.tup [.nils, .bool r.2]) ∧ st' = [poolO es]) ∨
  (∃ ps : List SL, ps ≠ [] ∧ ps.reverse.map (·.1) = r.1 ∧ SlOk ps ∧ o = .ret (.tup [.own 1, .bool r.2]) ∧ st' = [poolO (slEnts ps), ownS (slRows ps.reverse)])
set_option maxHeartbeats 16000000 in
theorem implStepsBack_acc (t : T) (ls : List Stp) (ht : t.Small) (hls : ∀ s ∈ ls, s.Sm) (hl : ls.length ≤ 1048576) : Full Try.prog noY 32 [.agg t.cells, .sl (prows ls)] [poolO []] (BacksR (backsT t ls)) := by
  have f1 := implTreeOk t ht
  have hst : backsT t ls = if okT t = true then (match backsGo t ls [] with
    | some r => (r, true)
    | none => ([], false)) else ([], false) := rfl
  have hlen := prows_len ls
  have hget := prows_get ls
  generalize backsT t ls = res at *
  generalize prows ls = rows at *
  cases hok : okT t with
  | false =>
    rw [hok] at f1 hst
    rw [if_neg (by simp)] at hst
    subst hst
    cases t with
    | mk tid tk tx tks =>
    refine full_of_awp good Try.func32 rfl (by kernel_rfl) (by decide) ?_
    conv => whnf
    refine .inl (f1.mono ?_)
    rintro r rfl
    conv => whnf
    refine ⟨[], true, ?_⟩
    conv => whnf
    exact .inl ⟨_, rfl, rfl, rfl⟩
  | true =>
    rw [hok] at f1 hst
    rw [if_pos rfl] at hst
    have hgo : backsGo t ls [] = backsGo t (ls.drop 0) [] := rfl
    rw [hgo] at hst
    have hD : ∀ x acc i (h : i < ls.length), backsGo x (ls.drop i) acc = match doT x ls[i] with
        | some y => backsGo y (ls.drop (i + 1)) (backS x ls[i] :: acc)
        | none => none := fun x acc i h => backsGo_drop x ls acc i h
    have hE : ∀ x acc, backsGo x (ls.drop ls.length) acc = some acc := fun x acc => by rw [List.drop_of_length_le (by omega)]; rfl
    have hok' := hok
    have ht' := ht
    cases t with
    | mk tid tk tx tks =>
    refine full_of_awp good Try.func32 rfl (by kernel_rfl) (by decide) ?_
    conv => whnf
    refine .inl (f1.mono ?_)
    rintro r rfl
    conv => whnf
    refine loop_drop (fun n fr st => ∃ (i : Nat) (x : T) (ps : List SL), n + i = ls.length ∧ ps.length = i ∧ SlOk ps ∧ x.Small ∧ okT x = true ∧ res = (match backsGo x (ls.drop i) (ps.reverse.map (·.1)) with
          | some r => (r, true)
          | none => ([], false)) ∧ st = [poolO (slEnts ps), bxO x.cells 4] ++ slO ps ∧
        Holds fr [(2, .ptr 1 0 0), (6, slV ps 2), (14, .sl rows), (15, .int .i64 ls.length), (16, .int .i64 i)]) ls.length none
      ⟨0, _, [], rfl, rfl, fun p h => (by cases h), ht', hok', hst, rfl, rfl, rfl, rfl, by rw [← hlen]; rfl, rfl, trivial⟩ ?_
    rintro n fr st ⟨i, x, ps, hi, hal, hpo, x1, x2, x3, rfl, hh⟩
    obtain ⟨fr, rfl⟩ := hh.split
    clear hh
    have hpl := slRows_len ps
    by_cases hlt : i < ls.length
    · have hg := hget i hlt
      have hs := hls ls[i] (List.getElem_mem _)
      have hd := hD x (ps.reverse.map (·.1)) i hlt
      have f3 := implStepDo_pure x ls[i] x1 hs.1 hs.2.2
      have f4 := implStepBack_acc2 x ls[i] x1 hs.1 hs.2.2 (slEnts ps)
      have hsm := fun y => doT_small (y := y) x1 x2 hs
      have hw : V.int .i64 (IntKind.i64.wrap ((i : Int) + 1)) = .int .i64 ((i + 1 : Nat) : Int) := by rw [wrap64 (by omega) (by omega)]; simp
      have hyes : ∀ y, doT x ls[i] = some y → stepT x ls[i] = (y, true) ∧ backT x ls[i] = (backS x ls[i], true) := fun y h => by unfold stepT backT; rw [if_pos x2, if_pos x2, h]; exact ⟨rfl, rfl⟩
      have hno : doT x ls[i] = none → stepT x ls[i] = (x, false) ∧ backT x ls[i] = (SZ, false) := fun h => by unfold stepT backT; rw [if_pos x2, if_pos x2, h]; exact ⟨rfl, rfl⟩
      generalize backS x ls[i] = bk at *
      generalize ls[i] = s at *
      obtain ⟨sk, sid, sat, sn, stx⟩ := s
      cases sn with
      | mk ni nk nx nks =>
      cases hdo : doT x ⟨sk, sid, sat, .mk ni nk nx nks, stx⟩ with
      | none =>
        rw [(hno hdo).2] at f4
        rw [hdo] at hd
        rw [hd] at x3
        cases x with
        | mk xi xk xx xks =>
        rcases ps with _ | ⟨a0, ps⟩
        all_goals
          conv => whnf
          rw [ltB_t (by omega)]
          conv => whnf
          refine ⟨by omega, rows, _, 8, rfl, hg, rfl, rfl, ?_⟩
          conv => whnf
          refine .inr (.inl ⟨[0], true, ?_⟩)
          conv => whnf
          refine f4.mono ?_
          rintro o st' ⟨⟨l1, l2, l3, l4, l5⟩, q1, q2, rfl, rfl⟩
          rcases l4 with _ | ⟨l4, l6⟩
          all_goals
            conv => whnf
            refine ⟨[], true, ?_⟩
            conv => whnf
            rw [x3]
            exact .inl ⟨_, rfl, rfl, rfl⟩
      | some y =>
        rw [(hyes y hdo).1] at f3
        rw [(hyes y hdo).2] at f4
        rw [hdo] at hd
        rw [hd] at x3
        obtain ⟨y1, y2⟩ := hsm y hdo
        cases x with
        | mk xi xk xx xks =>
        cases y with
        | mk yi yk yx yks =>
        have fin : ∀ (l : LT), l.erase = bk.node → l.Wf → ∃ p0 : SL, slC p0 = stpC bk l ∧ SlOk (ps ++ [p0]) ∧ slEnts ps ++ l.ents = slEnts (ps ++ [p0]) ∧ (ps ++ [p0]).reverse.map (·.1) = bk :: ps.reverse.map (·.1) ∧ slRows (ps ++ [p0]) = slRows ps ++ [stpC bk l] := fun l h1 h2 => by
          refine ⟨(bk, l), rfl, fun p hp => ?_, ?_, by simp, by simp [slRows, slC]⟩
          · rcases List.mem_append.1 hp with hp | hp
            · exact hpo p hp
            · rw [List.mem_singleton.1 hp]; exact ⟨h1, h2⟩
          · simp only [slEnts, List.map_append, LT.entsL_append, List.map_cons, List.map_nil, LT.entsL, List.append_nil]
        obtain ⟨bk1, bk2, bk3, bk5, bk4⟩ := bk
        rcases ps with _ | ⟨a0, ps⟩
        all_goals
          conv => whnf
          rw [ltB_t (by omega)]
          conv => whnf
          refine ⟨by omega, rows, _, 8, rfl, hg, rfl, rfl, ?_⟩
          conv => whnf
          refine .inr (.inl ⟨[0], true, ?_⟩)
          conv => whnf
          refine f4.mono ?_
          rintro o st' ⟨l, q1, q2, rfl, rfl⟩
          obtain ⟨p0, p1, p2, p3, p4, p5⟩ := fin l q1 q2
          rw [p3]
          clear q1 q2 p3 p1
          obtain ⟨l1, l2, l3, l4, l5⟩ := l
          rcases l4 with _ | ⟨l4, l6⟩
          all_goals
            conv => whnf
            refine ⟨fun m hm => by rw [List.mem_singleton.1 hm]; rfl, ?_⟩
            conv => whnf
            first
              | (refine ⟨by show 1 * 104 ≤ _; omega, .inr ⟨(by intro e; cases e), ?_⟩⟩
                 conv => whnf
                 refine .inl (f3.mono ?_)
                 rintro r rfl
                 conv => whnf
                 refine ⟨n - 1, by omega, some [0, 1, 5], ?_⟩
                 conv => whnf
                 refine ⟨i + 1, .mk yi yk yx yks, [p0], by omega, by simp at hal ⊢; omega, p2, y1, y2, by
                   have p4 : [p0].reverse.map (·.1) = _ := p4
                   rw [p4]; exact x3, ?_, rfl, rfl, rfl, rfl, hw, trivial⟩
                 have p5 : slRows [p0] = _ := p5
                 show _ = [poolO (slEnts [p0]), bxO (T.mk yi yk yx yks).cells 4] ++ [ownS (slRows [p0])]
                 rw [p5]; rfl)
              | (refine ⟨by
                   show ((slRows (a0 :: ps)).length + 1) * 104 ≤ _
                   rw [hpl]; omega, ?_⟩
                 conv => whnf
                 refine .inl (f3.mono ?_)
                 rintro r rfl
                 conv => whnf
                 refine ⟨n - 1, by omega, some [0, 1, 6], ?_⟩
                 conv => whnf
                 refine ⟨i + 1, .mk yi yk yx yks, (a0 :: ps) ++ [p0], by omega, by rw [List.length_append, hal]; rfl, p2, y1, y2, ?_, ?_, rfl, rfl, rfl, rfl, hw, trivial⟩
                 · rw [p4]; exact x3
                 · show _ = [poolO (slEnts ((a0 :: ps) ++ [p0])), bxO (T.mk yi yk yx yks).cells 4] ++ [ownS (slRows ((a0 :: ps) ++ [p0]))]
                   rw [p5]; rfl)
    · have hil : i = ls.length := by omega
      subst hil
      rw [hE] at x3
      have hrv := slRows_rev ps
      rcases ps with _ | ⟨a0, ps⟩
      · cases x with
        | mk xi xk xx xks =>
        conv => whnf
        rw [ltB_f (by omega)]
        conv => whnf
        refine .inl (reverse_nil.mono ?_)
        rintro r rfl
        conv => whnf
        refine ⟨[], true, ?_⟩
        conv => whnf
        rw [x3]
        exact .inl ⟨_, rfl, rfl, rfl⟩
      · have hrev := reverse_sl (slRows (a0 :: ps)) (slRows_cells _) (by rw [hpl, hal]; omega)
        cases x with
        | mk xi xk xx xks =>
        conv => whnf
        rw [ltB_f (by omega)]
        conv => whnf
        refine ⟨[2], true, ?_⟩
        conv => whnf
        refine hrev.mono ?_
        rintro o st' ⟨rfl, rfl⟩
        conv => whnf
        refine ⟨[2], true, ?_⟩
        conv => whnf
        rw [x3]
        refine .inr ⟨a0 :: ps, by simp, rfl, hpo, rfl, ?_⟩
        rw [← hrv]; rfl
end Go.Cod

namespace Go.Cod
open Go Go.Proofs
set_option maxRecDepth 10000

def rootS (h : Option (Nat × Nat)) (ps : List SL) : List (List V) := match h with
  | none => []
  | some (b, c) => [ent b c 8 (slRows ps)]
theorem slEnts_app (a b : List SL) : slEnts (a ++ b) = slEnts a ++ slEnts b := by simp only [slEnts, List.map_append, LT.entsL_append]
theorem slEnts_one (p : SL) (ps : List SL) : slEnts (p :: ps) = p.2.ents ++ slEnts ps := rfl
theorem slEnts_rev : ∀ ps : List SL, (slEnts ps.reverse).Perm (slEnts ps)
  | [] => .refl _
  | p :: ps => by
    rw [List.reverse_cons, slEnts_app, slEnts_one p ps, slEnts_one p []]
    have h : slEnts ([] : List SL) = [] := rfl
    rw [h, List.append_nil]
    exact List.perm_append_comm.trans ((slEnts_rev ps).append_left _)
def NewLs (r : List Stp × Bool) (o : Out) (st' : St) : Prop := ∃ (h : Option (Nat × Nat)) (ps : List SL), ps.map (·.1) = r.1 ∧ SlOk ps ∧ (h = none → ps = []) ∧ ((slEnts ps ++ rootS h ps).map labOf).Nodup ∧ o = .ret (.tup [hdV h ps.length, .bool r.2]) ∧ st' = [poolO (slEnts ps ++ rootS h ps)]
def AccLs (r : List Stp × Bool) (o : Out) (st' : St) : Prop := ∃ (h : Option (Nat × Nat)) (ps : List SL) (es : List (List V)), ps.map (·.1) = r.1 ∧ SlOk ps ∧ (h = none → ps = []) ∧ (∀ e ∈ slEnts ps ++ rootS h ps, e ∈ es) ∧ ((slEnts ps ++ rootS h ps).map labOf).Nodup ∧ o = .ret (.tup [hdV h ps.length, .bool r.2]) ∧ st' = [poolO es]
theorem implStepsBack_acc1 (t : T) (ls : List Stp) (ht : t.Small) (hls : ∀ s ∈ ls, s.Sm) (hl : ls.length ≤ 1048576) : Full Try.prog noY 32 [.agg t.cells, .sl (prows ls)] [poolO []] (AccLs (backsT t ls)) := by
  have h := implStepsBack_acc t ls ht hls hl
  generalize backsT t ls = r at *
  by_cases hr : r.1 = []
  · refine h.mono ?_
    rintro o st' (⟨es, _, rfl, rfl⟩ | ⟨ps, h1, h2, _⟩)
    · exact ⟨none, [], es, by rw [hr]; rfl, fun p hp => (by cases hp), fun _ => rfl, fun e he => (by simp [slEnts, LT.entsL, rootS] at he), by simp [slEnts, LT.entsL, rootS], rfl, rfl⟩
    · rw [hr] at h2
      exact absurd (by simpa using h2) h1
  · have h2 : Full Try.prog noY 32 [.agg t.cells, .sl (prows ls)] [poolO []] fun o st' => ∃ (b c : Nat) (ps : List SL), ps.reverse.map (·.1) = r.1 ∧ SlOk ps ∧ o = .ret (.tup [.dref b ps.reverse.length c, .bool r.2]) ∧ st' = [poolO (slEnts ps ++ [ent b c 8 (slRows ps.reverse)])] := by
      refine Full.absorb h ?_
      rintro o st' (⟨es, h1, _⟩ | ⟨ps, h1, h2, h3, rfl, rfl⟩)
      · exact absurd h1 hr
      · refine ⟨.tup [.own 1, .bool r.2], [poolO (slEnts ps)], 0, slEnts ps, slRows ps.reverse, 8, rfl, rfl, rfl, Nat.le_refl _, by simp [poolO], fun b c => ⟨rfl, b, c, ps, h2, h3, ?_, rfl⟩⟩
        rw [slRows_len]; rfl
    refine h2.givenEnd.mono ?_
    rintro o st' ⟨⟨b, c, ps, h1, h2, rfl, rfl⟩, hl⟩
    have hn := hl.nodup (k := 0) rfl
    refine ⟨some (b, c), ps.reverse, _, h1, fun p hp => h2 p (List.mem_reverse.1 hp), fun e => (by cases e), fun e he => ?_, ?_, rfl, rfl⟩
    · rcases List.mem_append.1 he with he | he
      · exact List.mem_append_left _ ((slEnts_rev ps).mem_iff.1 he)
      · exact List.mem_append_right _ he
    · exact (((slEnts_rev ps).append_right _).map labOf).nodup_iff.2 hn
theorem implStepsBack_new (t : T) (ls : List Stp) (ht : t.Small) (hls : ∀ s ∈ ls, s.Sm) (hl : ls.length ≤ 1048576) : Full Try.prog noY 32 [.agg t.cells, .sl (prows ls)] [] (NewLs (backsT t ls)) := by
  refine Full.start (Full.shrink (implStepsBack_acc1 t ls ht hls hl) ?_)
  rintro o st' ⟨h, ps, es, h1, h2, h3, h4, h5, rfl, rfl⟩
  exact ⟨es, _, rfl, h4, h5, h, ps, h1, h2, h3, h5, rfl, rfl⟩
theorem slC_flat (p : SL) : ∀ x ∈ slC p, x.flat = true := by
  obtain ⟨⟨a, b, c, d, e⟩, ⟨f, g, h, i, j⟩⟩ := p
  intro x hx
  rcases i with _ | ⟨i, k⟩
  all_goals
    simp only [slC, stpC, LT.cells, hdV, List.mem_append, List.mem_cons, List.not_mem_nil, or_false] at hx
    rcases hx with ((rfl | rfl | rfl) | (rfl | rfl | rfl | rfl)) | rfl <;> rfl
theorem slPool_flat (h : Option (Nat × Nat)) (ps : List SL) : FlatO (poolO (slEnts ps ++ rootS h ps)) := by
  refine ⟨rfl, .inr ⟨rfl, rfl, fun e he r hr x hx => ?_⟩⟩
  rcases List.mem_append.1 he with he | he
  · exact LT.flatL _ e he r hr x hx
  · rcases h with _ | ⟨b, c⟩
    · cases he
    · have he : e = ent b c 8 (slRows ps) := List.mem_singleton.1 he
      subst he
      obtain ⟨p, rfl⟩ := slRows_cells ps r hr
      exact slC_flat p x hx
theorem implStepsBack_lent (t : T) (ss : List Stp) (ht : t.Small) (hls : ∀ s ∈ ss, s.Sm) (hl : ss.length ≤ 1048576) (lx : LT) (ps : List SL) (b c : Nat) (hx : lx.erase = t) (hxw : lx.Wf) (hps : ps.map (·.1) = ss) (hpo : SlOk ps)
    (es1 es2 : List (List V)) (h1 : ∀ e ∈ lx.ents, e ∈ es1) (h2 : ∀ e ∈ slEnts ps ++ [ent b c 8 (slRows ps)], e ∈ es2) :
    Full Try.prog noY 32 [.agg lx.cells, .dref b ps.length c] [poolO es1, poolO es2] fun o st' => ∃ st1, NewLs (backsT t ss) o st1 ∧ st' = poolO es1 :: poolO es2 :: st1 := by
  have hc : V.clean.cleanL 0 [V.agg lx.cells, .dref b ps.length c] = true := by simp only [V.clean.cleanL, cleanA lx]; rfl
  have hv1 := lx.viewA hxw (es := [es1, es2].flatten) (fun e he => by simp [h1 e he])
  rw [hx] at hv1
  have hv2 := sl_view ps b c hpo (es := [es1, es2].flatten) (fun e he => by simp [h2 e he])
  rw [hps] at hv2
  refine (Full.lent (ps := [es1, es2]) (implStepsBack_new t ss ht hls hl) (viewL2 hv1 hv2) hc ?_).mono ?_
  · rintro o st1 ⟨h, qs, q1, q2, q3, q4, rfl, rfl⟩
    refine ⟨_, rfl, ?_, fun p hp => by simp at hp; subst hp; exact slPool_flat h qs⟩
    rcases h with _ | ⟨b, c⟩ <;> rfl
  · rintro o st' ⟨v, st1, ⟨h, qs, q1, q2, q3, q4, hv, rfl⟩, rfl, rfl⟩
    cases hv
    refine ⟨_, ⟨h, qs, q1, q2, q3, q4, ?_, rfl⟩, rfl⟩
    rcases h with _ | ⟨b, c⟩ <;> rfl
end Go.Cod

namespace Go.Cod
open Go Go.Proofs
set_option maxRecDepth 10000

/- Steps that bear marks. -/
def sN (s : Stp) : Nat := 7 + 3 * T.sizeL s.node.kids
def sM (s : Stp) (k : Int) : Stp := ⟨k, k + 1, k + 2, .mk (k + 3) (mt (k + 4)) (mt (k + 5)) (T.markedL s.node.kids (k + 6)), mt (k + 6 + 3 * (T.sizeL s.node.kids : Int))⟩
def sMs : List Stp → Int → List Stp
  | [], _ => []
  | s :: ss, k => sM s k :: sMs ss (k + sN s)
def sS : List Stp → Nat
  | [] => 0
  | s :: ss => sN s + sS ss
def lM (k : Int) : LT → LT
  | .mk _ _ _ h kids => .mk (k + 3) (mt (k + 4)) (mt (k + 5)) h (LT.markedL kids (k + 6))
def slM (p : SL) (k : Int) : SL := (sM p.1 k, lM k p.2)
def slMs : List SL → Int → List SL
  | [], _ => []
  | p :: ps, k => slM p k :: slMs ps (k + mkN p)
theorem mkS_append (a b : List SL) : mkS (a ++ b) = mkS a + mkS b := by
  induction a with
  | nil => simp [mkS]
  | cons p ps ih => simp [mkS, ih]; omega
theorem mkS_take (ps : List SL) (i : Nat) (h : i < ps.length) : mkS (ps.take (i + 1)) = mkS (ps.take i) + mkN ps[i] := by
  rw [List.take_succ_eq_append_getElem h, mkS_append]; rfl
theorem mkS_le' (ps : List SL) (i : Nat) : mkS (ps.take i) ≤ mkS ps := by
  conv => rhs; rw [← List.take_append_drop i ps, mkS_append]
  omega
theorem slMs_len : ∀ (ps : List SL) (k : Int), (slMs ps k).length = ps.length
  | [], _ => rfl
  | p :: ps, k => by simp [slMs, slMs_len ps]
theorem slMs_append : ∀ (a b : List SL) (k : Int), slMs (a ++ b) k = slMs a k ++ slMs b (k + mkS a)
  | [], b, k => by simp [slMs, mkS]
  | p :: a, b, k => by
    simp only [List.cons_append, slMs, slMs_append a b, mkS]
    congr 3
    push_cast; omega
theorem slMs_take (ps : List SL) (i : Nat) (h : i < ps.length) (k : Int) : slMs (ps.take (i + 1)) k = slMs (ps.take i) k ++ [slM ps[i] (k + mkS (ps.take i))] := by
  rw [List.take_succ_eq_append_getElem h, slMs_append]; rfl
def mixS (ps : List SL) (k : Int) (i : Nat) : List SL := slMs (ps.take i) k ++ ps.drop i
theorem mixS_get (ps : List SL) (k : Int) (i : Nat) (h : i < ps.length) : (slRows (mixS ps k i))[i]? = some (slC ps[i]) := by
  unfold slRows mixS
  rw [List.map_append, List.getElem?_append_right (by simp [slMs_len]; omega)]
  simp [slMs_len, Nat.min_eq_left (Nat.le_of_lt h), h]
theorem mixS_set (ps : List SL) (k : Int) (i : Nat) (h : i < ps.length) : (slRows (mixS ps k i)).set i (slC (slM ps[i] (k + mkS (ps.take i)))) = slRows (mixS ps k (i + 1)) := by
  unfold slRows mixS
  have hl : ((slMs (ps.take i) k).map slC).length = i := by simp [slMs_len]; omega
  rw [List.map_append, List.set_append_right _ _ (by omega), hl, Nat.sub_self, List.drop_eq_getElem_cons h, List.map_cons, List.set_cons_zero, slMs_take ps i h k]
  simp
theorem lM_labs (l : LT) (k : Int) : (lM k l).ents.map labOf = l.ents.map labOf := by
  cases l with
  | mk a b c d e =>
  rw [LT.labs_ents, LT.labs_ents]
  simp only [lM, LT.labs, LT.labsL_marked]
theorem slMs_labs : ∀ (ps : List SL) (k : Int), (slEnts (slMs ps k)).map labOf = (slEnts ps).map labOf
  | [], _ => rfl
  | p :: ps, k => by
    show (slEnts (slM p k :: slMs ps (k + mkN p))).map labOf = _
    rw [slEnts_one, slEnts_one, List.map_append, List.map_append, slMs_labs ps]
    show ((lM k p.2).ents.map labOf) ++ _ = _
    rw [lM_labs]
theorem sl_size {p : SL} (h : p.2.erase = p.1.node) : T.sizeL p.1.node.kids = LT.sizeL p.2.kids := by rw [← h, LT.kids_size]
theorem slM_ok {p : SL} (h : p.2.erase = p.1.node ∧ p.2.Wf) (k : Int) : (slM p k).2.erase = (slM p k).1.node ∧ (slM p k).2.Wf := by
  obtain ⟨⟨s1, s2, s3, sn, s4⟩, ⟨a, b, c, d, e⟩⟩ := p
  obtain ⟨h1, h2⟩ := h
  have h1 : LT.erase (.mk a b c d e) = sn := h1
  subst h1
  simp only [LT.Wf] at h2
  refine ⟨?_, ?_⟩
  · simp only [slM, sM, lM, LT.erase, T.kids, LT.eraseL_marked]
  · simp only [slM, lM, LT.Wf]
    exact ⟨fun e => by rw [h2.1 e]; rfl, LT.wfL_marked _ _ h2.2⟩
theorem slMs_ok : ∀ (ps : List SL) (k : Int), SlOk ps → SlOk (slMs ps k)
  | [], _, _ => fun p hp => by cases hp
  | p :: ps, k, h => fun q hq => by
    rcases List.mem_cons.1 hq with rfl | hq
    · exact slM_ok (h p (by simp)) k
    · exact slMs_ok ps _ (fun u hu => h u (List.mem_cons_of_mem _ hu)) q hq
theorem mkN_eq {p : SL} (h : p.2.erase = p.1.node) : mkN p = sN p.1 := by unfold mkN sN; rw [sl_size h]
theorem slMs_fst : ∀ (ps : List SL) (k : Int), SlOk ps → (slMs ps k).map (·.1) = sMs (ps.map (·.1)) k
  | [], _, _ => rfl
  | p :: ps, k, h => by
    simp only [slMs, List.map_cons, sMs, slMs_fst ps _ (fun u hu => h u (List.mem_cons_of_mem _ hu)), mkN_eq (h p (by simp)).1]
    rfl
theorem mkS_eq : ∀ ps : List SL, SlOk ps → mkS ps = sS (ps.map (·.1))
  | [], _ => rfl
  | p :: ps, h => by simp only [mkS, List.map_cons, sS, mkS_eq ps (fun u hu => h u (List.mem_cons_of_mem _ hu)), mkN_eq (h p (by simp)).1]
set_option maxHeartbeats 16000000 in
theorem markSteps_view (ps : List SL) (hpl : ps.length ≤ 1048576) (b c : Nat) (k : Int) (es : List (List V)) (h0 : 0 ≤ k) (h1 : k + mkS ps ≤ 1152921504606846976) (hok : SlOk ps) (hin : ∀ e ∈ slEnts ps ++ [ent b c 8 (slRows ps)], e ∈ es)
    (hn : ((slEnts ps ++ [ent b c 8 (slRows ps)]).map labOf).Nodup) :
    Full Try.prog noY 22 [.dref b ps.length c, .int .i64 k] [poolO es] fun o st' => ∃ es' : List (List V), o = .ret (.int .i64 (k + mkS ps)) ∧ st' = [poolO es'] ∧ View es' (.dref b ps.length c) (.sl (prows (sMs (ps.map (·.1)) k))) := by
  have hroot : ent b c 8 (slRows ps) ∈ es := hin _ (by simp)
  have hbn : b ∉ (slEnts ps).map labOf := by
    rw [List.map_append, List.nodup_append] at hn
    intro hm
    exact hn.2.2 b hm b (by simp [ent, labOf]) rfl
  have hndL : ((slEnts ps).map labOf).Nodup := by
    rw [List.map_append, List.nodup_append] at hn; exact hn.1
  refine full_of_awp good Try.func22 rfl (by kernel_rfl) (by decide) ?_
  conv => whnf
  refine loop_drop (fun n fr st => ∃ (i : Nat) (es0 : List (List V)), n + i = ps.length ∧ st = [poolO es0] ∧ Holds fr [(0, .dref b ps.length c), (1, .int .i64 (k + mkS (ps.take i))), (5, .int .i64 i)] ∧
      ent b c 8 (slRows (mixS ps k i)) ∈ es0 ∧ (∀ e ∈ slEnts (slMs (ps.take i) k), e ∈ es0) ∧ (∀ e ∈ slEnts (ps.drop i), e ∈ es0)) ps.length none
    ⟨0, es, by omega, rfl, ⟨rfl, by simp [mkS]; rfl, rfl, trivial⟩, by simpa [mixS, slMs] using hroot, fun e he => (by simp [slMs, slEnts, LT.entsL] at he), fun e he => hin e (List.mem_append_left _ he)⟩ ?_
  rintro n fr st ⟨i, es0, hi, rfl, hh, hA, hD, hB⟩
  obtain ⟨fr, rfl⟩ := hh.split
  clear hh
  conv => whnf
  by_cases hlt : i < ps.length
  · rw [ltB_t (by omega)]
    conv => whnf
    have hg := mixS_get ps k i hlt
    have hmset := mixS_set ps k i hlt
    have hmt := mkS_take ps i hlt
    have hmle := mkS_le' ps (i + 1)
    have hw := hok ps[i] (List.getElem_mem _)
    have hM := markTreeS_full ps[i].2
    have hed := slEnts_drop ps i hlt
    have hnd2 := hndL
    rw [slEnts_split ps i, List.map_append, List.nodup_append, hed, List.map_append, List.nodup_append] at hnd2
    have hbi : b ∉ ps[i].2.ents.map labOf := fun hm => hbn (by
      rw [slEnts_split ps i, hed, List.map_append, List.map_append]
      exact List.mem_append_right _ (List.mem_append_left _ hm))
    have hin : ∀ e ∈ ps[i].2.ents, e ∈ es0 := fun e he => hB e (by rw [hed]; exact List.mem_append_left _ he)
    have hrest : ∀ e ∈ slEnts (ps.drop (i + 1)), e ∈ es0 ∧ labOf e ≠ b ∧ labOf e ∉ ps[i].2.ents.map labOf := fun e he => by
      refine ⟨hB e (by rw [hed]; exact List.mem_append_right _ he), fun hh => hbn ?_, fun hh => ?_⟩
      · rw [← hh, slEnts_split ps i, hed, List.map_append, List.map_append]
        exact List.mem_append_right _ (List.mem_append_right _ (List.mem_map_of_mem he))
      · exact hnd2.2.1.2.2 _ hh _ (List.mem_map_of_mem he) rfl
    have hdone : ∀ e ∈ slEnts (slMs (ps.take i) k), e ∈ es0 ∧ labOf e ≠ b ∧ labOf e ∉ ps[i].2.ents.map labOf := fun e he => by
      have hl : labOf e ∈ (slEnts (ps.take i)).map labOf := by rw [← slMs_labs _ k]; exact List.mem_map_of_mem he
      refine ⟨hD e he, fun hh => hbn ?_, fun hh => ?_⟩
      · rw [← hh, slEnts_split ps i, List.map_append]
        exact List.mem_append_left _ hl
      · exact hnd2.2.2 _ hl _ (List.mem_append_left _ hh) rfl
    have hndi := hnd2.2.1.1
    have hment : slEnts (slMs (ps.take (i + 1)) k) = slEnts (slMs (ps.take i) k) ++ (lM (k + mkS (ps.take i)) ps[i].2).ents := by
      rw [slMs_take ps i hlt, slEnts_app, slEnts_one]
      have h : slEnts ([] : List SL) = [] := rfl
      rw [h, List.append_nil]; rfl
    clear hnd2 hed hB hD
    have hnN : mkN ps[i] = 7 + 3 * LT.sizeL ps[i].2.kids := rfl
    have hsz := sl_size hw.1
    have hE : ∀ e ∈ es0, labOf e ≠ b → e ∈ es0 := fun e he _ => he
    have hwi : V.int .i64 (IntKind.i64.wrap ((i : Int) + 1)) = .int .i64 ((i + 1 : Nat) : Int) := by rw [wrap64 (by omega) (by omega)]; simp
    obtain ⟨kk, hkk⟩ : ∃ kk : Int, kk = k + mkS (ps.take i) := ⟨_, rfl⟩
    rw [← hkk] at hmset hment ⊢
    have hk0 : 0 ≤ kk := by omega
    have hk1 : kk + mkN ps[i] ≤ 1152921504606846976 := by omega
    obtain ⟨R0, hR0⟩ : ∃ R, R = slRows (mixS ps k i) := ⟨_, rfl⟩
    rw [← hR0] at hA hg hmset
    generalize ps[i] = p at *
    obtain ⟨⟨sk, si, sa, sn, sx⟩, ⟨li, lk, lx, lh, lks⟩⟩ := p
    have hwf := hw.2
    simp only [LT.Wf] at hwf
    simp only [LT.ents] at hin hndi hbi hrest hdone
    simp only [LT.kids] at hnN hsz
    have hlab : (LT.entsL (LT.markedL lks (kk + 6)) ++ rootE lh (LT.markedL lks (kk + 6))).map labOf = (LT.entsL lks ++ rootE lh lks).map labOf := lM_labs (.mk li lk lx lh lks) kk
    have hrow : ∀ km : Int, km = kk + 6 + 3 * (LT.sizeL lks : Int) → slC (slM (⟨sk, si, sa, sn, sx⟩, .mk li lk lx lh lks) kk) = [.int .i64 (kk), .int .i64 (kk + 1), .int .i64 (kk + 2), .int .i64 (kk + 3), .str (mt (kk + 4)), .str (mt (kk + 5)), hdV lh lks.length, .str (mt (km))] := fun km e => by
      simp only [slC, slM, sM, lM, stpC, LT.cells, LT.markedL_len, hsz, e]
      rfl
    have hg : R0[i]? = some [.int .i64 sk, .int .i64 si, .int .i64 sa, .int .i64 li, .str lk, .str lx, hdV lh lks.length, .str sx] := hg
    have w1 : IntKind.i64.wrap (kk + 1) = kk + 1 := wrap64 (by omega) (by omega)
    have w2 : IntKind.i64.wrap (kk + 1 + 1) = kk + 2 := by rw [wrap64 (by omega) (by omega)]; omega
    have w3 : IntKind.i64.wrap (kk + 2 + 1) = kk + 3 := by rw [wrap64 (by omega) (by omega)]; omega
    have w4 : IntKind.i64.wrap (kk + 3 + 1) = kk + 4 := by rw [wrap64 (by omega) (by omega)]; omega
    have w5 : IntKind.i64.wrap (kk + 4 + 1) = kk + 5 := by rw [wrap64 (by omega) (by omega)]; omega
    have w6 : IntKind.i64.wrap (kk + 5 + 1) = kk + 6 := by rw [wrap64 (by omega) (by omega)]; omega
    rcases lh with _ | ⟨lb, lc⟩
    · refine ⟨by omega, by omega, ?_⟩
      conv => whnf
      obtain ⟨es1, h1⟩ : ∃ x, x = putEnt b (R0.set i [.int .i64 (kk), .int .i64 si, .int .i64 sa, .int .i64 li, .str lk, .str lx, hdV none lks.length, .str sx]) es0 := ⟨_, rfl⟩
      refine ⟨0, c, _, [.int .i64 sk, .int .i64 si, .int .i64 sa, .int .i64 li, .str lk, .str lx, hdV none lks.length, .str sx], es1, hA, hg, h1, ?_⟩
      have hA1 : ent b c 8 (R0.set i [.int .i64 (kk), .int .i64 si, .int .i64 sa, .int .i64 li, .str lk, .str lx, hdV none lks.length, .str sx]) ∈ es1 := h1 ▸ putEnt_mem hA
      have hE1 : ∀ e ∈ es0, labOf e ≠ b → e ∈ es1 := fun e he hb => h1 ▸ putEnt_other (hE e he hb) hb
      have hg1 := set_get hg [.int .i64 (kk), .int .i64 si, .int .i64 sa, .int .i64 li, .str lk, .str lx, hdV none lks.length, .str sx]
      clear h1
      obtain ⟨R1, hR1⟩ : ∃ R, R = R0.set i [.int .i64 (kk), .int .i64 si, .int .i64 sa, .int .i64 li, .str lk, .str lx, hdV none lks.length, .str sx] := ⟨_, rfl⟩
      rw [← hR1] at hA1 hg1
      conv => whnf
      rw [w1]
      refine ⟨by omega, by omega, ?_⟩
      conv => whnf
      obtain ⟨es2, h2⟩ : ∃ x, x = putEnt b (R1.set i [.int .i64 (kk), .int .i64 (kk + 1), .int .i64 sa, .int .i64 li, .str lk, .str lx, hdV none lks.length, .str sx]) es1 := ⟨_, rfl⟩
      refine ⟨0, c, _, [.int .i64 (kk), .int .i64 si, .int .i64 sa, .int .i64 li, .str lk, .str lx, hdV none lks.length, .str sx], es2, hA1, hg1, h2, ?_⟩
      have hA2 : ent b c 8 (R1.set i [.int .i64 (kk), .int .i64 (kk + 1), .int .i64 sa, .int .i64 li, .str lk, .str lx, hdV none lks.length, .str sx]) ∈ es2 := h2 ▸ putEnt_mem hA1
      have hE2 : ∀ e ∈ es0, labOf e ≠ b → e ∈ es2 := fun e he hb => h2 ▸ putEnt_other (hE1 e he hb) hb
      have hg2 := set_get hg1 [.int .i64 (kk), .int .i64 (kk + 1), .int .i64 sa, .int .i64 li, .str lk, .str lx, hdV none lks.length, .str sx]
      clear h2
      obtain ⟨R2, hR2⟩ : ∃ R, R = R1.set i [.int .i64 (kk), .int .i64 (kk + 1), .int .i64 sa, .int .i64 li, .str lk, .str lx, hdV none lks.length, .str sx] := ⟨_, rfl⟩
      rw [← hR2] at hA2 hg2
      conv => whnf
      rw [w2]
      refine ⟨by omega, by omega, ?_⟩
      conv => whnf
      obtain ⟨es3, h3⟩ : ∃ x, x = putEnt b (R2.set i [.int .i64 (kk), .int .i64 (kk + 1), .int .i64 (kk + 2), .int .i64 li, .str lk, .str lx, hdV none lks.length, .str sx]) es2 := ⟨_, rfl⟩
      refine ⟨0, c, _, [.int .i64 (kk), .int .i64 (kk + 1), .int .i64 sa, .int .i64 li, .str lk, .str lx, hdV none lks.length, .str sx], es3, hA2, hg2, h3, ?_⟩
      have hA3 : ent b c 8 (R2.set i [.int .i64 (kk), .int .i64 (kk + 1), .int .i64 (kk + 2), .int .i64 li, .str lk, .str lx, hdV none lks.length, .str sx]) ∈ es3 := h3 ▸ putEnt_mem hA2
      have hE3 : ∀ e ∈ es0, labOf e ≠ b → e ∈ es3 := fun e he hb => h3 ▸ putEnt_other (hE2 e he hb) hb
      have hg3 := set_get hg2 [.int .i64 (kk), .int .i64 (kk + 1), .int .i64 (kk + 2), .int .i64 li, .str lk, .str lx, hdV none lks.length, .str sx]
      clear h3
      obtain ⟨R3, hR3⟩ : ∃ R, R = R2.set i [.int .i64 (kk), .int .i64 (kk + 1), .int .i64 (kk + 2), .int .i64 li, .str lk, .str lx, hdV none lks.length, .str sx] := ⟨_, rfl⟩
      rw [← hR3] at hA3 hg3
      conv => whnf
      rw [w3]
      refine ⟨by omega, by omega, ?_⟩
      conv => whnf
      obtain ⟨es4, h4⟩ : ∃ x, x = putEnt b (R3.set i [.int .i64 (kk), .int .i64 (kk + 1), .int .i64 (kk + 2), .int .i64 (kk + 3), .str lk, .str lx, hdV none lks.length, .str sx]) es3 := ⟨_, rfl⟩
      refine ⟨0, c, _, [.int .i64 (kk), .int .i64 (kk + 1), .int .i64 (kk + 2), .int .i64 li, .str lk, .str lx, hdV none lks.length, .str sx], es4, hA3, hg3, h4, ?_⟩
      have hA4 : ent b c 8 (R3.set i [.int .i64 (kk), .int .i64 (kk + 1), .int .i64 (kk + 2), .int .i64 (kk + 3), .str lk, .str lx, hdV none lks.length, .str sx]) ∈ es4 := h4 ▸ putEnt_mem hA3
      have hE4 : ∀ e ∈ es0, labOf e ≠ b → e ∈ es4 := fun e he hb => h4 ▸ putEnt_other (hE3 e he hb) hb
      have hg4 := set_get hg3 [.int .i64 (kk), .int .i64 (kk + 1), .int .i64 (kk + 2), .int .i64 (kk + 3), .str lk, .str lx, hdV none lks.length, .str sx]
      clear h4
      obtain ⟨R4, hR4⟩ : ∃ R, R = R3.set i [.int .i64 (kk), .int .i64 (kk + 1), .int .i64 (kk + 2), .int .i64 (kk + 3), .str lk, .str lx, hdV none lks.length, .str sx] := ⟨_, rfl⟩
      rw [← hR4] at hA4 hg4
      conv => whnf
      rw [w4]
      refine .inl ((markText_pure (kk + 4) (by omega)).mono ?_)
      rintro r rfl
      conv => whnf
      refine ⟨by omega, by omega, ?_⟩
      conv => whnf
      obtain ⟨es5, h5⟩ : ∃ x, x = putEnt b (R4.set i [.int .i64 (kk), .int .i64 (kk + 1), .int .i64 (kk + 2), .int .i64 (kk + 3), .str (mt (kk + 4)), .str lx, hdV none lks.length, .str sx]) es4 := ⟨_, rfl⟩
      refine ⟨0, c, _, [.int .i64 (kk), .int .i64 (kk + 1), .int .i64 (kk + 2), .int .i64 (kk + 3), .str lk, .str lx, hdV none lks.length, .str sx], es5, hA4, hg4, h5, ?_⟩
      have hA5 : ent b c 8 (R4.set i [.int .i64 (kk), .int .i64 (kk + 1), .int .i64 (kk + 2), .int .i64 (kk + 3), .str (mt (kk + 4)), .str lx, hdV none lks.length, .str sx]) ∈ es5 := h5 ▸ putEnt_mem hA4
      have hE5 : ∀ e ∈ es0, labOf e ≠ b → e ∈ es5 := fun e he hb => h5 ▸ putEnt_other (hE4 e he hb) hb
      have hg5 := set_get hg4 [.int .i64 (kk), .int .i64 (kk + 1), .int .i64 (kk + 2), .int .i64 (kk + 3), .str (mt (kk + 4)), .str lx, hdV none lks.length, .str sx]
      clear h5
      obtain ⟨R5, hR5⟩ : ∃ R, R = R4.set i [.int .i64 (kk), .int .i64 (kk + 1), .int .i64 (kk + 2), .int .i64 (kk + 3), .str (mt (kk + 4)), .str lx, hdV none lks.length, .str sx] := ⟨_, rfl⟩
      rw [← hR5] at hA5 hg5
      conv => whnf
      rw [w5]
      refine .inl ((markText_pure (kk + 5) (by omega)).mono ?_)
      rintro r rfl
      conv => whnf
      refine ⟨by omega, by omega, ?_⟩
      conv => whnf
      obtain ⟨es6, h6⟩ : ∃ x, x = putEnt b (R5.set i [.int .i64 (kk), .int .i64 (kk + 1), .int .i64 (kk + 2), .int .i64 (kk + 3), .str (mt (kk + 4)), .str (mt (kk + 5)), hdV none lks.length, .str sx]) es5 := ⟨_, rfl⟩
      refine ⟨0, c, _, [.int .i64 (kk), .int .i64 (kk + 1), .int .i64 (kk + 2), .int .i64 (kk + 3), .str (mt (kk + 4)), .str lx, hdV none lks.length, .str sx], es6, hA5, hg5, h6, ?_⟩
      have hA6 : ent b c 8 (R5.set i [.int .i64 (kk), .int .i64 (kk + 1), .int .i64 (kk + 2), .int .i64 (kk + 3), .str (mt (kk + 4)), .str (mt (kk + 5)), hdV none lks.length, .str sx]) ∈ es6 := h6 ▸ putEnt_mem hA5
      have hE6 : ∀ e ∈ es0, labOf e ≠ b → e ∈ es6 := fun e he hb => h6 ▸ putEnt_other (hE5 e he hb) hb
      have hg6 := set_get hg5 [.int .i64 (kk), .int .i64 (kk + 1), .int .i64 (kk + 2), .int .i64 (kk + 3), .str (mt (kk + 4)), .str (mt (kk + 5)), hdV none lks.length, .str sx]
      clear h6
      obtain ⟨R6, hR6⟩ : ∃ R, R = R5.set i [.int .i64 (kk), .int .i64 (kk + 1), .int .i64 (kk + 2), .int .i64 (kk + 3), .str (mt (kk + 4)), .str (mt (kk + 5)), hdV none lks.length, .str sx] := ⟨_, rfl⟩
      rw [← hR6] at hA6 hg6
      conv => whnf
      rw [w6]
      refine ⟨by omega, by omega, ?_⟩
      conv => whnf
      refine ⟨0, c, _, [.int .i64 (kk), .int .i64 (kk + 1), .int .i64 (kk + 2), .int .i64 (kk + 3), .str (mt (kk + 4)), .str (mt (kk + 5)), hdV none lks.length, .str sx], hA6, hg6, ?_⟩
      conv => whnf
      refine .inr (.inl ⟨[0], false, ?_⟩)
      conv => whnf
      refine (hM (kk + 6) es6 (by omega) (by omega) hwf.1 hwf.2 (fun e he => hE6 e (hin e he) fun hh => hbi (hh ▸ List.mem_map_of_mem he)) hndi).mono ?_
      rintro o st' ⟨esm, rfl, rfl, hm1, hm2⟩
      obtain ⟨km, hkm⟩ : ∃ km : Int, km = kk + 6 + 3 * (LT.sizeL lks : Int) := ⟨_, rfl⟩
      rw [← hkm]
      have hAm := hm2 _ hA6 (by simpa [labOf, ent] using hbi)
      have hEm : ∀ e ∈ es0, labOf e ≠ b → labOf e ∉ (LT.entsL lks ++ rootE none lks).map labOf → e ∈ esm := fun e he h1 h2 => hm2 e (hE6 e he h1) h2
      conv => whnf
      refine .inl ((markText_pure (km) (by omega)).mono ?_)
      rintro r rfl
      conv => whnf
      refine ⟨by omega, by omega, ?_⟩
      conv => whnf
      obtain ⟨es7, h7⟩ : ∃ x, x = putEnt b (R6.set i [.int .i64 (kk), .int .i64 (kk + 1), .int .i64 (kk + 2), .int .i64 (kk + 3), .str (mt (kk + 4)), .str (mt (kk + 5)), hdV none lks.length, .str (mt (km))]) esm := ⟨_, rfl⟩
      refine ⟨0, c, _, [.int .i64 (kk), .int .i64 (kk + 1), .int .i64 (kk + 2), .int .i64 (kk + 3), .str (mt (kk + 4)), .str (mt (kk + 5)), hdV none lks.length, .str sx], es7, hAm, hg6, h7, ?_⟩
      have hA7 : ent b c 8 (R6.set i [.int .i64 (kk), .int .i64 (kk + 1), .int .i64 (kk + 2), .int .i64 (kk + 3), .str (mt (kk + 4)), .str (mt (kk + 5)), hdV none lks.length, .str (mt (km))]) ∈ es7 := h7 ▸ putEnt_mem hAm
      have hE7 : ∀ e ∈ es0, labOf e ≠ b → labOf e ∉ (LT.entsL lks ++ rootE none lks).map labOf → e ∈ es7 := fun e he hb h2 => h7 ▸ putEnt_other (hEm e he hb h2) hb
      have hF7 : ∀ e ∈ esm, labOf e ≠ b → e ∈ es7 := fun e he hb => h7 ▸ putEnt_other he hb
      have hg7 := set_get hg6 [.int .i64 (kk), .int .i64 (kk + 1), .int .i64 (kk + 2), .int .i64 (kk + 3), .str (mt (kk + 4)), .str (mt (kk + 5)), hdV none lks.length, .str (mt (km))]
      clear h7
      obtain ⟨R7, hR7⟩ : ∃ R, R = R6.set i [.int .i64 (kk), .int .i64 (kk + 1), .int .i64 (kk + 2), .int .i64 (kk + 3), .str (mt (kk + 4)), .str (mt (kk + 5)), hdV none lks.length, .str (mt (km))] := ⟨_, rfl⟩
      rw [← hR7] at hA7 hg7
      conv => whnf
      rw [show IntKind.i64.wrap (km + 1) = km + 1 from wrap64 (by omega) (by omega)]
      have hR : R7 = R0.set i [.int .i64 (kk), .int .i64 (kk + 1), .int .i64 (kk + 2), .int .i64 (kk + 3), .str (mt (kk + 4)), .str (mt (kk + 5)), hdV none lks.length, .str (mt (km))] := by
        rw [hR7, hR6, hR5, hR4, hR3, hR2, hR1]; simp only [List.set_set]
      rw [hR, ← hrow km hkm, hmset] at hA7
      refine ⟨n - 1, by omega, none, i + 1, es7, by omega, rfl, ⟨rfl, ?_, hwi, trivial⟩, hA7, fun e he => ?_, fun e he => ?_⟩
      · show V.int .i64 _ = V.int .i64 _
        congr 1
        rw [hmt]; push_cast; omega
      · rw [hment] at he
        rcases List.mem_append.1 he with he | he
        · obtain ⟨q1, q2, q3⟩ := hdone e he
          exact hE7 e q1 q2 q3
        · have he : e ∈ LT.entsL (LT.markedL lks (kk + 6)) ++ rootE none (LT.markedL lks (kk + 6)) := he
          refine hF7 e (hm1 e he) fun hh => hbi ?_
          rw [← hlab, ← hh]
          exact List.mem_map_of_mem he
      · obtain ⟨q1, q2, q3⟩ := hrest e he
        exact hE7 e q1 q2 q3
    · refine ⟨by omega, by omega, ?_⟩
      conv => whnf
      obtain ⟨es1, h1⟩ : ∃ x, x = putEnt b (R0.set i [.int .i64 (kk), .int .i64 si, .int .i64 sa, .int .i64 li, .str lk, .str lx, hdV (some (lb, lc)) lks.length, .str sx]) es0 := ⟨_, rfl⟩
      refine ⟨0, c, _, [.int .i64 sk, .int .i64 si, .int .i64 sa, .int .i64 li, .str lk, .str lx, hdV (some (lb, lc)) lks.length, .str sx], es1, hA, hg, h1, ?_⟩
      have hA1 : ent b c 8 (R0.set i [.int .i64 (kk), .int .i64 si, .int .i64 sa, .int .i64 li, .str lk, .str lx, hdV (some (lb, lc)) lks.length, .str sx]) ∈ es1 := h1 ▸ putEnt_mem hA
      have hE1 : ∀ e ∈ es0, labOf e ≠ b → e ∈ es1 := fun e he hb => h1 ▸ putEnt_other (hE e he hb) hb
      have hg1 := set_get hg [.int .i64 (kk), .int .i64 si, .int .i64 sa, .int .i64 li, .str lk, .str lx, hdV (some (lb, lc)) lks.length, .str sx]
      clear h1
      obtain ⟨R1, hR1⟩ : ∃ R, R = R0.set i [.int .i64 (kk), .int .i64 si, .int .i64 sa, .int .i64 li, .str lk, .str lx, hdV (some (lb, lc)) lks.length, .str sx] := ⟨_, rfl⟩
      rw [← hR1] at hA1 hg1
      conv => whnf
      rw [w1]
      refine ⟨by omega, by omega, ?_⟩
      conv => whnf
      obtain ⟨es2, h2⟩ : ∃ x, x = putEnt b (R1.set i [.int .i64 (kk), .int .i64 (kk + 1), .int .i64 sa, .int .i64 li, .str lk, .str lx, hdV (some (lb, lc)) lks.length, .str sx]) es1 := ⟨_, rfl⟩
      refine ⟨0, c, _, [.int .i64 (kk), .int .i64 si, .int .i64 sa, .int .i64 li, .str lk, .str lx, hdV (some (lb, lc)) lks.length, .str sx], es2, hA1, hg1, h2, ?_⟩
      have hA2 : ent b c 8 (R1.set i [.int .i64 (kk), .int .i64 (kk + 1), .int .i64 sa, .int .i64 li, .str lk, .str lx, hdV (some (lb, lc)) lks.length, .str sx]) ∈ es2 := h2 ▸ putEnt_mem hA1
      have hE2 : ∀ e ∈ es0, labOf e ≠ b → e ∈ es2 := fun e he hb => h2 ▸ putEnt_other (hE1 e he hb) hb
      have hg2 := set_get hg1 [.int .i64 (kk), .int .i64 (kk + 1), .int .i64 sa, .int .i64 li, .str lk, .str lx, hdV (some (lb, lc)) lks.length, .str sx]
      clear h2
      obtain ⟨R2, hR2⟩ : ∃ R, R = R1.set i [.int .i64 (kk), .int .i64 (kk + 1), .int .i64 sa, .int .i64 li, .str lk, .str lx, hdV (some (lb, lc)) lks.length, .str sx] := ⟨_, rfl⟩
      rw [← hR2] at hA2 hg2
      conv => whnf
      rw [w2]
      refine ⟨by omega, by omega, ?_⟩
      conv => whnf
      obtain ⟨es3, h3⟩ : ∃ x, x = putEnt b (R2.set i [.int .i64 (kk), .int .i64 (kk + 1), .int .i64 (kk + 2), .int .i64 li, .str lk, .str lx, hdV (some (lb, lc)) lks.length, .str sx]) es2 := ⟨_, rfl⟩
      refine ⟨0, c, _, [.int .i64 (kk), .int .i64 (kk + 1), .int .i64 sa, .int .i64 li, .str lk, .str lx, hdV (some (lb, lc)) lks.length, .str sx], es3, hA2, hg2, h3, ?_⟩
      have hA3 : ent b c 8 (R2.set i [.int .i64 (kk), .int .i64 (kk + 1), .int .i64 (kk + 2), .int .i64 li, .str lk, .str lx, hdV (some (lb, lc)) lks.length, .str sx]) ∈ es3 := h3 ▸ putEnt_mem hA2
      have hE3 : ∀ e ∈ es0, labOf e ≠ b → e ∈ es3 := fun e he hb => h3 ▸ putEnt_other (hE2 e he hb) hb
      have hg3 := set_get hg2 [.int .i64 (kk), .int .i64 (kk + 1), .int .i64 (kk + 2), .int .i64 li, .str lk, .str lx, hdV (some (lb, lc)) lks.length, .str sx]
      clear h3
      obtain ⟨R3, hR3⟩ : ∃ R, R = R2.set i [.int .i64 (kk), .int .i64 (kk + 1), .int .i64 (kk + 2), .int .i64 li, .str lk, .str lx, hdV (some (lb, lc)) lks.length, .str sx] := ⟨_, rfl⟩
      rw [← hR3] at hA3 hg3
      conv => whnf
      rw [w3]
      refine ⟨by omega, by omega, ?_⟩
      conv => whnf
      obtain ⟨es4, h4⟩ : ∃ x, x = putEnt b (R3.set i [.int .i64 (kk), .int .i64 (kk + 1), .int .i64 (kk + 2), .int .i64 (kk + 3), .str lk, .str lx, hdV (some (lb, lc)) lks.length, .str sx]) es3 := ⟨_, rfl⟩
      refine ⟨0, c, _, [.int .i64 (kk), .int .i64 (kk + 1), .int .i64 (kk + 2), .int .i64 li, .str lk, .str lx, hdV (some (lb, lc)) lks.length, .str sx], es4, hA3, hg3, h4, ?_⟩
      have hA4 : ent b c 8 (R3.set i [.int .i64 (kk), .int .i64 (kk + 1), .int .i64 (kk + 2), .int .i64 (kk + 3), .str lk, .str lx, hdV (some (lb, lc)) lks.length, .str sx]) ∈ es4 := h4 ▸ putEnt_mem hA3
      have hE4 : ∀ e ∈ es0, labOf e ≠ b → e ∈ es4 := fun e he hb => h4 ▸ putEnt_other (hE3 e he hb) hb
      have hg4 := set_get hg3 [.int .i64 (kk), .int .i64 (kk + 1), .int .i64 (kk + 2), .int .i64 (kk + 3), .str lk, .str lx, hdV (some (lb, lc)) lks.length, .str sx]
      clear h4
      obtain ⟨R4, hR4⟩ : ∃ R, R = R3.set i [.int .i64 (kk), .int .i64 (kk + 1), .int .i64 (kk + 2), .int .i64 (kk + 3), .str lk, .str lx, hdV (some (lb, lc)) lks.length, .str sx] := ⟨_, rfl⟩
      rw [← hR4] at hA4 hg4
      conv => whnf
      rw [w4]
      refine .inl ((markText_pure (kk + 4) (by omega)).mono ?_)
      rintro r rfl
      conv => whnf
      refine ⟨by omega, by omega, ?_⟩
      conv => whnf
      obtain ⟨es5, h5⟩ : ∃ x, x = putEnt b (R4.set i [.int .i64 (kk), .int .i64 (kk + 1), .int .i64 (kk + 2), .int .i64 (kk + 3), .str (mt (kk + 4)), .str lx, hdV (some (lb, lc)) lks.length, .str sx]) es4 := ⟨_, rfl⟩
      refine ⟨0, c, _, [.int .i64 (kk), .int .i64 (kk + 1), .int .i64 (kk + 2), .int .i64 (kk + 3), .str lk, .str lx, hdV (some (lb, lc)) lks.length, .str sx], es5, hA4, hg4, h5, ?_⟩
      have hA5 : ent b c 8 (R4.set i [.int .i64 (kk), .int .i64 (kk + 1), .int .i64 (kk + 2), .int .i64 (kk + 3), .str (mt (kk + 4)), .str lx, hdV (some (lb, lc)) lks.length, .str sx]) ∈ es5 := h5 ▸ putEnt_mem hA4
      have hE5 : ∀ e ∈ es0, labOf e ≠ b → e ∈ es5 := fun e he hb => h5 ▸ putEnt_other (hE4 e he hb) hb
      have hg5 := set_get hg4 [.int .i64 (kk), .int .i64 (kk + 1), .int .i64 (kk + 2), .int .i64 (kk + 3), .str (mt (kk + 4)), .str lx, hdV (some (lb, lc)) lks.length, .str sx]
      clear h5
      obtain ⟨R5, hR5⟩ : ∃ R, R = R4.set i [.int .i64 (kk), .int .i64 (kk + 1), .int .i64 (kk + 2), .int .i64 (kk + 3), .str (mt (kk + 4)), .str lx, hdV (some (lb, lc)) lks.length, .str sx] := ⟨_, rfl⟩
      rw [← hR5] at hA5 hg5
      conv => whnf
      rw [w5]
      refine .inl ((markText_pure (kk + 5) (by omega)).mono ?_)
      rintro r rfl
      conv => whnf
      refine ⟨by omega, by omega, ?_⟩
      conv => whnf
      obtain ⟨es6, h6⟩ : ∃ x, x = putEnt b (R5.set i [.int .i64 (kk), .int .i64 (kk + 1), .int .i64 (kk + 2), .int .i64 (kk + 3), .str (mt (kk + 4)), .str (mt (kk + 5)), hdV (some (lb, lc)) lks.length, .str sx]) es5 := ⟨_, rfl⟩
      refine ⟨0, c, _, [.int .i64 (kk), .int .i64 (kk + 1), .int .i64 (kk + 2), .int .i64 (kk + 3), .str (mt (kk + 4)), .str lx, hdV (some (lb, lc)) lks.length, .str sx], es6, hA5, hg5, h6, ?_⟩
      have hA6 : ent b c 8 (R5.set i [.int .i64 (kk), .int .i64 (kk + 1), .int .i64 (kk + 2), .int .i64 (kk + 3), .str (mt (kk + 4)), .str (mt (kk + 5)), hdV (some (lb, lc)) lks.length, .str sx]) ∈ es6 := h6 ▸ putEnt_mem hA5
      have hE6 : ∀ e ∈ es0, labOf e ≠ b → e ∈ es6 := fun e he hb => h6 ▸ putEnt_other (hE5 e he hb) hb
      have hg6 := set_get hg5 [.int .i64 (kk), .int .i64 (kk + 1), .int .i64 (kk + 2), .int .i64 (kk + 3), .str (mt (kk + 4)), .str (mt (kk + 5)), hdV (some (lb, lc)) lks.length, .str sx]
      clear h6
      obtain ⟨R6, hR6⟩ : ∃ R, R = R5.set i [.int .i64 (kk), .int .i64 (kk + 1), .int .i64 (kk + 2), .int .i64 (kk + 3), .str (mt (kk + 4)), .str (mt (kk + 5)), hdV (some (lb, lc)) lks.length, .str sx] := ⟨_, rfl⟩
      rw [← hR6] at hA6 hg6
      conv => whnf
      rw [w6]
      refine ⟨by omega, by omega, ?_⟩
      conv => whnf
      refine ⟨0, c, _, [.int .i64 (kk), .int .i64 (kk + 1), .int .i64 (kk + 2), .int .i64 (kk + 3), .str (mt (kk + 4)), .str (mt (kk + 5)), hdV (some (lb, lc)) lks.length, .str sx], hA6, hg6, ?_⟩
      conv => whnf
      refine .inr (.inl ⟨[0], false, ?_⟩)
      conv => whnf
      refine (hM (kk + 6) es6 (by omega) (by omega) hwf.1 hwf.2 (fun e he => hE6 e (hin e he) fun hh => hbi (hh ▸ List.mem_map_of_mem he)) hndi).mono ?_
      rintro o st' ⟨esm, rfl, rfl, hm1, hm2⟩
      obtain ⟨km, hkm⟩ : ∃ km : Int, km = kk + 6 + 3 * (LT.sizeL lks : Int) := ⟨_, rfl⟩
      rw [← hkm]
      have hAm := hm2 _ hA6 (by simpa [labOf, ent] using hbi)
      have hEm : ∀ e ∈ es0, labOf e ≠ b → labOf e ∉ (LT.entsL lks ++ rootE (some (lb, lc)) lks).map labOf → e ∈ esm := fun e he h1 h2 => hm2 e (hE6 e he h1) h2
      conv => whnf
      refine .inl ((markText_pure (km) (by omega)).mono ?_)
      rintro r rfl
      conv => whnf
      refine ⟨by omega, by omega, ?_⟩
      conv => whnf
      obtain ⟨es7, h7⟩ : ∃ x, x = putEnt b (R6.set i [.int .i64 (kk), .int .i64 (kk + 1), .int .i64 (kk + 2), .int .i64 (kk + 3), .str (mt (kk + 4)), .str (mt (kk + 5)), hdV (some (lb, lc)) lks.length, .str (mt (km))]) esm := ⟨_, rfl⟩
      refine ⟨0, c, _, [.int .i64 (kk), .int .i64 (kk + 1), .int .i64 (kk + 2), .int .i64 (kk + 3), .str (mt (kk + 4)), .str (mt (kk + 5)), hdV (some (lb, lc)) lks.length, .str sx], es7, hAm, hg6, h7, ?_⟩
      have hA7 : ent b c 8 (R6.set i [.int .i64 (kk), .int .i64 (kk + 1), .int .i64 (kk + 2), .int .i64 (kk + 3), .str (mt (kk + 4)), .str (mt (kk + 5)), hdV (some (lb, lc)) lks.length, .str (mt (km))]) ∈ es7 := h7 ▸ putEnt_mem hAm
      have hE7 : ∀ e ∈ es0, labOf e ≠ b → labOf e ∉ (LT.entsL lks ++ rootE (some (lb, lc)) lks).map labOf → e ∈ es7 := fun e he hb h2 => h7 ▸ putEnt_other (hEm e he hb h2) hb
      have hF7 : ∀ e ∈ esm, labOf e ≠ b → e ∈ es7 := fun e he hb => h7 ▸ putEnt_other he hb
      have hg7 := set_get hg6 [.int .i64 (kk), .int .i64 (kk + 1), .int .i64 (kk + 2), .int .i64 (kk + 3), .str (mt (kk + 4)), .str (mt (kk + 5)), hdV (some (lb, lc)) lks.length, .str (mt (km))]
      clear h7
      obtain ⟨R7, hR7⟩ : ∃ R, R = R6.set i [.int .i64 (kk), .int .i64 (kk + 1), .int .i64 (kk + 2), .int .i64 (kk + 3), .str (mt (kk + 4)), .str (mt (kk + 5)), hdV (some (lb, lc)) lks.length, .str (mt (km))] := ⟨_, rfl⟩
      rw [← hR7] at hA7 hg7
      conv => whnf
      rw [show IntKind.i64.wrap (km + 1) = km + 1 from wrap64 (by omega) (by omega)]
      have hR : R7 = R0.set i [.int .i64 (kk), .int .i64 (kk + 1), .int .i64 (kk + 2), .int .i64 (kk + 3), .str (mt (kk + 4)), .str (mt (kk + 5)), hdV (some (lb, lc)) lks.length, .str (mt (km))] := by
        rw [hR7, hR6, hR5, hR4, hR3, hR2, hR1]; simp only [List.set_set]
      rw [hR, ← hrow km hkm, hmset] at hA7
      refine ⟨n - 1, by omega, none, i + 1, es7, by omega, rfl, ⟨rfl, ?_, hwi, trivial⟩, hA7, fun e he => ?_, fun e he => ?_⟩
      · show V.int .i64 _ = V.int .i64 _
        congr 1
        rw [hmt]; push_cast; omega
      · rw [hment] at he
        rcases List.mem_append.1 he with he | he
        · obtain ⟨q1, q2, q3⟩ := hdone e he
          exact hE7 e q1 q2 q3
        · have he : e ∈ LT.entsL (LT.markedL lks (kk + 6)) ++ rootE (some (lb, lc)) (LT.markedL lks (kk + 6)) := he
          refine hF7 e (hm1 e he) fun hh => hbi ?_
          rw [← hlab, ← hh]
          exact List.mem_map_of_mem he
      · obtain ⟨q1, q2, q3⟩ := hrest e he
        exact hE7 e q1 q2 q3
  · rw [ltB_f (by omega)]
    conv => whnf
    refine ⟨[], false, ?_⟩
    conv => whnf
    have hil : i = ps.length := by omega
    subst hil
    rw [List.take_length] at hD ⊢
    have hmx : mixS ps k ps.length = slMs ps k := by unfold mixS; rw [List.take_length, List.drop_length, List.append_nil]
    rw [hmx] at hA
    refine ⟨es0, rfl, rfl, ?_⟩
    have := sl_view (slMs ps k) b c (slMs_ok ps k hok) (es := es0) (fun e he => by
      rcases List.mem_append.1 he with he | he
      · exact hD e he
      · rw [List.mem_singleton.1 he]; exact hA)
    rwa [slMs_fst ps k hok, slMs_len] at this
end Go.Cod

namespace Go.Cod
open Go Go.Proofs
set_option maxRecDepth 10000

theorem sS_append (a b : List Stp) : sS (a ++ b) = sS a + sS b := by
  induction a with
  | nil => simp [sS]
  | cons p ps ih => simp [sS, ih]; omega
theorem sS_take (ss : List Stp) (i : Nat) (h : i < ss.length) : sS (ss.take (i + 1)) = sS (ss.take i) + sN ss[i] := by
  rw [List.take_succ_eq_append_getElem h, sS_append]; rfl
theorem sS_le (ss : List Stp) (i : Nat) : sS (ss.take i) ≤ sS ss := by
  conv => rhs; rw [← List.take_append_drop i ss, sS_append]
  omega
theorem sMs_len : ∀ (ss : List Stp) (k : Int), (sMs ss k).length = ss.length
  | [], _ => rfl
  | s :: ss, k => by simp [sMs, sMs_len ss]
theorem sMs_get : ∀ (ss : List Stp) (k : Int) (i : Nat) (h : i < ss.length), (sMs ss k)[i]? = some (sM ss[i] (k + sS (ss.take i)))
  | s :: ss, k, 0, _ => by simp [sMs, sS]
  | s :: ss, k, i + 1, h => by
    simp only [sMs, List.getElem?_cons_succ, List.getElem_cons_succ, List.take_succ_cons, sS]
    rw [sMs_get ss _ i (by simpa using h)]
    congr 2
    push_cast; omega
set_option maxHeartbeats 8000000 in
theorem heldSteps_pure (ss : List Stp) (hl : ss.length ≤ 1048576) (k : Int) (h0 : 0 ≤ k) (h1 : k + sS ss ≤ 1152921504606846976) :
    Pure Try.prog 33 [.sl (prows (sMs ss k)), .int .i64 k] (· = .int .i64 (k + sS ss)) := by
  have hlen : (prows (sMs ss k)).length = ss.length := by rw [prows_len, sMs_len]
  have hget : ∀ i (h : i < ss.length), (prows (sMs ss k))[i]? = some (sM ss[i] (k + sS (ss.take i))).cells := fun i h => by
    rw [prows, List.getElem?_map, sMs_get ss k i h]; rfl
  generalize prows (sMs ss k) = rows at *
  refine pure_of_awp good Try.func33 rfl (by kernel_rfl) (by decide) ?_
  conv => whnf
  refine loop_intro (fun n fr st => st = [] ∧ ∃ i : Nat, n + i = ss.length ∧ Holds fr [(0, .sl rows), (1, .int .i64 (k + sS (ss.take i))), (5, .int .i64 i)]) ss.length
    ⟨rfl, 0, rfl, rfl, by simp [sS]; rfl, rfl, trivial⟩ ?_
  rintro n fr st ⟨rfl, i, hi, hh⟩
  obtain ⟨fr, rfl⟩ := hh.split
  clear hh
  conv => whnf
  by_cases hlt : i < ss.length
  · rw [hlen, ltB_t (by omega)]
    conv => whnf
    have hg := hget i hlt
    have hmt := sS_take ss i hlt
    have hmle := sS_le ss (i + 1)
    have hc := heldTreeS_pureT ss[i].node
    have hnN : sN ss[i] = 7 + 3 * T.sizeL ss[i].node.kids := rfl
    obtain ⟨kk, hkk⟩ : ∃ kk : Int, kk = k + sS (ss.take i) := ⟨_, rfl⟩
    rw [← hkk] at hg ⊢
    generalize ss[i] = s at *
    obtain ⟨sk, si, sa, ⟨li, lk, lx, lks⟩, sx⟩ := s
    simp only [T.kids] at hnN hc
    obtain ⟨km, hkm⟩ : ∃ km : Int, km = kk + 6 + 3 * (T.sizeL lks : Int) := ⟨_, rfl⟩
    have hc := hc (kk + 6) (by omega) (by omega)
    have hg : rows[i]? = some [.int .i64 kk, .int .i64 (kk + 1), .int .i64 (kk + 2), .int .i64 (kk + 3), .str (mt (kk + 4)), .str (mt (kk + 5)), .sl (T.rows (T.markedL lks (kk + 6))), .str (mt km)] := by rw [hg, hkm]; rfl
    rw [← hkm] at hc
    have w1 : IntKind.i64.wrap (kk + 1) = kk + 1 := wrap64 (by omega) (by omega)
    have w2 : IntKind.i64.wrap (kk + 1 + 1) = kk + 2 := by rw [wrap64 (by omega) (by omega)]; omega
    have w3 : IntKind.i64.wrap (kk + 2 + 1) = kk + 3 := by rw [wrap64 (by omega) (by omega)]; omega
    have w4 : IntKind.i64.wrap (kk + 3 + 1) = kk + 4 := by rw [wrap64 (by omega) (by omega)]; omega
    have w5 : IntKind.i64.wrap (kk + 4 + 1) = kk + 5 := by rw [wrap64 (by omega) (by omega)]; omega
    have w6 : IntKind.i64.wrap (kk + 5 + 1) = kk + 6 := by rw [wrap64 (by omega) (by omega)]; omega
    have w7 : IntKind.i64.wrap (km + 1) = km + 1 := wrap64 (by omega) (by omega)
    refine ⟨by omega, rows, _, 8, rfl, hg, rfl, rfl, ?_⟩
    conv => whnf
    rw [eqB_refl]
    conv => whnf
    rw [w1]
    refine ⟨by omega, rows, _, 8, rfl, hg, rfl, rfl, ?_⟩
    conv => whnf
    rw [eqB_refl]
    conv => whnf
    rw [w2]
    refine ⟨by omega, rows, _, 8, rfl, hg, rfl, rfl, ?_⟩
    conv => whnf
    rw [eqB_refl]
    conv => whnf
    rw [w3]
    refine ⟨by omega, rows, _, 8, rfl, hg, rfl, rfl, ?_⟩
    conv => whnf
    rw [eqB_refl]
    conv => whnf
    rw [w4]
    refine ⟨by omega, rows, _, 8, rfl, hg, rfl, rfl, ?_⟩
    conv => whnf
    refine ⟨_, .inl (markText_pure (kk + 4) (by omega)), ?_⟩
    conv => whnf
    rw [eqS_refl]
    conv => whnf
    rw [w5]
    refine ⟨by omega, rows, _, 8, rfl, hg, rfl, rfl, ?_⟩
    conv => whnf
    refine ⟨_, .inl (markText_pure (kk + 5) (by omega)), ?_⟩
    conv => whnf
    rw [eqS_refl]
    conv => whnf
    rw [w6]
    refine ⟨by omega, rows, _, 8, rfl, hg, rfl, rfl, ?_⟩
    conv => whnf
    refine .inl (hc.mono ?_)
    rintro r rfl
    conv => whnf
    rw [ltB_f (by omega)]
    conv => whnf
    refine ⟨by omega, rows, _, 8, rfl, hg, rfl, rfl, ?_⟩
    conv => whnf
    refine ⟨_, .inl (markText_pure km (by omega)), ?_⟩
    conv => whnf
    rw [eqS_refl]
    conv => whnf
    rw [w7]
    refine ⟨n - 1, by omega, rfl, i + 1, by omega, rfl, ?_, ?_, trivial⟩
    · show V.int .i64 _ = V.int .i64 _
      congr 1
      rw [hmt]; push_cast; omega
    · show V.int .i64 (IntKind.i64.wrap (i + 1)) = _
      rw [wrap64 (by omega) (by omega)]; simp
  · rw [hlen, ltB_f (by omega)]
    conv => whnf
    have hil : i = ss.length := by omega
    subst hil
    rw [List.take_length]
theorem markSteps_none (k : Int) : Pure Try.prog 22 [.sl [], .int .i64 k] (· = .int .i64 k) := by
  refine pure_of_awp good Try.func22 rfl (by kernel_rfl) (by decide) ?_
  conv => whnf
  refine loop_intro (fun n fr st => st = [] ∧ Holds fr [(0, .sl []), (1, .int .i64 k), (5, .int .i64 0)]) 0 ⟨rfl, rfl, rfl, rfl, trivial⟩ ?_
  rintro n fr st ⟨rfl, hh⟩
  obtain ⟨fr, rfl⟩ := hh.split
  clear hh
  conv => whnf
  rw [ltB_f (by simp)]
  conv => whnf
theorem heldSteps_none (k : Int) : Pure Try.prog 33 [.sl [], .int .i64 k] (· = .int .i64 k) := by
  refine pure_of_awp good Try.func33 rfl (by kernel_rfl) (by decide) ?_
  conv => whnf
  refine loop_intro (fun n fr st => st = [] ∧ Holds fr [(0, .sl []), (1, .int .i64 k), (5, .int .i64 0)]) 0 ⟨rfl, rfl, rfl, rfl, trivial⟩ ?_
  rintro n fr st ⟨rfl, hh⟩
  obtain ⟨fr, rfl⟩ := hh.split
  clear hh
  conv => whnf
  rw [ltB_f (by simp)]
  conv => whnf
theorem sS_small (ss : List Stp) (h : ∀ s ∈ ss, s.Sm) : sS ss ≤ ss.length * 3145738 := by
  induction ss with
  | nil => simp [sS]
  | cons s ss ih =>
    have h1 := (h s (by simp)).2.1
    have h3 := T.kids_size s.node
    have h2 := ih fun q hq => h q (List.mem_cons_of_mem _ hq)
    simp only [sS, sN, List.length_cons]
    omega
end Go.Cod

namespace Go.Cod
open Go Go.Proofs Go.ChangeShapes Go.WideShapes Go.ChangeAt Go.RowKit
set_option maxRecDepth 10000

theorem argTree {H : Type} {enc : TypeId × Value → H} {W : World} : ReadsA enc Try.prog W 24 fun x => ∃ vs, x = .agg vs ∧ ∃ t : T, vs = t.cells ∧ t.Ok := readsA_agg Try.underlying24 fun n => reads_tree n
set_option maxHeartbeats 16000000 in
theorem law_stepsBackX (t : T) (ht : t.Ok) (ls : List Stp) (hls : ∀ s ∈ ls, s.Ok) (hlm : ls.length ≤ maxLen) : Pure Try.prog 5 [.agg t.cells, .sl (prows ls)] (· = .bool true) := by
  have hsz := szT_pure t ht 1048576 (by omega) (by omega)
  have hsm := small_of_sz t ht 1048576 (by omega)
  have hsl := szT_le t 1048576 (by omega)
  have hid := ids_sz t 1048576
  have hsz2 := szSteps_pure ls hls hlm (szT t 1048576)
  have hsm2 := szLs_small ls (szT t 1048576) hls (by omega)
  have e1 := toTree_pure t
  have e2 := eqTree_pure t
  have e1s := fun h1 h2 => toSteps_pure ls h1 h2
  have e2s := fun h1 h2 => eqSteps_pure ls h1 h2
  have en := toTree_new t
  have ens := fun h1 h2 => toSteps_new ls h1 h2
  have hS := fun h1 h2 h3 h4 => specStepsBack_pure t ls h1 h2 h3 h4
  have hI := fun h1 h2 h3 => implStepsBack_pure t ls h1 h2 h3
  have hil := fun h1 h2 h3 => implStepsBack_lent t ls h1 h2 h3
  have hst := fun h1 h2 => backsT_Sm (t := t) h1 (ls := ls) h2
  have hbl := backsT_len t ls
  have htz := T.ids_size t
  have hks := T.kids_size t
  have hlen := prows_len ls
  generalize hl : szT t 1048576 = left at *
  generalize hl2 : szLs ls left = left2 at *
  generalize backsT t ls = wb at *
  obtain ⟨w, b⟩ := wb
  simp only [spR] at hS hI hst hbl
  have hrs : ∃ rs, rs = prows ls := ⟨_, rfl⟩
  generalize hrows : prows ls = rows at *
  cases t with
  | mk id kind text kids =>
  show Pure Try.prog _ [.agg [.int .i64 id, .str kind, .str text, .sl (T.rows kids)], .sl rows] _
  refine pure_of_awp good Try.func5 rfl (by kernel_rfl) (by decide) ?_
  conv => whnf
  refine .inl (hsz.mono ?_)
  rintro r rfl
  conv => whnf
  by_cases a1 : left < 0
  · rw [ltB_t a1]
    conv => whnf
  rw [ltB_f (by omega)]
  have hS0 := hsm (by omega)
  have hid := hid (by omega)
  conv => whnf
  refine .inl ((hsz2 (by omega) (by omega)).mono ?_)
  rintro r rfl
  conv => whnf
  by_cases a2 : left2 < 0
  · rw [ltB_t a2]
    conv => whnf
  rw [ltB_f (by omega)]
  obtain ⟨hN, hLn⟩ := hsm2 (by omega)
  have hNs : ∀ s ∈ ls, s.node.Small := fun s h => (hN s h).1
  have hz : (T.mk id kind text kids).size ≤ 1048577 := by omega
  have e1 := e1 hS0
  have e2 := e2 hS0
  have e1s := e1s hLn hNs
  have e2s := e2s hNs hLn
  have hS := hS hS0 hz hN hLn
  have hI := hI hS0 hN hLn
  have hil := hil hS0 hN hLn
  have hwS := hst hS0 hN
  have hwl : w.length ≤ 1048576 := by
    rw [hbl]
    split <;> omega
  have ew := eqSteps_pure w (fun s h => (hwS s h).1) hwl
  have hwk := sS_small w hwS
  clear hsz hsz2 hsm hsm2 hst
  conv => whnf
  refine .inl (e1.mono ?_)
  rintro r rfl
  conv => whnf
  refine .inl (e1s.mono ?_)
  rintro r rfl
  conv => whnf
  refine .inl (hS.mono ?_)
  rintro r rfl
  conv => whnf
  refine .inr (.inl ⟨[], false, ?_⟩)
  conv => whnf
  refine (en hS0).mono ?_
  rintro o st' ⟨lx, x1, x2, ⟨xb, xc, x3⟩, x4, rfl, rfl⟩
  have hmx := markTree_new lx x1 1 lx.ents (by omega) (by simp only [T.kids] at hks ⊢; omega) x2 (fun _ h => h) x4
  have hvx := lx.viewA x2 (es := lx.ents) (fun _ h => h)
  rw [x1] at hvx
  have hil := fun ps b c h1 h2 es2 h3 => hil lx ps b c x1 x2 h1 h2 lx.ents es2 (fun _ h => h) h3
  obtain ⟨kx, hkx⟩ : ∃ kx : Int, kx = 1 + 3 * (T.sizeL (T.mk id kind text kids).kids : Int) := ⟨_, rfl⟩
  have hkx0 : 1 ≤ kx := by omega
  have hkx1 : kx ≤ 10000000 := by simp only [T.kids] at hks hkx ⊢; omega
  rw [← hkx] at hmx
  clear hkx
  generalize lx.ents = esx at *
  generalize lx.kids = xks at *
  subst x3
  conv => whnf
  refine .inr (.inl ⟨[], false, ?_⟩)
  conv => whnf
  refine (ens hLn hNs).mono ?_
  rintro o st' ⟨sb, sc, ps, s1, s2, s3, rfl, rfl⟩
  have hpl : ps.length ≤ 1048576 := by
    have : (ps.map (·.1)).length = ps.length := by simp
    rw [s1] at this; omega
  have hmk := mkS_le ps fun p hp => by
    have h1 : p.1 ∈ ls := by rw [← s1]; exact List.mem_map_of_mem hp
    have h2 := (hN _ h1).2.1
    have h3 := (s2 p hp).1
    rw [LT.kids_size, h3]
    have := T.kids_size p.1.node
    omega
  have hms := markSteps_full ps hpl sb sc kx _ (by omega) (by omega) s2 (fun _ h => h) s3
  have hvs := sl_view ps sb sc s2 (es := slEnts ps ++ [ent sb sc 8 (slRows ps)]) (fun _ h => h)
  rw [s1, hrows] at hvs
  have hil := hil ps sb sc s1 s2 _ (fun _ h => h)
  generalize slEnts ps ++ [ent sb sc 8 (slRows ps)] = ess at *
  clear s1 s2 s3 hmk hpl
  generalize ps.length = pn at *
  conv => whnf
  refine .inr (.inl ⟨[1, 3], true, ?_⟩)
  conv => whnf
  refine hil.mono ?_
  rintro o st' ⟨st1, ⟨gh, qs, g1, g2, g3, g4, rfl, rfl⟩, rfl⟩
  have g1 : qs.map (·.1) = w := g1
  clear hil en ens
  rcases gh with _ | ⟨gb, gc⟩
  · have hq := g3 rfl
    subst hq
    have hw0 : w = [] := g1.symm
    subst hw0
    have hm0 := markSteps_none 1
    have hh0 := heldSteps_none 1
    generalize slEnts ([] : List SL) ++ rootS none [] = esg at *
    conv => whnf
    refine .inl (ew.mono ?_)
    rintro r rfl
    conv => whnf
    rw [sneqb_refl]
    conv => whnf
    refine ⟨_, .inl e1, ?_⟩
    conv => whnf
    refine ⟨.bool true, .inr ⟨esx, [.agg (T.mk id kind text kids).cells, .agg (T.mk id kind text kids).cells], fun e he => ⟨1, he⟩, viewL2 hvx (.same _), rfl, e2.mono fun r hr => ⟨by rw [hr]; rfl, hr⟩⟩, ?_⟩
    conv => whnf
    refine .inl (e1s.mono ?_)
    rintro r rfl
    conv => whnf
    refine .inr (.inr ⟨ess, [.sl rows, .sl rows], fun e he => ⟨3, he⟩, viewL2 hvs (.same _), rfl, e2s.mono ?_⟩)
    rintro r rfl
    refine ⟨rfl, ?_⟩
    conv => whnf
    refine .inr (.inl ⟨[1], false, ?_⟩)
    conv => whnf
    refine hmx.mono ?_
    rintro o st' ⟨esx', rfl, rfl, hvx'⟩
    conv => whnf
    refine .inr (.inl ⟨[3], false, ?_⟩)
    conv => whnf
    refine hms.mono ?_
    rintro o st' ⟨ess', ky, hky, rfl, rfl⟩
    conv => whnf
    rw [ltB_f (by omega)]
    conv => whnf
    refine .inl (ew.mono ?_)
    rintro r rfl
    conv => whnf
    rw [sneqb_refl]
    conv => whnf
    refine .inl (hm0.mono ?_)
    rintro r rfl
    conv => whnf
    refine .inl (hh0.mono ?_)
    rintro r rfl
    conv => whnf
    rw [ltB_f (by omega)]
    conv => whnf
    rw [eqB_refl]
    conv => whnf
    refine .inl (e1.mono ?_)
    rintro r rfl
    conv => whnf
    refine .inl (e1s.mono ?_)
    rintro r rfl
    conv => whnf
    refine .inl (hI.mono ?_)
    rintro r rfl
    conv => whnf
    refine .inl (ew.mono ?_)
    rintro r rfl
    conv => whnf
    rw [sneqb_refl]
    conv => whnf
    refine .inl (hh0.mono ?_)
    rintro r rfl
    conv => whnf
    rw [ltB_f (by omega)]
    conv => whnf
    rw [eqB_refl]
    conv => whnf
  · have hql : qs.length ≤ 1048576 := by
      have : (qs.map (·.1)).length = qs.length := by simp
      rw [g1] at this; omega
    have hqs := mkS_eq qs g2
    rw [g1] at hqs
    have hmg := markSteps_view qs hql gb gc 1 _ (by omega) (by omega) g2 (fun _ h => h)
    have hhg := heldSteps_pure w hwl 1 (by omega) (by omega)
    have hvg := sl_view qs gb gc g2 (es := slEnts qs ++ [ent gb gc 8 (slRows qs)]) (fun _ h => h)
    rw [g1] at hvg hmg
    rw [hqs] at hmg
    have hcw : V.clean.cleanL 0 [V.sl (prows (sMs w 1)), .int .i64 1] = true := by
      simp only [V.clean.cleanL, V.clean, prows_clean, Bool.and_self]
    have hrt : rootS (some (gb, gc)) qs = [ent gb gc 8 (slRows qs)] := rfl
    rw [hrt] at g4 ⊢
    have hmg := hmg g4
    clear g1 g2 g3 g4 hrt hqs hql
    generalize slEnts qs ++ [ent gb gc 8 (slRows qs)] = esg at *
    generalize qs.length = gn at *
    obtain ⟨kg, hkg⟩ : ∃ kg : Int, kg = 1 + (sS w : Int) := ⟨_, rfl⟩
    have hkg0 : 0 ≤ kg := by omega
    rw [← hkg] at hmg hhg
    clear hkg
    generalize prows (sMs w 1) = wm at *
    generalize prows w = wr at *
    conv => whnf
    refine .inr (.inr ⟨esg, [.sl wr, .sl wr], fun e he => ⟨4, he⟩, viewL2 hvg (.same _), rfl, ew.mono ?_⟩)
    rintro r rfl
    refine ⟨rfl, ?_⟩
    conv => whnf
    rw [sneqb_refl]
    conv => whnf
    refine ⟨_, .inl e1, ?_⟩
    conv => whnf
    refine ⟨.bool true, .inr ⟨esx, [.agg (T.mk id kind text kids).cells, .agg (T.mk id kind text kids).cells], fun e he => ⟨1, he⟩, viewL2 hvx (.same _), rfl, e2.mono fun r hr => ⟨by rw [hr]; rfl, hr⟩⟩, ?_⟩
    conv => whnf
    refine .inl (e1s.mono ?_)
    rintro r rfl
    conv => whnf
    refine .inr (.inr ⟨ess, [.sl rows, .sl rows], fun e he => ⟨3, he⟩, viewL2 hvs (.same _), rfl, e2s.mono ?_⟩)
    rintro r rfl
    refine ⟨rfl, ?_⟩
    conv => whnf
    refine .inr (.inl ⟨[1], false, ?_⟩)
    conv => whnf
    refine hmx.mono ?_
    rintro o st' ⟨esx', rfl, rfl, hvx'⟩
    conv => whnf
    refine .inr (.inl ⟨[3], false, ?_⟩)
    conv => whnf
    refine hms.mono ?_
    rintro o st' ⟨ess', ky, hky, rfl, rfl⟩
    conv => whnf
    rw [ltB_f (by omega)]
    conv => whnf
    refine .inr (.inr ⟨esg, [.sl wr, .sl wr], fun e he => ⟨4, he⟩, viewL2 hvg (.same _), rfl, ew.mono ?_⟩)
    rintro r rfl
    refine ⟨rfl, ?_⟩
    conv => whnf
    rw [sneqb_refl]
    conv => whnf
    refine .inr (.inl ⟨[4], true, ?_⟩)
    conv => whnf
    refine hmg.mono ?_
    rintro o st' ⟨esg', rfl, rfl, hvg'⟩
    conv => whnf
    refine .inr (.inr ⟨esg', [.sl wm, .int .i64 1], fun e he => ⟨4, he⟩, viewL2 hvg' (.same _), hcw, hhg.mono ?_⟩)
    rintro r rfl
    refine ⟨rfl, ?_⟩
    conv => whnf
    rw [ltB_f (by omega)]
    conv => whnf
    rw [eqB_refl]
    conv => whnf
    refine .inl (e1.mono ?_)
    rintro r rfl
    conv => whnf
    refine .inl (e1s.mono ?_)
    rintro r rfl
    conv => whnf
    refine .inl (hI.mono ?_)
    rintro r rfl
    conv => whnf
    refine .inl (ew.mono ?_)
    rintro r rfl
    conv => whnf
    rw [sneqb_refl]
    conv => whnf
    refine .inr (.inr ⟨esg', [.sl wm, .int .i64 1], fun e he => ⟨4, he⟩, viewL2 hvg' (.same _), hcw, hhg.mono ?_⟩)
    rintro r rfl
    refine ⟨rfl, ?_⟩
    conv => whnf
    rw [ltB_f (by omega)]
    conv => whnf
    rw [eqB_refl]
    conv => whnf
theorem lawFnExactStepsBack (t : T) (ht : t.Ok) (ls : List Stp) (h : (∀ s ∈ ls, s.Ok) ∧ ls.length ≤ maxLen) : Pure Try.prog 5 [.agg t.cells, .sl (prows ls)] (· = .bool true) := law_stepsBackX t ht ls h.1 h.2
theorem conFnExactStepsBack (H : Type) (enc : TypeId × Value → H) (W : World) (base : Nat) (args : Array Value) (ds gs : List (DataW H)) (before : List MemPlace)
    (hval : ∀ (j : Nat) t v, Try.f5.params[j]? = some t → args[j]? = some v → Value.okWide Try.prog W .any base t v)
    (hW : DataW.Whole enc Try.prog Try.f5.params.toList Ytpbomdlknkakgaa.Rows.fnExactStepsBackSpec.vars false W args.toList ds gs before) {fresh handsOn again : Bool} :
    Calls Try.prog 5 args W fun e W' => ∃ v, e = .returned v ∧ Ytpbomdlknkakgaa.Rows.fnExactStepsBackSpec.post enc Try.prog Try.f5 false fresh handsOn again W args v W' := by
  refine law_calls kids full (tb := 4) rfl Try.underlying4 (by decide +kernel) rfl hW (fun ds h => by match ds, h with | [_, _], _ => exact ⟨rfl, rfl, rfl⟩) hval
    (Ss := [fun x => ∃ vs, x = .agg vs ∧ ∃ t : T, vs = t.cells ∧ t.Ok, fun x => ∃ ls : List Stp, x = .sl (prows ls) ∧ (∀ s ∈ ls, s.Ok) ∧ ls.length ≤ maxLen]) laid0 ?_ ?_
  · rw [Try.params5]
    exact ⟨argTree, argSteps, trivial⟩
  · intro xs h
    obtain ⟨_, _, rfl, ⟨_, rfl, t0, rfl, h0⟩, ⟨t1, rfl, h1⟩⟩ := hold2 h
    exact lawFnExactStepsBack t0 h0 t1 h1

set_option maxRecDepth 100000 in
theorem overFnExactStepsBack : Ytpbomdlknkakgaa.Rows.FnExactStepsBackSaid :=
  OpenClaim.holds_of_wide 5 Try.f5 rfl rfl rfl rfl rfl rfl rfl ⟨rfl, rfl, rfl, rfl, rfl⟩ rfl rfl rfl rfl rfl (by kernel_rfl) Try.func5 (by kernel_rfl)
    (of_decide_eq_true (by kernel_rfl)) (by unfold Func.isWrapper; first | (rw [if_pos (by decide +kernel)]; kernel_rfl) | (rw [if_neg (by decide +kernel)]; exact ⟨rfl, rfl⟩))
    (fun os started H enc _ => returnsInHanded_of_change ownK started (by kernel_rfl) Try.func5
      (ChangeSpec.witness6 (enc := enc) (C := Try.checked) false ⟨#[], #[.agg #[.int .i64 0, .string "".toByteArray, .string "".toByteArray, .slice none 0 0], .slice none 0 0], []⟩ 8 (by kernel_rfl) (by kernel_rfl) (by kernel_rfl) (by kernel_rfl))
      (fun W base args ds gs before hval hW _ _ => conFnExactStepsBack H enc W base args ds gs before hval hW))
end Go.Cod

