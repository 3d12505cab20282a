/- Own texts. -/
import Derived.WalkKit
import Derived.ProofKit
import Derived.Test.YtpbomdlknkakgaaCodF
namespace Go.Cod
open Go Go.Proofs
set_option maxRecDepth 10000

/-- What is known of a step that can be done, and of what undoes it. -/
theorem back_facts {t y : T} {s : Stp} (hok : okT t = true) (hd : doT t s = some y) :
    (s.kind = 1 ∧ backS t s = ⟨2, s.node.id, 0, TZ, []⟩) ∨
    (s.kind = 2 ∧ ∃ (ps x : T) (ov j : Int), treeOver t s.id = ov ∧ fT t ov = some ps ∧ placeGo s.id 0 ps.kids = j ∧ fT t s.id = some x ∧ t.id ≠ s.id ∧ backS t s = ⟨1, ov, j, x, []⟩) ∨
    (s.kind = 3 ∧ ∃ x, fT t s.id = some x ∧ backS t s = ⟨3, s.id, 0, TZ, x.text⟩) ∨
    (s.kind = 4 ∧ ∃ x, fT t s.id = some x ∧ backS t s = ⟨4, s.id, 0, TZ, x.kind⟩) := by
  obtain ⟨h1, h2⟩ := doT_ok hd
  obtain ⟨p1, p2, p3⟩ := (okT_iff' t).1 hok
  unfold editT at h1
  cases hf : fT t s.id with
  | none => rw [hf] at h1; cases h1
  | some x =>
    rw [hf] at h1
    simp only at h1
    have hkx : kidOf t s.id = x := by unfold kidOf; rw [hf]; rfl
    by_cases k1 : s.kind = 1
    · exact .inl ⟨k1, by unfold backS; rw [if_pos k1]⟩
    refine .inr ?_
    rw [if_neg k1] at h1
    by_cases k2 : s.kind = 2
    · refine .inl ⟨k2, ?_⟩
      rw [if_pos k2] at h1
      split at h1
      · cases h1
      split at h1
      · cases h1
      rename_i hne
      have hp : ∀ i ∈ t.ids, 0 ≤ i := plainT_ids t 1 p1
      have hm : s.id ∈ t.ids := mem_of_fT hf
      have hmk : s.id ∈ T.idsL t.kids := by
        cases t with
        | mk id kind text kids =>
        simp only [T.ids, List.mem_cons] at hm
        exact hm.resolve_left hne
      obtain ⟨_, ps, k, e2, e3, e4⟩ := overT_kid t s.id 0 p2 hp hmk
      have hov : treeOver t s.id = overT t s.id 0 := by
        unfold treeOver spotOf
        rw [if_pos hok, (overT_eq t s.id 0 1 (by omega) hp).1]
      have e6 : s.id ∈ ps.kids.map T.id := List.mem_map.2 ⟨k, e3, e4⟩
      obtain ⟨j, _, j2⟩ := placeGo_in s.id ps.kids 0 e6
      have hkp : kidOf t (overT t s.id 0) = ps := by unfold kidOf; rw [e2]; rfl
      refine ⟨ps, x, _, _, hov, e2, rfl, rfl, fun h => hne h.symm, ?_⟩
      unfold backS
      rw [if_neg k1, if_pos k2, hkp, hkx]
      unfold place0
      rw [if_neg (by omega)]
    refine .inr ?_
    rw [if_neg k2] at h1
    by_cases k3 : s.kind = 3
    · exact .inl ⟨k3, x, rfl, by unfold backS; rw [if_neg k1, if_neg k2, if_pos k3, hkx]⟩
    rw [if_neg k3] at h1
    by_cases k4 : s.kind = 4
    · exact .inr ⟨k4, x, rfl, by unfold backS; rw [if_neg k1, if_neg k2, if_neg k3, hkx]⟩
    rw [if_neg k4] at h1
    split at h1 <;> cases h1
/-- A step whose tree is in a pool, and whether it is one. -/
def BackR (r : Stp × Bool) (o : Out) (st' : St) : Prop := ∃ l : LT, l.erase = r.1.node ∧ l.Wf ∧ o = .ret (.tup [.agg (stpC r.1 l), .bool r.2]) ∧ st' = [poolO l.ents]
set_option maxHeartbeats 8000000 in
theorem implStepBack_acc (t : T) (s : Stp) (ht : t.Small) (hs : s.node.Small) (htx : s.text.length ≤ 1048576) : Full Try.prog noY 27 [.agg t.cells, .agg s.cells] [poolO []] (BackR (backT t s)) := by
  have f1 := implStepDo_pure t s ht hs htx
  have f2 := stepDeedOf_pure s hs
  have hb : backT t s = if okT t = true then (match doT t s with
    | some _ => (backS t s, true)
    | none => (SZ, false)) else (SZ, false) := rfl
  have hst : stepT t s = if okT t = true then (match doT t s with
    | some y => (y, true)
    | none => (t, false)) else (TZ, false) := rfl
  have hF := fun y h1 h2 => back_facts (t := t) (y := y) (s := s) h1 h2
  have hu1 := fun sid at_ => putUndo sid at_ s.node t
  have hu2 := cutUndo s.id t
  have hu3 := fun x h => textUndo s.id s.text t x ht h
  have hu4 := fun x h => kindUndo s.id s.text t x ht h
  have hsm := fun x h => fT_small t x ht h
  have hkl : ∀ ps : T, ps.Small → ps.kids.length ≤ 1048576 := fun ps h => by cases h with | mk g1 g2 g3 g4 g5 => exact g4
  generalize hdk : deedOk s = dk at *
  generalize hdv : deedV s = dv at *
  unfold deedV at hdv
  generalize backT t s = bk at *
  generalize stepT t s = sd at *
  generalize hbs : backS t s = bs at *
  generalize okT t = okt at *
  generalize doT t s = d at *
  simp only [Stp.cells] at f1 f2 ⊢
  obtain ⟨kind, sid, at_, node, text⟩ := s
  simp only at f1 f2 hF hu1 hu2 hu3 hu4 hdv ⊢
  have hk : ∀ y, okt = true → d = some y → (kind = 1 ∧ bs = ⟨2, node.id, 0, TZ, []⟩ ∧ dv = .iface 118 (.agg ([.int .i64 sid, .int .i64 at_] ++ node.cells))) ∨ (kind = 2 ∧ ∃ (ps x : T) (ov j : Int), treeOver t sid = ov ∧ fT t ov = some ps ∧ placeGo sid 0 ps.kids = j ∧ fT t sid = some x ∧ t.id ≠ sid ∧ bs = ⟨1, ov, j, x, []⟩ ∧ dv = .iface 120 (.agg [.int .i64 sid])) ∨
      (kind = 3 ∧ ∃ x, fT t sid = some x ∧ bs = ⟨3, sid, 0, TZ, x.text⟩ ∧ dv = .iface 122 (.agg [.int .i64 sid, .str text])) ∨ (kind = 4 ∧ ∃ x, fT t sid = some x ∧ bs = ⟨4, sid, 0, TZ, x.kind⟩ ∧ dv = .iface 124 (.agg [.int .i64 sid, .str text])) := fun y h1 h2 => by
    rcases hF y h1 h2 with ⟨k, h⟩ | ⟨k, ps, x, ov, j, h3, h4, h5, h6, h7, h⟩ | ⟨k, x, h6, h⟩ | ⟨k, x, h6, h⟩
    · exact .inl ⟨k, h, by rw [← hdv, if_pos k]⟩
    · exact .inr (.inl ⟨k, ps, x, ov, j, h3, h4, h5, h6, h7, h, by rw [← hdv, if_neg (by omega), if_pos k]⟩)
    · exact .inr (.inr (.inl ⟨k, x, h6, h, by rw [← hdv, if_neg (by omega), if_neg (by omega), if_pos k]⟩))
    · exact .inr (.inr (.inr ⟨k, x, h6, h, by rw [← hdv, if_neg (by omega), if_neg (by omega), if_neg (by omega), if_pos k]⟩))
  clear hF hdv
  have hnt : ∀ (a : T), a = t → t = a := fun a h => h.symm
  obtain ⟨tid, tk, tx, tks⟩ := t
  cases okt with
  | false =>
    rw [if_neg (by simp)] at hb hst
    subst hb hst
    obtain ⟨nid, nk, nx, nks⟩ := node
    refine full_of_awp good Try.func27 rfl (by kernel_rfl) (by decide) ?_
    conv => whnf
    refine .inl (f1.mono ?_)
    rintro r rfl
    conv => whnf
    refine ⟨[], true, ?_⟩
    conv => whnf
    exact ⟨lz, rfl, by simp [lz, LT.Wf, LT.WfL], rfl, rfl⟩
  | true =>
    rw [if_pos rfl] at hb hst
    cases hdd : d with
    | none =>
      rw [hdd] at hb hst
      simp only at hb hst
      subst hb hst
      obtain ⟨nid, nk, nx, nks⟩ := node
      refine full_of_awp good Try.func27 rfl (by kernel_rfl) (by decide) ?_
      conv => whnf
      refine .inl (f1.mono ?_)
      rintro r rfl
      conv => whnf
      refine ⟨[], true, ?_⟩
      conv => whnf
      exact ⟨lz, rfl, by simp [lz, LT.Wf, LT.WfL], rfl, rfl⟩
    | some y =>
      rw [hdd] at hb hst
      simp only at hb hst
      subst hb hst
      have hk := hk y rfl hdd
      obtain ⟨yid, yk, yx, yks⟩ := y
      rcases hk with ⟨k, rfl, rfl⟩ | ⟨k, ps, x, ov, j, h3, h4, h5, h6, h7, rfl, rfl⟩ | ⟨k, x, h6, rfl, rfl⟩ | ⟨k, x, h6, rfl, rfl⟩
      · have hu1 := hu1 sid at_
        obtain ⟨nid, nk, nx, nks⟩ := node
        refine full_of_awp good Try.func27 rfl (by kernel_rfl) (by decide) ?_
        conv => whnf
        refine .inl (f1.mono ?_)
        rintro r rfl
        conv => whnf
        refine .inl (f2.mono ?_)
        rintro r rfl
        conv => whnf
        refine ⟨152, rfl, ?_⟩
        conv => whnf
        refine .inr (.inl ⟨[], true, ?_⟩)
        conv => whnf
        refine hu1.mono ?_
        rintro o st' ⟨rfl, rfl⟩
        conv => whnf
        refine ⟨[], true, ?_⟩
        conv => whnf
        exact ⟨lz, rfl, by simp [lz, LT.Wf, LT.WfL], rfl, rfl⟩
      · have hu2 := hu2 ps x ht (hkl ps (hsm _ _ h4)) (hsm _ _ h6) ov j h3 h4 h5 h6 h7 []
        clear h3 h4 h5 h6 h7
        obtain ⟨nid, nk, nx, nks⟩ := node
        obtain ⟨xid, xk, xx, xks⟩ := x
        refine full_of_awp good Try.func27 rfl (by kernel_rfl) (by decide) ?_
        conv => whnf
        refine .inl (f1.mono ?_)
        rintro r rfl
        conv => whnf
        refine .inl (f2.mono ?_)
        rintro r rfl
        conv => whnf
        refine ⟨159, rfl, ?_⟩
        conv => whnf
        refine .inr (.inl ⟨[0], true, ?_⟩)
        conv => whnf
        refine hu2.mono ?_
        rintro o st' ⟨l, l1, l2, rfl, rfl⟩
        obtain ⟨li, lk, lx, lh, lks⟩ := l
        rcases lh with _ | ⟨lb, lc⟩
        all_goals
          conv => whnf
          refine ⟨[], true, ?_⟩
          conv => whnf
          exact ⟨_, l1, l2, rfl, rfl⟩
      · have hu3 := hu3 x h6
        obtain ⟨nid, nk, nx, nks⟩ := node
        obtain ⟨xid, xk, xx, xks⟩ := x
        refine full_of_awp good Try.func27 rfl (by kernel_rfl) (by decide) ?_
        conv => whnf
        refine .inl (f1.mono ?_)
        rintro r rfl
        conv => whnf
        refine .inl (f2.mono ?_)
        rintro r rfl
        conv => whnf
        refine ⟨163, rfl, ?_⟩
        conv => whnf
        refine .inr (.inl ⟨[], true, ?_⟩)
        conv => whnf
        refine hu3.mono ?_
        rintro o st' ⟨rfl, rfl⟩
        conv => whnf
        refine ⟨[], true, ?_⟩
        conv => whnf
        exact ⟨lz, rfl, by simp [lz, LT.Wf, LT.WfL], rfl, rfl⟩
      · have hu4 := hu4 x h6
        obtain ⟨nid, nk, nx, nks⟩ := node
        obtain ⟨xid, xk, xx, xks⟩ := x
        refine full_of_awp good Try.func27 rfl (by kernel_rfl) (by decide) ?_
        conv => whnf
        refine .inl (f1.mono ?_)
        rintro r rfl
        conv => whnf
        refine .inl (f2.mono ?_)
        rintro r rfl
        conv => whnf
        refine ⟨165, rfl, ?_⟩
        conv => whnf
        refine .inr (.inl ⟨[], true, ?_⟩)
        conv => whnf
        refine hu4.mono ?_
        rintro o st' ⟨rfl, rfl⟩
        conv => whnf
        refine ⟨[], true, ?_⟩
        conv => whnf
        exact ⟨lz, rfl, by simp [lz, LT.Wf, LT.WfL], rfl, rfl⟩
/-- .. just made. -/
def NewQ (r : Stp × Bool) (o : Out) (st' : St) : Prop := ∃ l : LT, l.erase = r.1.node ∧ l.Wf ∧ (l.ents.map labOf).Nodup ∧ o = .ret (.tup [.agg (stpC r.1 l), .bool r.2]) ∧ st' = [poolO l.ents]
theorem implStepBack_new (t : T) (s : Stp) (ht : t.Small) (hs : s.node.Small) (htx : s.text.length ≤ 1048576) : Full Try.prog noY 27 [.agg t.cells, .agg s.cells] [] (NewQ (backT t s)) := by
  refine (Full.givenEnd (Full.start (implStepBack_acc t s ht hs htx))).mono ?_
  rintro o st' ⟨⟨l, h1, h2, rfl, rfl⟩, hl⟩
  exact ⟨l, h1, h2, hl.nodup (k := 0) rfl, rfl, rfl⟩
theorem implStepBack_pure (t : T) (s : Stp) (ht : t.Small) (hs : s.node.Small) (htx : s.text.length ≤ 1048576) : Pure Try.prog 27 [.agg t.cells, .agg s.cells] (· = .tup [.agg (backT t s).1.cells, .bool (backT t s).2]) := by
  refine Full.freeze (implStepBack_new t s ht hs htx) ?_
  rintro o st' ⟨l, h1, h2, h3, rfl, rfl⟩
  have hv := viewL2 (y' := .bool (backT t s).2) (stp_view (backT t s).1 l h1 h2 (es := l.ents) (fun _ h => h)) (.same _)
  refine ⟨_, _, .tup [.agg (backT t s).1.cells, .bool (backT t s).2], rfl, rfl, .tup hv.1 hv.2, ?_, rfl⟩
  cases l with
  | mk id kind text h kids => rcases h with _ | ⟨b, c⟩ <;> rfl
end Go.Cod

namespace Go.Cod
open Go Go.Proofs Go.ChangeShapes Go.WideShapes Go.ChangeAt Go.RowKit
set_option maxRecDepth 10000

theorem drawStepBack_pure (bs : List UInt8) (hb : bs.length ≤ 1048576) : Pure Try.prog 38 [.sl (brows bs)] DrawRS := by
  have hd := drawStepDo_pure bs hb
  generalize brows bs = R at *
  refine pure_of_awp good Try.func38 rfl (by kernel_rfl) (by decide) ?_
  conv => whnf
  refine .inl (hd.mono ?_)
  rintro r ⟨t, s, s1, s2, d, rfl⟩
  obtain ⟨ti, tk, tx, tks⟩ := t
  obtain ⟨skind, sid, sat, ⟨ni, nk, nx, nks⟩, stext⟩ := s
  conv => whnf
  exact ⟨_, _, s1, s2, d, rfl⟩
set_option maxHeartbeats 8000000 in
theorem wcStep_refl (s : Stp) (hs : s.node.Small) : Pure Try.prog 40 [.agg s.cells, .agg s.cells] (· = .bool true) := by
  have f1 := wcTree_refl s.node hs
  simp only [Stp.cells]
  obtain ⟨kind, sid, at_, ⟨ni, nk, nx, nks⟩, text⟩ := s
  show Pure Try.prog _ [.agg [.int .i64 kind, .int .i64 sid, .int .i64 at_, .int .i64 ni, .str nk, .str nx, .sl (T.rows nks), .str text], .agg [.int .i64 kind, .int .i64 sid, .int .i64 at_, .int .i64 ni, .str nk, .str nx, .sl (T.rows nks), .str text]] _
  refine pure_of_awp good Try.func40 rfl (by kernel_rfl) (by decide) ?_
  conv => whnf
  rw [eqB_refl]
  conv => whnf
  rw [eqB_refl]
  conv => whnf
  rw [eqB_refl]
  conv => whnf
  rw [eqS_refl]
  conv => whnf
  refine .inl (f1.mono ?_)
  rintro r rfl
  conv => whnf
theorem back_step (t : T) (s : Stp) : (backT t s).2 = (stepT t s).2 := by
  unfold backT stepT
  cases okT t with
  | false => rfl
  | true =>
    simp only [if_true]
    cases doT t s <;> rfl
theorem backS_sm {t : T} (ht : t.Small) (s : Stp) : (backS t s).node.Small ∧ (backS t s).text.length ≤ 1048576 := by
  have hk := kidOf_small ht s.id
  have hz : (0 : Nat) ≤ 1048576 := by omega
  unfold backS
  generalize kidOf t s.id = x at *
  cases hk with
  | @mk id kind text kids g1 g2 g3 g4 g5 =>
  split
  · exact ⟨TZ_small, hz⟩
  split
  · exact ⟨.mk g1 g2 g3 g4 g5, hz⟩
  split
  · exact ⟨TZ_small, by simpa [T.text] using g3⟩
  · exact ⟨TZ_small, by simpa [T.kind] using g2⟩
theorem backT_sm {t : T} (ht : t.Small) (s : Stp) : (backT t s).1.node.Small ∧ (backT t s).1.text.length ≤ 1048576 := by
  have h0 : SZ.node.Small ∧ SZ.text.length ≤ 1048576 := ⟨TZ_small, by show (0 : Nat) ≤ _; omega⟩
  unfold backT
  split
  · cases doT t s with
    | none => exact h0
    | some y => exact backS_sm ht s
  · exact h0
/-- The step back undoes. -/
theorem back_undo {t y : T} {s : Stp} (hok : okT t = true) (hd : doT t s = some y) : doT y (backS t s) = some t := by
  by_cases k1 : s.kind = 1
  · exact back_put hok hd k1
  by_cases k2 : s.kind = 2
  · exact back_cut hok hd k2
  by_cases k3 : s.kind < 3
  · exfalso
    rcases back_facts hok hd with ⟨k, _⟩ | ⟨k, _⟩ | ⟨k, _⟩ | ⟨k, _⟩ <;> omega
  · exact back_set hok hd k3
theorem back_stepT {t y : T} {s : Stp} (h : stepT t s = (y, true)) : stepT y (backT t s).1 = (t, true) := by
  unfold stepT at h
  split at h
  · rename_i hok
    cases hd : doT t s with
    | none => rw [hd] at h; cases h
    | some z =>
      rw [hd] at h
      cases h
      have hb : (backT t s).1 = backS t s := by unfold backT; rw [if_pos hok, hd]
      unfold stepT
      rw [if_pos (doT_ok hd).2, hb, back_undo hok hd]
  · cases h
end Go.Cod

namespace Go.Cod
open Go Go.Proofs Go.ChangeShapes Go.WideShapes Go.ChangeAt Go.RowKit
set_option maxRecDepth 10000

theorem ownK : ownKnob Try.prog.godebug = none := by kernel_rfl
def byteOf : List V → UInt8
  | [.int _ i] => UInt8.ofNat i.toNat
  | _ => 0
theorem argBytes {H : Type} {enc : TypeId × Value → H} {W : World} : ReadsA enc Try.prog W 57 fun x => ∃ bs : List UInt8, x = .sl (brows bs) := by
  intro base v d p hv h
  obtain ⟨x, ⟨es, hx, _, hr⟩, hrep⟩ := readsA_slice (S := fun vs => ∃ es, vs = [.sl es] ∧ es.length ≤ maxLen ∧ ∀ r ∈ es, (∃ i, r = [.int .u8 i] ∧ IntKind.u8.min ≤ i ∧ i ≤ IntKind.u8.max) ∧ r.length = Try.prog.cellsOf 5 ∧ (∀ v ∈ r, v.leaf = true) ∧ V.clean.cleanL 0 r = true)
    Try.underlying57 (fun n => reads_slice Try.underlying57 (by decide +kernel) fun m _ => reads_int Try.underlying5) base v d p hv h
  cases hx
  refine ⟨_, ⟨es.map byteOf, ?_⟩, hrep⟩
  congr 1
  rw [brows, List.map_map]
  refine (List.map_id es).symm.trans (List.map_congr_left fun r hr' => ?_)
  obtain ⟨⟨i, rfl, h1, h2⟩, _⟩ := hr r hr'
  have h1 : 0 ≤ i := h1
  have h2 : i ≤ 255 := h2
  simp only [id_eq, Function.comp, byteOf, cellB]
  congr 2
  simp only [UInt8.toNat_ofNat']
  omega
end Go.Cod

namespace Go.Cod
open Go Go.Proofs Go.ChangeShapes Go.WideShapes Go.ChangeAt Go.RowKit
set_option maxRecDepth 10000

set_option maxHeartbeats 16000000 in
theorem law_fnStepBack (bs : List UInt8) : Pure Try.prog 8 [.sl (brows bs)] (· = .bool true) := by
  have hl := brows_len bs
  have hd := drawStepBack_pure bs
  refine pure_of_awp good Try.func8 rfl (by kernel_rfl) (by decide) ?_
  generalize brows bs = R at *
  conv => whnf
  by_cases a : 1048576 < R.length
  · rw [ltB_t (by omega)]
    conv => whnf
  rw [ltB_f (by omega)]
  conv => whnf
  refine .inl ((hd (by omega)).mono ?_)
  rintro r ⟨t, s, s1, s2, ⟨d1, d2, d3⟩, rfl⟩
  have i1 := implStepBack_pure t s s1 d1 (by omega)
  have i2 := specStepBack_pure t s s1 (by omega) d1 (by omega) (by omega)
  have i3 := implStepDo_pure t s s1 d1 (by omega)
  have hsm := stepT_small (t := t) (s := s) s1 (by omega) d1 (by omega)
  have hbm := backT_sm s1 s
  have wt := wcTree_refl t s1
  have hbs := back_step t s
  have hT := fun y => back_stepT (t := t) (y := y) (s := s)
  generalize stepT t s = yb at *
  generalize backT t s = bb at *
  obtain ⟨y, b⟩ := yb
  obtain ⟨u, b'⟩ := bb
  simp only at i1 i2 i3 hsm hbm hbs hT
  subst hbs
  have i4 := implStepDo_pure y u hsm.1 hbm.1 hbm.2
  have ws := wcStep_refl u hbm.1
  have hT := fun h => hT y h
  have heq : ∀ b : Bool, (!(b == b)) = false := by decide
  obtain ⟨skind, sid, sat, ⟨ni, nk, nx, nks⟩, stext⟩ := s
  obtain ⟨ukind, uid, uat, ⟨mi, mk, mx, mks⟩, utext⟩ := u
  obtain ⟨ti, tk, tx, tks⟩ := t
  obtain ⟨yi, yk, yx, yks⟩ := y
  conv => whnf
  refine .inl (i1.mono ?_)
  rintro r rfl
  conv => whnf
  refine .inl (i2.mono ?_)
  rintro r rfl
  conv => whnf
  refine .inl (i3.mono ?_)
  rintro r rfl
  conv => whnf
  rw [heq]
  conv => whnf
  rw [heq]
  conv => whnf
  refine .inl (ws.mono ?_)
  rintro r rfl
  conv => whnf
  cases b' with
  | false => conv => whnf
  | true =>
    rw [hT rfl] at i4
    conv => whnf
    refine .inl (i4.mono ?_)
    rintro r rfl
    conv => whnf
    refine .inl (wt.mono ?_)
    rintro r rfl
    conv => whnf
theorem lawFnStepBack (bs : List UInt8) : Pure Try.prog 8 [.sl (brows bs)] (· = .bool true) := law_fnStepBack bs
theorem conFnStepBack (H : Type) (enc : TypeId × Value → H) (W : World) (base : Nat) (args : Array Value) (ds gs : List (DataW H)) (before : List MemPlace)
    (hval : ∀ (j : Nat) t v, Try.f8.params[j]? = some t → args[j]? = some v → Value.okWide Try.prog W .any base t v)
    (hW : DataW.Whole enc Try.prog Try.f8.params.toList Ytpbomdlknkakgaa.Rows.fnStepBackSpec.vars false W args.toList ds gs before) {fresh handsOn again : Bool} :
    Calls Try.prog 8 args W fun e W' => ∃ v, e = .returned v ∧ Ytpbomdlknkakgaa.Rows.fnStepBackSpec.post enc Try.prog Try.f8 false fresh handsOn again W args v W' := by
  refine law_calls kids full (tb := 4) rfl Try.underlying4 (by decide +kernel) rfl hW (fun ds h => by match ds, h with | [_], _ => exact ⟨rfl, rfl, rfl⟩) hval
    (Ss := [fun x => ∃ bs : List UInt8, x = .sl (brows bs)]) laid0 ?_ ?_
  · rw [Try.params8]
    exact ⟨argBytes, trivial⟩
  · intro xs h
    obtain ⟨_, rfl, ⟨t0, rfl⟩⟩ := hold1 h
    exact lawFnStepBack t0

set_option maxRecDepth 100000 in
theorem overFnStepBack : Ytpbomdlknkakgaa.Rows.FnStepBackSaid :=
  OpenClaim.holds_of_wide 8 Try.f8 rfl rfl rfl rfl rfl rfl rfl ⟨rfl, rfl, rfl, rfl, rfl⟩ rfl rfl rfl rfl rfl (by kernel_rfl) Try.func8 (by kernel_rfl)
    (of_decide_eq_true (by kernel_rfl)) (by unfold Func.isWrapper; first | (rw [if_pos (by decide +kernel)]; kernel_rfl) | (rw [if_neg (by decide +kernel)]; exact ⟨rfl, rfl⟩))
    (fun os started H enc _ => returnsInHanded_of_change ownK started (by kernel_rfl) Try.func8
      (ChangeSpec.witness6 (enc := enc) (C := Try.checked) false ⟨#[], #[.slice none 0 0], []⟩ 8 (by kernel_rfl) (by kernel_rfl) (by kernel_rfl) (by kernel_rfl))
      (fun W base args ds gs before hval hW _ _ => conFnStepBack H enc W base args ds gs before hval hW))
end Go.Cod

