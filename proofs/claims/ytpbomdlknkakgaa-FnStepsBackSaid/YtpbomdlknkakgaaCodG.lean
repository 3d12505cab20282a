/- Own texts. -/
import Derived.WalkKit
import Derived.ProofKit
import Derived.Test.YtpbomdlknkakgaaCodF
namespace Go.Cod
open Go Go.Proofs
set_option maxRecDepth 10000

def lz : LT := .mk 0 [] [] none []
/- What undoes a deed. -/
theorem putUndo (sid at_ : Int) (node t : T) : Full Try.prog noY 152 [.agg ([.int .i64 sid, .int .i64 at_] ++ node.cells), .agg t.cells] [] fun o st' => o = .ret (.agg (stpC ⟨2, node.id, 0, TZ, []⟩ lz)) ∧ st' = [] := by
  obtain ⟨ni, nk, nx, nks⟩ := node
  obtain ⟨ti, tk, tx, tks⟩ := t
  show Full Try.prog noY _ [.agg [.int .i64 sid, .int .i64 at_, .int .i64 ni, .str nk, .str nx, .sl (T.rows nks)], .agg [.int .i64 ti, .str tk, .str tx, .sl (T.rows tks)]] _ _
  refine full_of_awp good Try.func152 rfl (by kernel_rfl) (by decide) ?_
  conv => whnf
  refine ⟨[], true, ?_⟩
  conv => whnf
  exact ⟨rfl, rfl⟩
set_option maxHeartbeats 4000000 in
theorem textUndo (sid : Int) (w : List UInt8) (t x : T) (ht : t.Small) (hf : fT t sid = some x) : Full Try.prog noY 163 [.agg [.int .i64 sid, .str w], .agg t.cells] [] fun o st' => o = .ret (.agg (stpC ⟨3, sid, 0, TZ, x.text⟩ lz)) ∧ st' = [] := by
  have f1 := treeIn_box t ht sid
  have hp : ptB t sid = if t.id = sid then .ptr 0 0 0 else .rptr x.cells := by unfold ptB; rw [hf]; rfl
  have hx : t.id = sid → t = x := fun h => by
    obtain ⟨a, b, c, d⟩ := t
    simp only [T.id] at h
    simp only [fT, if_pos h, Option.some.injEq] at hf
    exact hf
  generalize ptB t sid = pb at *
  obtain ⟨ti, tk, tx, tks⟩ := t
  obtain ⟨xi, xk, xx, xks⟩ := x
  refine full_of_awp good Try.func163 rfl (by kernel_rfl) (by decide) ?_
  by_cases hid : ti = sid
  case' pos =>
    rw [if_pos (show (T.mk ti tk tx tks).id = sid from hid)] at hp
    cases hx hid
  case' neg => rw [if_neg (show ¬ (T.mk ti tk tx tks).id = sid from hid)] at hp
  all_goals
    subst hp
    conv => whnf
    refine ⟨[1], false, ?_⟩
    conv => whnf
    refine f1.mono ?_
    rintro o st' ⟨rfl, rfl⟩
    conv => whnf
    repeat (refine And.intro (by
              (conv => whnf)
              rfl) ?_
            conv => whnf)
    refine ⟨[], true, ?_⟩
    conv => whnf
    exact ⟨rfl, rfl⟩
set_option maxHeartbeats 4000000 in
theorem kindUndo (sid : Int) (w : List UInt8) (t x : T) (ht : t.Small) (hf : fT t sid = some x) : Full Try.prog noY 165 [.agg [.int .i64 sid, .str w], .agg t.cells] [] fun o st' => o = .ret (.agg (stpC ⟨4, sid, 0, TZ, x.kind⟩ lz)) ∧ st' = [] := by
  have f1 := treeIn_box t ht sid
  have hp : ptB t sid = if t.id = sid then .ptr 0 0 0 else .rptr x.cells := by unfold ptB; rw [hf]; rfl
  have hx : t.id = sid → t = x := fun h => by
    obtain ⟨a, b, c, d⟩ := t
    simp only [T.id] at h
    simp only [fT, if_pos h, Option.some.injEq] at hf
    exact hf
  generalize ptB t sid = pb at *
  obtain ⟨ti, tk, tx, tks⟩ := t
  obtain ⟨xi, xk, xx, xks⟩ := x
  refine full_of_awp good Try.func165 rfl (by kernel_rfl) (by decide) ?_
  by_cases hid : ti = sid
  case' pos =>
    rw [if_pos (show (T.mk ti tk tx tks).id = sid from hid)] at hp
    cases hx hid
  case' neg => rw [if_neg (show ¬ (T.mk ti tk tx tks).id = sid from hid)] at hp
  all_goals
    subst hp
    conv => whnf
    refine ⟨[1], false, ?_⟩
    conv => whnf
    refine f1.mono ?_
    rintro o st' ⟨rfl, rfl⟩
    conv => whnf
    repeat (refine And.intro (by
              (conv => whnf)
              rfl) ?_
            conv => whnf)
    refine ⟨[], true, ?_⟩
    conv => whnf
    exact ⟨rfl, rfl⟩
set_option maxHeartbeats 8000000 in
theorem cutUndo (sid : Int) (t ps x : T) (ht : t.Small) (hz : ps.kids.length ≤ 1048576) (hxs : x.Small) (ov j : Int) (ho : treeOver t sid = ov) (hp : fT t ov = some ps) (hj : placeGo sid 0 ps.kids = j) (hf : fT t sid = some x) (hne : t.id ≠ sid) (es : List (List V)) :
    Full Try.prog noY 159 [.agg [.int .i64 sid], .agg t.cells] [poolO es] fun o st' => ∃ l : LT, l.erase = x ∧ l.Wf ∧ o = .ret (.agg (stpC ⟨1, ov, j, x, []⟩ l)) ∧ st' = [poolO (es ++ l.ents)] := by
  have f0 := implTreeOver_pure t ht sid
  have f1 := treeIn_box t ht ov
  have f2 := treeIn_box t ht sid
  have f3 := treePlace_pure ps sid hz
  have f4 := treeCopy_acc x hxs es
  rw [ho] at f0
  rw [hj] at f3
  have h2 : ptB t sid = .rptr x.cells := by unfold ptB; rw [hf, if_neg hne]; rfl
  rw [h2] at f2
  have h1 : ptB t ov = if t.id = ov then .ptr 0 0 0 else .rptr ps.cells := by unfold ptB; rw [hp]; rfl
  have hx : t.id = ov → t = ps := fun h => by
    obtain ⟨a, b, c, d⟩ := t
    simp only [T.id] at h
    simp only [fT, if_pos h, Option.some.injEq] at hp
    exact hp
  clear hz ho hp hj hf
  generalize ptB t ov = pb at *
  obtain ⟨ti, tk, tx, tks⟩ := t
  obtain ⟨pi, pk, px, pks⟩ := ps
  obtain ⟨xi, xk, xx, xks⟩ := x
  refine full_of_awp good Try.func159 rfl (by kernel_rfl) (by decide) ?_
  by_cases hid : ti = ov
  case' pos =>
    rw [if_pos (show (T.mk ti tk tx tks).id = ov from hid)] at h1
    cases hx hid
  case' neg => rw [if_neg (show ¬ (T.mk ti tk tx tks).id = ov from hid)] at h1
  all_goals
    subst h1
    conv => whnf
    refine .inl (f0.mono ?_)
    rintro r rfl
    conv => whnf
    refine ⟨[2], false, ?_⟩
    conv => whnf
    refine f1.mono ?_
    rintro o st' ⟨rfl, rfl⟩
    conv => whnf
    repeat (refine And.intro (by
              (conv => whnf)
              rfl) ?_
            conv => whnf)
    refine .inl (f3.mono ?_)
    rintro r rfl
    conv => whnf
    repeat (refine And.intro (by
              (conv => whnf)
              rfl) ?_
            conv => whnf)
    refine ⟨[2], false, ?_⟩
    conv => whnf
    refine f2.mono ?_
    rintro o st' ⟨rfl, rfl⟩
    conv => whnf
    repeat (refine And.intro (by
              (conv => whnf)
              rfl) ?_
            conv => whnf)
    refine .inr (.inl ⟨[0], true, ?_⟩)
    conv => whnf
    refine f4.mono ?_
    rintro o st' ⟨l, l1, l2, rfl, rfl⟩
    obtain ⟨li, lk, lx, lh, lks⟩ := l
    rcases lh with _ | ⟨lb, lc⟩
    all_goals
      conv => whnf
      refine ⟨[], true, ?_⟩
      conv => whnf
      exact ⟨_, l1, l2, rfl, rfl⟩
end Go.Cod

namespace Go.Cod
open Go Go.Proofs
set_option maxRecDepth 10000

/-- What is known of a step that can be done, and of what undoes it. -/
theorem back_facts {t y : T} {s : Stp} (hok : okT t = true) (hd : doT t s = some y) :
    (s.kind = 1 ∧ backS t s = ⟨2, s.node.id, 0, TZ, []⟩) ∨
    (s.kind = 2 ∧ ∃ (ps x : T) (ov j : Int), treeOver t s.id = ov ∧ fT t ov = some ps ∧ placeGo s.id 0 ps.kids = j ∧ fT t s.id = some x ∧ t.id ≠ s.id ∧ backS t s = ⟨1, ov, j, x, []⟩) ∨
    (s.kind = 3 ∧ ∃ x, fT t s.id = some x ∧ backS t s = ⟨3, s.id, 0, TZ, x.text⟩) ∨
    (s.kind = 4 ∧ ∃ x, fT t s.id = some x ∧ backS t s = ⟨4, s.id, 0, TZ, x.kind⟩) := by
  obtain ⟨h1, h2⟩ := doT_ok hd
  obtain ⟨p1, p2, p3⟩ := (okT_iff' t).1 hok
  unfold editT at h1
  cases hf : fT t s.id with
  | none => rw [hf] at h1; cases h1
  | some x =>
    rw [hf] at h1
    simp only at h1
    have hkx : kidOf t s.id = x := by unfold kidOf; rw [hf]; rfl
    by_cases k1 : s.kind = 1
    · exact .inl ⟨k1, by unfold backS; rw [if_pos k1]⟩
    refine .inr ?_
    rw [if_neg k1] at h1
    by_cases k2 : s.kind = 2
    · refine .inl ⟨k2, ?_⟩
      rw [if_pos k2] at h1
      split at h1
      · cases h1
      split at h1
      · cases h1
      rename_i hne
      have hp : ∀ i ∈ t.ids, 0 ≤ i := plainT_ids t 1 p1
      have hm : s.id ∈ t.ids := mem_of_fT hf
      have hmk : s.id ∈ T.idsL t.kids := by
        cases t with
        | mk id kind text kids =>
        simp only [T.ids, List.mem_cons] at hm
        exact hm.resolve_left hne
      obtain ⟨_, ps, k, e2, e3, e4⟩ := overT_kid t s.id 0 p2 hp hmk
      have hov : treeOver t s.id = overT t s.id 0 := by
        unfold treeOver spotOf
        rw [if_pos hok, (overT_eq t s.id 0 1 (by omega) hp).1]
      have e6 : s.id ∈ ps.kids.map T.id := List.mem_map.2 ⟨k, e3, e4⟩
      obtain ⟨j, _, j2⟩ := placeGo_in s.id ps.kids 0 e6
      have hkp : kidOf t (overT t s.id 0) = ps := by unfold kidOf; rw [e2]; rfl
      refine ⟨ps, x, _, _, hov, e2, rfl, rfl, fun h => hne h.symm, ?_⟩
      unfold backS
      rw [if_neg k1, if_pos k2, hkp, hkx]
      unfold place0
      rw [if_neg (by omega)]
    refine .inr ?_
    rw [if_neg k2] at h1
    by_cases k3 : s.kind = 3
    · exact .inl ⟨k3, x, rfl, by unfold backS; rw [if_neg k1, if_neg k2, if_pos k3, hkx]⟩
    rw [if_neg k3] at h1
    by_cases k4 : s.kind = 4
    · exact .inr ⟨k4, x, rfl, by unfold backS; rw [if_neg k1, if_neg k2, if_neg k3, hkx]⟩
    rw [if_neg k4] at h1
    split at h1 <;> cases h1
/-- A step whose tree is in a pool, and whether it is one. -/
def BackR (r : Stp × Bool) (o : Out) (st' : St) : Prop := ∃ l : LT, l.erase = r.1.node ∧ l.Wf ∧ o = .ret (.tup [.agg (stpC r.1 l), .bool r.2]) ∧ st' = [poolO l.ents]
set_option maxHeartbeats 8000000 in
theorem implStepBack_acc (t : T) (s : Stp) (ht : t.Small) (hs : s.node.Small) (htx : s.text.length ≤ 1048576) : Full Try.prog noY 27 [.agg t.cells, .agg s.cells] [poolO []] (BackR (backT t s)) := by
  have f1 := implStepDo_pure t s ht hs htx
  have f2 := stepDeedOf_pure s hs
  have hb : backT t s = if okT t = true then (match doT t s with
    | some _ => (backS t s, true)
    | none => (SZ, false)) else (SZ, false) := rfl
  have hst : stepT t s = if okT t = true then (match doT t s with
    | some y => (y, true)
    | none => (t, false)) else (TZ, false) := rfl
  have hF := fun y h1 h2 => back_facts (t := t) (y := y) (s := s) h1 h2
  have hu1 := fun sid at_ => putUndo sid at_ s.node t
  have hu2 := cutUndo s.id t
  have hu3 := fun x h => textUndo s.id s.text t x ht h
  have hu4 := fun x h => kindUndo s.id s.text t x ht h
  have hsm := fun x h => fT_small t x ht h
  have hkl : ∀ ps : T, ps.Small → ps.kids.length ≤ 1048576 := fun ps h => by cases h with | mk g1 g2 g3 g4 g5 => exact g4
  generalize hdk : deedOk s = dk at *
  generalize hdv : deedV s = dv at *
  unfold deedV at hdv
  generalize backT t s = bk at *
  generalize stepT t s = sd at *
  generalize hbs : backS t s = bs at *
  generalize okT t = okt at *
  generalize doT t s = d at *
  simp only [Stp.cells] at f1 f2 ⊢
  obtain ⟨kind, sid, at_, node, text⟩ := s
  simp only at f1 f2 hF hu1 hu2 hu3 hu4 hdv ⊢
  have hk : ∀ y, okt = true → d = some y → (kind = 1 ∧ bs = ⟨2, node.id, 0, TZ, []⟩ ∧ dv = .iface 118 (.agg ([.int .i64 sid, .int .i64 at_] ++ node.cells))) ∨ (kind = 2 ∧ ∃ (ps x : T) (ov j : Int), treeOver t sid = ov ∧ fT t ov = some ps ∧ placeGo sid 0 ps.kids = j ∧ fT t sid = some x ∧ t.id ≠ sid ∧ bs = ⟨1, ov, j, x, []⟩ ∧ dv = .iface 120 (.agg [.int .i64 sid])) ∨
      (kind = 3 ∧ ∃ x, fT t sid = some x ∧ bs = ⟨3, sid, 0, TZ, x.text⟩ ∧ dv = .iface 122 (.agg [.int .i64 sid, .str text])) ∨ (kind = 4 ∧ ∃ x, fT t sid = some x ∧ bs = ⟨4, sid, 0, TZ, x.kind⟩ ∧ dv = .iface 124 (.agg [.int .i64 sid, .str text])) := fun y h1 h2 => by
    rcases hF y h1 h2 with ⟨k, h⟩ | ⟨k, ps, x, ov, j, h3, h4, h5, h6, h7, h⟩ | ⟨k, x, h6, h⟩ | ⟨k, x, h6, h⟩
    · exact .inl ⟨k, h, by rw [← hdv, if_pos k]⟩
    · exact .inr (.inl ⟨k, ps, x, ov, j, h3, h4, h5, h6, h7, h, by rw [← hdv, if_neg (by omega), if_pos k]⟩)
    · exact .inr (.inr (.inl ⟨k, x, h6, h, by rw [← hdv, if_neg (by omega), if_neg (by omega), if_pos k]⟩))
    · exact .inr (.inr (.inr ⟨k, x, h6, h, by rw [← hdv, if_neg (by omega), if_neg (by omega), if_neg (by omega), if_pos k]⟩))
  clear hF hdv
  have hnt : ∀ (a : T), a = t → t = a := fun a h => h.symm
  obtain ⟨tid, tk, tx, tks⟩ := t
  cases okt with
  | false =>
    rw [if_neg (by simp)] at hb hst
    subst hb hst
    obtain ⟨nid, nk, nx, nks⟩ := node
    refine full_of_awp good Try.func27 rfl (by kernel_rfl) (by decide) ?_
    conv => whnf
    refine .inl (f1.mono ?_)
    rintro r rfl
    conv => whnf
    refine ⟨[], true, ?_⟩
    conv => whnf
    exact ⟨lz, rfl, by simp [lz, LT.Wf, LT.WfL], rfl, rfl⟩
  | true =>
    rw [if_pos rfl] at hb hst
    cases hdd : d with
    | none =>
      rw [hdd] at hb hst
      simp only at hb hst
      subst hb hst
      obtain ⟨nid, nk, nx, nks⟩ := node
      refine full_of_awp good Try.func27 rfl (by kernel_rfl) (by decide) ?_
      conv => whnf
      refine .inl (f1.mono ?_)
      rintro r rfl
      conv => whnf
      refine ⟨[], true, ?_⟩
      conv => whnf
      exact ⟨lz, rfl, by simp [lz, LT.Wf, LT.WfL], rfl, rfl⟩
    | some y =>
      rw [hdd] at hb hst
      simp only at hb hst
      subst hb hst
      have hk := hk y rfl hdd
      obtain ⟨yid, yk, yx, yks⟩ := y
      rcases hk with ⟨k, rfl, rfl⟩ | ⟨k, ps, x, ov, j, h3, h4, h5, h6, h7, rfl, rfl⟩ | ⟨k, x, h6, rfl, rfl⟩ | ⟨k, x, h6, rfl, rfl⟩
      · have hu1 := hu1 sid at_
        obtain ⟨nid, nk, nx, nks⟩ := node
        refine full_of_awp good Try.func27 rfl (by kernel_rfl) (by decide) ?_
        conv => whnf
        refine .inl (f1.mono ?_)
        rintro r rfl
        conv => whnf
        refine .inl (f2.mono ?_)
        rintro r rfl
        conv => whnf
        refine ⟨152, rfl, ?_⟩
        conv => whnf
        refine .inr (.inl ⟨[], true, ?_⟩)
        conv => whnf
        refine hu1.mono ?_
        rintro o st' ⟨rfl, rfl⟩
        conv => whnf
        refine ⟨[], true, ?_⟩
        conv => whnf
        exact ⟨lz, rfl, by simp [lz, LT.Wf, LT.WfL], rfl, rfl⟩
      · have hu2 := hu2 ps x ht (hkl ps (hsm _ _ h4)) (hsm _ _ h6) ov j h3 h4 h5 h6 h7 []
        clear h3 h4 h5 h6 h7
        obtain ⟨nid, nk, nx, nks⟩ := node
        obtain ⟨xid, xk, xx, xks⟩ := x
        refine full_of_awp good Try.func27 rfl (by kernel_rfl) (by decide) ?_
        conv => whnf
        refine .inl (f1.mono ?_)
        rintro r rfl
        conv => whnf
        refine .inl (f2.mono ?_)
        rintro r rfl
        conv => whnf
        refine ⟨159, rfl, ?_⟩
        conv => whnf
        refine .inr (.inl ⟨[0], true, ?_⟩)
        conv => whnf
        refine hu2.mono ?_
        rintro o st' ⟨l, l1, l2, rfl, rfl⟩
        obtain ⟨li, lk, lx, lh, lks⟩ := l
        rcases lh with _ | ⟨lb, lc⟩
        all_goals
          conv => whnf
          refine ⟨[], true, ?_⟩
          conv => whnf
          exact ⟨_, l1, l2, rfl, rfl⟩
      · have hu3 := hu3 x h6
        obtain ⟨nid, nk, nx, nks⟩ := node
        obtain ⟨xid, xk, xx, xks⟩ := x
        refine full_of_awp good Try.func27 rfl (by kernel_rfl) (by decide) ?_
        conv => whnf
        refine .inl (f1.mono ?_)
        rintro r rfl
        conv => whnf
        refine .inl (f2.mono ?_)
        rintro r rfl
        conv => whnf
        refine ⟨163, rfl, ?_⟩
        conv => whnf
        refine .inr (.inl ⟨[], true, ?_⟩)
        conv => whnf
        refine hu3.mono ?_
        rintro o st' ⟨rfl, rfl⟩
        conv => whnf
        refine ⟨[], true, ?_⟩
        conv => whnf
        exact ⟨lz, rfl, by simp [lz, LT.Wf, LT.WfL], rfl, rfl⟩
      · have hu4 := hu4 x h6
        obtain ⟨nid, nk, nx, nks⟩ := node
        obtain ⟨xid, xk, xx, xks⟩ := x
        refine full_of_awp good Try.func27 rfl (by kernel_rfl) (by decide) ?_
        conv => whnf
        refine .inl (f1.mono ?_)
        rintro r rfl
        conv => whnf
        refine .inl (f2.mono ?_)
        rintro r rfl
        conv => whnf
        refine ⟨165, rfl, ?_⟩
        conv => whnf
        refine .inr (.inl ⟨[], true, ?_⟩)
        conv => whnf
        refine hu4.mono ?_
        rintro o st' ⟨rfl, rfl⟩
        conv => whnf
        refine ⟨[], true, ?_⟩
        conv => whnf
        exact ⟨lz, rfl, by simp [lz, LT.Wf, LT.WfL], rfl, rfl⟩
/-- .. just made. -/
def NewQ (r : Stp × Bool) (o : Out) (st' : St) : Prop := ∃ l : LT, l.erase = r.1.node ∧ l.Wf ∧ (l.ents.map labOf).Nodup ∧ o = .ret (.tup [.agg (stpC r.1 l), .bool r.2]) ∧ st' = [poolO l.ents]
theorem implStepBack_new (t : T) (s : Stp) (ht : t.Small) (hs : s.node.Small) (htx : s.text.length ≤ 1048576) : Full Try.prog noY 27 [.agg t.cells, .agg s.cells] [] (NewQ (backT t s)) := by
  refine (Full.givenEnd (Full.start (implStepBack_acc t s ht hs htx))).mono ?_
  rintro o st' ⟨⟨l, h1, h2, rfl, rfl⟩, hl⟩
  exact ⟨l, h1, h2, hl.nodup (k := 0) rfl, rfl, rfl⟩
theorem implStepBack_pure (t : T) (s : Stp) (ht : t.Small) (hs : s.node.Small) (htx : s.text.length ≤ 1048576) : Pure Try.prog 27 [.agg t.cells, .agg s.cells] (· = .tup [.agg (backT t s).1.cells, .bool (backT t s).2]) := by
  refine Full.freeze (implStepBack_new t s ht hs htx) ?_
  rintro o st' ⟨l, h1, h2, h3, rfl, rfl⟩
  have hv := viewL2 (y' := .bool (backT t s).2) (stp_view (backT t s).1 l h1 h2 (es := l.ents) (fun _ h => h)) (.same _)
  refine ⟨_, _, .tup [.agg (backT t s).1.cells, .bool (backT t s).2], rfl, rfl, .tup hv.1 hv.2, ?_, rfl⟩
  cases l with
  | mk id kind text h kids => rcases h with _ | ⟨b, c⟩ <;> rfl
end Go.Cod

namespace Go.Cod
open Go Go.Proofs Go.ChangeShapes Go.WideShapes Go.ChangeAt Go.RowKit
set_option maxRecDepth 10000

set_option maxHeartbeats 8000000 in
theorem wcStep_refl (s : Stp) (hs : s.node.Small) : Pure Try.prog 40 [.agg s.cells, .agg s.cells] (· = .bool true) := by
  have f1 := wcTree_refl s.node hs
  simp only [Stp.cells]
  obtain ⟨kind, sid, at_, ⟨ni, nk, nx, nks⟩, text⟩ := s
  show Pure Try.prog _ [.agg [.int .i64 kind, .int .i64 sid, .int .i64 at_, .int .i64 ni, .str nk, .str nx, .sl (T.rows nks), .str text], .agg [.int .i64 kind, .int .i64 sid, .int .i64 at_, .int .i64 ni, .str nk, .str nx, .sl (T.rows nks), .str text]] _
  refine pure_of_awp good Try.func40 rfl (by kernel_rfl) (by decide) ?_
  conv => whnf
  rw [eqB_refl]
  conv => whnf
  rw [eqB_refl]
  conv => whnf
  rw [eqB_refl]
  conv => whnf
  rw [eqS_refl]
  conv => whnf
  refine .inl (f1.mono ?_)
  rintro r rfl
  conv => whnf
theorem backS_sm {t : T} (ht : t.Small) (s : Stp) : (backS t s).node.Small ∧ (backS t s).text.length ≤ 1048576 := by
  have hk := kidOf_small ht s.id
  have hz : (0 : Nat) ≤ 1048576 := by omega
  unfold backS
  generalize kidOf t s.id = x at *
  cases hk with
  | @mk id kind text kids g1 g2 g3 g4 g5 =>
  split
  · exact ⟨TZ_small, hz⟩
  split
  · exact ⟨.mk g1 g2 g3 g4 g5, hz⟩
  split
  · exact ⟨TZ_small, by simpa [T.text] using g3⟩
  · exact ⟨TZ_small, by simpa [T.kind] using g2⟩
/-- The step back undoes. -/
theorem back_undo {t y : T} {s : Stp} (hok : okT t = true) (hd : doT t s = some y) : doT y (backS t s) = some t := by
  by_cases k1 : s.kind = 1
  · exact back_put hok hd k1
  by_cases k2 : s.kind = 2
  · exact back_cut hok hd k2
  by_cases k3 : s.kind < 3
  · exfalso
    rcases back_facts hok hd with ⟨k, _⟩ | ⟨k, _⟩ | ⟨k, _⟩ | ⟨k, _⟩ <;> omega
  · exact back_set hok hd k3
end Go.Cod

namespace Go.Cod
open Go Go.Proofs
set_option maxRecDepth 10000

/- A drawn tree is even: where a number stands twice, the later ones bear as many kids as the first. -/
def T.Even (t : T) : Prop := ∀ (x : Int) (s : T) (n : Nat), fT t x = some s → n ≤ s.kids.length → t.PutOk x n
def EvenL (ts : List T) : Prop := ∀ (x : Int) (s : T) (n : Nat), fL ts x = some s → n ≤ s.kids.length → T.PutOkL x n ts
theorem even_nodup {t : T} (hn : t.ids.Nodup) : t.Even := fun x s n h1 h2 => putOk_found x n t s hn h1 h2
theorem evenL_nodup {ts : List T} (hn : (T.idsL ts).Nodup) : EvenL ts := fun x s n h1 h2 => putOkL_found x n ts s hn h1 h2
theorem even_mk {id : Int} {kind text : List UInt8} {kids : List T} (h : ∀ (x : Int) (s : T) (n : Nat), x ≠ id → fL kids x = some s → n ≤ s.kids.length → T.PutOkL x n kids) : (T.mk id kind text kids).Even := by
  intro x s n h1 h2
  simp only [fT] at h1
  simp only [T.PutOk]
  by_cases e : id = x
  · rw [if_pos e] at h1 ⊢
    cases h1
    exact h2
  · rw [if_neg e] at h1 ⊢
    exact h x s n (Ne.symm e) h1 h2
theorem fL_append (a b : List T) (x : Int) : fL (a ++ b) x = match fL a x with
    | some s => some s
    | none => fL b x := by
  induction a with
  | nil => rfl
  | cons t a ih =>
    simp only [List.cons_append, fL, ih]
    cases fT t x <;> rfl
theorem putOkL_append {x : Int} {n : Nat} {a b : List T} (ha : T.PutOkL x n a) (hb : T.PutOkL x n b) : T.PutOkL x n (a ++ b) := by
  induction a with
  | nil => exact hb
  | cons t a ih => exact ⟨ha.1, ih ha.2⟩
/-- What spoiling adds to the numbers. -/
def Spec (i : Int) : Prop := i < 2 ∨ 20 ≤ i
theorem wide_ids : ∀ i : Nat, ∀ x ∈ T.idsL (wideN i), 600 ≤ x
  | 0, x, h => by simp [wideN, T.idsL] at h
  | i + 1, x, h => by
    rw [wideN, idsL_snoc] at h
    rcases List.mem_append.1 h with h | h
    · exact wide_ids i x h
    · simp [T.ids, T.idsL] at h; omega
theorem deep_ids (t : T) : ∀ i : Nat, ∀ x ∈ (deepN t i).ids, x ∈ t.ids ∨ 500 ≤ x
  | 0, x, h => .inl h
  | i + 1, x, h => by
    simp only [deepN, T.ids, T.idsL, List.mem_cons, List.append_nil] at h
    rcases h with h | h
    · right; omega
    · exact deep_ids t i x h
theorem spoil_ids {t t' : T} (h : SpoilOf t t') : ∀ x ∈ t'.ids, x ∈ t.ids ∨ Spec x := by
  induction h with
  | @kid id kind text kids i hi t' hs ih =>
    intro x hx
    simp only [T.ids, List.mem_cons] at hx ⊢
    rcases hx with hx | hx
    · exact .inl (.inl hx)
    · have : ∀ (ks : List T) (j : Nat) (hj : j < ks.length), (∀ y ∈ t'.ids, y ∈ ks[j].ids ∨ Spec y) → ∀ y ∈ T.idsL (ks.set j t'), y ∈ T.idsL ks ∨ Spec y := by
        intro ks
        induction ks with
        | nil => intro j hj; simp at hj
        | cons k ks ihk =>
          intro j hj hh y hy
          cases j with
          | zero =>
            simp only [List.set_cons_zero, T.idsL, List.mem_append] at hy ⊢
            rcases hy with hy | hy
            · exact (hh y hy).imp .inl _root_.id
            · exact .inl (.inr hy)
          | succ j =>
            simp only [List.set_cons_succ, T.idsL, List.mem_append] at hy ⊢
            rcases hy with hy | hy
            · exact .inl (.inl hy)
            · exact (ihk j (by simpa using hj) hh y hy).imp .inr _root_.id
      exact (this kids i hi ih x hx).imp .inr _root_.id
  | id z hz =>
    intro x hx
    simp only [T.ids, List.mem_cons] at hx ⊢
    rcases hx with rfl | hx
    · right; unfold Spec; omega
    · exact .inl (.inr hx)
  | word k' x' => exact fun x hx => .inl hx
  | @twice id kind text kids =>
    intro x hx
    simp only [T.ids, idsL_snoc, List.mem_cons, List.mem_append] at hx ⊢
    rcases hx with hx | hx | hx | hx
    · exact .inl (.inl hx)
    · exact .inl (.inr hx)
    · exact .inl (.inl hx)
    · exact .inl (.inr hx)
  | @deep t =>
    intro x hx
    rcases deep_ids t 6 x hx with h | h
    · exact .inl h
    · right; unfold Spec; omega
  | @wide id kind text kids =>
    intro x hx
    simp only [T.ids, T.idsL_append, List.mem_cons, List.mem_append] at hx ⊢
    rcases hx with hx | hx | hx
    · exact .inl (.inl hx)
    · exact .inl (.inr hx)
    · have := wide_ids 20 x hx
      right; unfold Spec; omega
theorem wide_put (x : Int) : ∀ (i : Nat) (n : Nat), n ≤ 0 → T.PutOkL x n (wideN i)
  | 0, _, _ => trivial
  | i + 1, n, h => by
    rw [wideN]
    refine putOkL_append (wide_put x i n h) ⟨?_, trivial⟩
    simp only [T.PutOk]
    split
    · omega
    · trivial
theorem wide_kids : ∀ (i : Nat) (x : Int) (s : T), fL (wideN i) x = some s → s.kids = []
  | 0, x, s, h => by simp [wideN, fL] at h
  | i + 1, x, s, h => by
    rw [wideN, fL_append] at h
    cases h1 : fL (wideN i) x with
    | some s' =>
      rw [h1] at h
      cases h
      exact wide_kids i x s h1
    | none =>
      rw [h1] at h
      simp only [fL, fT] at h
      split at h
      · rename_i s' h2
        split at h2
        · cases h2; cases h; rfl
        · cases h2
      · cases h
theorem deep_even (t : T) (ht : t.Even) (hl : ∀ x ∈ t.ids, x < 500) : ∀ i : Nat, (deepN t i).Even
  | 0 => ht
  | i + 1 => by
    refine even_mk fun x s n hne h1 h2 => ?_
    simp only [fL] at h1
    have : fT (deepN t i) x = some s := by
      cases h3 : fT (deepN t i) x with
      | some s' => rw [h3] at h1; exact h1
      | none => rw [h3] at h1; cases h1
    exact ⟨deep_even t ht hl i x s n this h2, trivial⟩
theorem idsL_get : ∀ (l : List T) (i : Nat) (hi : i < l.length), (T.idsL l).Nodup → l[i].ids.Nodup ∧ ∀ y ∈ l[i].ids, y ∈ T.idsL l
  | [], i, hi, _ => by simp at hi
  | t :: l, 0, _, hn => by
    simp only [T.idsL, List.nodup_append] at hn
    exact ⟨hn.1, fun y hy => by simp only [T.idsL, List.mem_append]; exact .inl hy⟩
  | t :: l, i + 1, hi, hn => by
    simp only [T.idsL, List.nodup_append] at hn
    have := idsL_get l i (by simpa using hi) hn.2.1
    exact ⟨this.1, fun y hy => by simp only [T.idsL, List.mem_append]; exact .inr (this.2 y hy)⟩
theorem kids_ids {t : T} {x : Int} (h : x ∈ T.idsL t.kids) : x ∈ t.ids := by
  cases t
  simp only [T.ids, List.mem_cons]
  exact .inr h
theorem id_ids (t : T) : t.id ∈ t.ids := by
  cases t
  simp only [T.ids, List.mem_cons]
  exact .inl rfl
theorem spoil_even {t t' : T} (h : SpoilOf t t') : t.ids.Nodup → (∀ x ∈ T.idsL t.kids, 2 ≤ x ∧ x < 20) → t.id < 500 → t'.Even := by
  induction h with
  | @kid id kind text kids i hi t' hs ih =>
    intro hn hr2 _
    have hids := spoil_ids hs
    simp only [T.ids, List.nodup_cons] at hn
    have hg := idsL_get kids i hi hn.2
    have hr3 : ∀ x ∈ T.idsL kids, 2 ≤ x ∧ x < 20 := hr2
    have he := ih hg.1 (fun x h => hr3 x (hg.2 x (kids_ids h))) (by have := hr3 _ (hg.2 _ (id_ids kids[i])); omega)
    refine even_mk fun x s n hne => ?_
    have key : ∀ (ks : List T) (j : Nat) (hj : j < ks.length), (T.idsL ks).Nodup → (∀ y ∈ t'.ids, y ∈ ks[j].ids ∨ Spec y) → t'.Even → (∀ y ∈ T.idsL ks, y = x → ¬ Spec x ∨ x ∉ t'.ids ∨ y ∈ ks[j].ids) →
        fL (ks.set j t') x = some s → n ≤ s.kids.length → T.PutOkL x n (ks.set j t') := by
      intro ks
      induction ks with
      | nil => intro j hj; simp at hj
      | cons k ks ihk =>
        intro j hj hkn hh he hs1 h1 h2
        simp only [T.idsL, List.nodup_append] at hkn
        cases j with
        | zero =>
          simp only [List.set_cons_zero, fL] at h1 ⊢
          simp only [List.getElem_cons_zero] at hh hs1
          cases h3 : fT t' x with
          | some s' =>
            rw [h3] at h1
            cases h1
            have hx : x ∈ t'.ids := Decidable.byContradiction fun hc => by rw [(fT_none t' x).2 hc] at h3; cases h3
            refine ⟨he x s n h3 h2, putOkL_none x n ks fun hks => ?_⟩
            rcases hh x hx with h | h
            · exact hkn.2.2 x h x hks rfl
            · rcases hs1 x (by simp [T.idsL, hks]) rfl with h4 | h4 | h4
              · exact h4 h
              · exact h4 hx
              · exact hkn.2.2 x h4 x hks rfl
          | none =>
            rw [h3] at h1
            exact ⟨putOk_none x n t' ((fT_none t' x).1 h3), evenL_nodup hkn.2.1 x s n h1 h2⟩
        | succ j =>
          simp only [List.set_cons_succ, fL] at h1 ⊢
          simp only [List.getElem_cons_succ] at hh hs1
          have hj' : j < ks.length := by simpa using hj
          have hkj : ∀ y ∈ ks[j].ids, y ∈ T.idsL ks := by
            intro y hy
            have : ∀ (l : List T) (i : Nat) (hi : i < l.length), y ∈ l[i].ids → y ∈ T.idsL l := by
              intro l
              induction l with
              | nil => intro i hi; simp at hi
              | cons a l ihl =>
                intro i hi h
                simp only [T.idsL, List.mem_append]
                cases i with
                | zero => exact .inl h
                | succ i => exact .inr (ihl i (by simpa using hi) h)
            exact this ks j hj' hy
          cases h3 : fT k x with
          | some s' =>
            rw [h3] at h1
            cases h1
            have hx : x ∈ k.ids := Decidable.byContradiction fun hc => by rw [(fT_none k x).2 hc] at h3; cases h3
            refine ⟨putOk_found x n k s hkn.1 h3 h2, putOkL_none x n _ fun hks => ?_⟩
            have hxk : x ∉ T.idsL ks := fun h => hkn.2.2 x hx x h rfl
            have hmem : x ∈ t'.ids ∨ x ∈ T.idsL ks := by
              have : ∀ (l : List T) (i : Nat), x ∈ T.idsL (l.set i t') → x ∈ t'.ids ∨ x ∈ T.idsL l := by
                intro l
                induction l with
                | nil => intro i h; simp [T.idsL] at h
                | cons a l ihl =>
                  intro i h
                  cases i with
                  | zero =>
                    simp only [List.set_cons_zero, T.idsL, List.mem_append] at h ⊢
                    exact h.imp _root_.id .inr
                  | succ i =>
                    simp only [List.set_cons_succ, T.idsL, List.mem_append] at h ⊢
                    rcases h with h | h
                    · exact .inr (.inl h)
                    · exact (ihl i h).imp _root_.id .inr
              exact this ks j hks
            rcases hmem with h | h
            · rcases hs1 x (by simp [T.idsL, hx]) rfl with h4 | h4 | h4
              · rcases hh x h with h5 | h5
                · exact hxk (hkj x h5)
                · exact h4 h5
              · exact h4 h
              · exact hxk (hkj x h4)
            · exact hxk h
          | none =>
            rw [h3] at h1
            exact ⟨putOk_none x n k ((fT_none k x).1 h3), ihk j hj' hkn.2.1 hh he (fun y hy => hs1 y (by simp [T.idsL, hy])) h1 h2⟩
    exact fun h1 h2 => key kids i hi hn.2 hids he (fun y hy e => .inl (by subst e; unfold Spec; have := hr3 y hy; omega)) h1 h2
  | @id id kind text kids z hz =>
    intro hn _ _
    simp only [T.ids, List.nodup_cons] at hn
    exact even_mk fun x s n _ h1 h2 => evenL_nodup hn.2 x s n h1 h2
  | @word id kind text kids k' x' =>
    intro hn _ _
    simp only [T.ids, List.nodup_cons] at hn
    exact even_mk fun x s n _ h1 h2 => evenL_nodup hn.2 x s n h1 h2
  | @twice id kind text kids =>
    intro hn _ _
    simp only [T.ids, List.nodup_cons] at hn
    refine even_mk fun x s n hne h1 h2 => ?_
    rw [fL_append] at h1
    cases h3 : fL kids x with
    | some s' =>
      rw [h3] at h1
      cases h1
      have := evenL_nodup hn.2 x s n h3 h2
      refine putOkL_append this ⟨?_, trivial⟩
      simp only [T.PutOk]
      rw [if_neg (Ne.symm hne)]
      exact this
    | none =>
      rw [h3] at h1
      have hx := (fL_none kids x).1 h3
      simp only [fL, fT, if_neg (Ne.symm hne), h3] at h1
      cases h1
  | @deep t =>
    intro hn hr h5
    refine deep_even t (even_nodup hn) (fun x h => ?_) 6
    cases t with
    | mk id kind text kids =>
    simp only [T.ids, List.mem_cons] at h
    rcases h with rfl | h
    · exact h5
    · have := hr x h; omega
  | @wide id kind text kids =>
    intro hn hr _
    simp only [T.ids, List.nodup_cons] at hn
    refine even_mk fun x s n hne h1 h2 => ?_
    rw [fL_append] at h1
    cases h3 : fL kids x with
    | some s' =>
      rw [h3] at h1
      cases h1
      have hx : x ∈ T.idsL kids := Decidable.byContradiction fun hc => by rw [(fL_none kids x).2 hc] at h3; cases h3
      refine putOkL_append (evenL_nodup hn.2 x s n h3 h2) (putOkL_none x n _ fun h => ?_)
      have := wide_ids 20 x h
      have := hr x hx
      omega
    | none =>
      rw [h3] at h1
      have h4 := wide_kids 20 x s h1
      rw [h4] at h2
      exact putOkL_append (putOkL_none x n kids ((fL_none kids x).1 h3)) (wide_put x 20 n h2)
theorem drawn_even {t : T} (h : Drawn t) : t.Even := by
  obtain ⟨t0, h1, h2, h3, _, rfl | h4⟩ := h
  · exact even_nodup h1
  · refine spoil_even h4 h1 (fun x hx => ?_) (by omega)
    have h5 := h2 x (kids_ids hx)
    have : x ≠ 1 := fun e => by
      cases t0 with
      | mk id kind text kids =>
      simp only [T.ids, List.nodup_cons] at h1
      have h3 : id = 1 := h3
      exact h1.1 (by rw [h3, ← e]; exact hx)
    omega
theorem nodup_len : ∀ (n : Nat) (l : List Int) (lo : Int), l.Nodup → (∀ i ∈ l, lo ≤ i ∧ i < lo + n) → l.length ≤ n
  | 0, l, lo, _, h => by
    cases l with
    | nil => simp
    | cons a l => have := h a (List.mem_cons_self ..); omega
  | n + 1, l, lo, hn, h => by
    have := nodup_len n (l.erase (lo + n)) lo (hn.erase _) fun i hi => by
      obtain ⟨h1, h2⟩ := hn.mem_erase_iff.1 hi
      have := h i h2
      omega
    rw [List.length_erase] at this
    split at this <;> omega
theorem drawn_size {t : T} (h : Drawn t) : t.size ≤ 60 := by
  obtain ⟨t0, h1, h2, h3, h4, _⟩ := h
  have := nodup_len 19 t0.ids 1 h1 fun i hi => by have := h2 i hi; omega
  rw [T.ids_size] at this
  omega
end Go.Cod

namespace Go.Cod
open Go Go.Proofs
set_option maxRecDepth 10000

set_option maxHeartbeats 4000000 in
theorem l4Do_even (t : T) (s : Stp) (ht : t.Small) (hz : t.size ≤ 10000) (hn : t.Even) (hs : s.node.Small) (hsz : s.node.size ≤ 1048577) (htx : s.text.length ≤ 1048576) :
    Pure Try.prog 52 [.agg t.cells, .agg s.cells] (· = doR t (doT t s)) := by
  have f1 := l2Find_pure t ht s.id
  have f2 := l4Bare_pure s
  have f3 := specTreeOk_pure s.node hs (by rw [T.ids_size]; exact hsz)
  have f4 : ∀ x : T, fT t s.id = some x → s.at_.toNat ≤ x.kids.length → Pure Try.prog 84 [.agg t.cells, .int .i64 s.id, .int .i64 s.at_.toNat, .agg s.node.cells] (· = .agg (t.mapAt s.id (putKidT s.at_.toNat s.node)).cells) := fun x h1 h2 => l4Put_pure t ht s.id s.at_.toNat s.node (hn s.id x s.at_.toNat h1 h2)
  have f5 := l4Cut_pure t ht s.id
  have f6 := l4Set_pure t ht s.id
  have f7 : ∀ y : T, y.Small → y.size ≤ 1048577 → Pure Try.prog 51 [.agg y.cells] (· = .bool (okT y)) := fun y h1 h2 => specTreeOk_pure y h1 (by rw [T.ids_size]; exact h2)
  have z1 : ∀ x, okT s.node = true → (t.mapAt s.id (putKidT x s.node)).Small ∧ (t.mapAt s.id (putKidT x s.node)).size ≤ 1048577 := fun x h => by
    have hk := okT_size h
    refine ⟨T.mapAt_small _ _ 1000000 (fun y h1 _ h2 => putKidT_small x s.node y h1 hs h2) t ht (by omega), ?_⟩
    have := T.mapAt_size s.id (putKidT x s.node) 20 (fun y => by rw [putKidT_size]; omega) t
    omega
  have z2 := T.cut_small s.id t ht
  have z3 : ∀ k w : List UInt8, k.length ≤ 1048576 → w.length ≤ 1048576 → (t.mapAt s.id (setT k w)).Small ∧ (t.mapAt s.id (setT k w)).size ≤ 1048577 := fun k w h1 h2 => by
    refine ⟨T.mapAt_small _ _ 1000000 (fun y h _ _ => setT_small k w y h h1 h2) t ht (by omega), ?_⟩
    have := T.mapAt_size s.id (setT k w) 0 (fun y => by rw [setT_size]; omega) t
    omega
  have hsm := fun x => fT_small t s.id ht x
  have hed : editT t s = match fT t s.id with
    | none => none
    | some x => if bareT s = false then none else
      if s.kind = 1 then (if 0 ≤ s.at_ ∧ s.at_ ≤ x.kids.length ∧ okT s.node = true then some (t.mapAt s.id (putKidT s.at_.toNat s.node)) else none)
      else if s.kind = 2 then (if s.id = t.id then none else some (t.cut s.id))
      else if s.kind = 3 then some (t.mapAt s.id (setT x.kind s.text))
      else if s.kind = 4 then some (t.mapAt s.id (setT s.text x.text))
      else none := rfl
  have d0 : editT t s = none → doT t s = none := doT_none
  have d1 : ∀ y, editT t s = some y → doT t s = okO y := fun y => doT_some
  generalize doT t s = d at *
  generalize editT t s = e at *
  generalize fT t s.id = f at *
  generalize bareT s = b at *
  cases s with
  | mk kind sid at_ node text =>
  simp only at f1 f3 f4 f5 f6 z1 z2 z3 hed hs hsz htx hsm
  generalize T.cut sid t = tc at *
  generalize hset : (fun k w => T.mapAt sid (setT k w) t) = ts at *
  have hset : ∀ k w, T.mapAt sid (setT k w) t = ts k w := fun k w => by rw [← hset]
  simp only [hset] at f6 z3 hed
  generalize hput : T.mapAt sid (putKidT at_.toNat node) t = tp at *
  have zp : okT node = true → tp.Small ∧ tp.size ≤ 1048577 := fun h => hput ▸ z1 at_.toNat h
  clear hset hput z1
  generalize okT node = okn at *
  have hend : ∀ y : T, e = some y → y.Small → y.size ≤ 1048577 → Pure Try.prog 51 [.agg y.cells] (· = .bool (okT y)) ∧ d = okO y := fun y h1 h2 h3 => ⟨f7 y h2 h3, d1 y h1⟩
  clear f7 d1
  have hok : ∀ y : T, e = some y → d = okO y → doR t d = if okT y = true then .tup [.agg y.cells, .bool true] else .tup [.agg t.cells, .bool false] := fun y _ h => by
    rw [h]; unfold okO
    split <;> rfl
  simp only [Stp.cells] at f2 ⊢
  have hbig : ∀ y : T, y.Small → y.size ≤ 1048577 → e = some y → d = okO y ∧ Pure Try.prog 51 [.agg y.cells] (· = .bool (okT y)) := fun y h1 h2 h3 => ⟨(hend y h3 h1 h2).2, (hend y h3 h1 h2).1⟩
  clear hend
  cases t with
  | mk tid tk tx tks =>
  cases node with
  | mk nid nk nx nks =>
  refine pure_of_awp good Try.func52 rfl (by kernel_rfl) (by decide) ?_
  conv => whnf
  refine .inl (f1.mono ?_)
  rintro r rfl
  cases f with
  | none =>
    conv => whnf
    rw [d0 hed]
    rfl
  | some x =>
    cases x with
    | mk xid xk xx xks =>
    conv => whnf
    refine .inl (f2.mono ?_)
    rintro r rfl
    cases b with
    | false =>
      conv => whnf
      rw [d0 hed]
      rfl
    | true =>
      simp only [Bool.true_eq_false, if_false] at hed
      conv => whnf
      by_cases k1 : kind = 1
      · rw [if_pos k1] at hed
        rw [eqB_t k1]
        conv => whnf
        refine .inl ((l1In_pure _ _ _).mono ?_)
        rintro r rfl
        by_cases hr : 0 ≤ at_ ∧ at_ ≤ (xks.length : Int)
        · rw [show (decide ((0 : Int) ≤ at_ ∧ at_ ≤ ((T.rows xks).length : Int))) = true by rw [Go.Cod.rows_len]; simpa using hr]
          conv => whnf
          refine .inl (f3.mono ?_)
          rintro r rfl
          cases okn with
          | false =>
            conv => whnf
            rw [d0 (by rw [hed, if_neg (by simp)])]
            rfl
          | true =>
            obtain ⟨n, rfl⟩ : ∃ n : Nat, at_ = n := ⟨at_.toNat, by omega⟩
            have hed : e = some tp := by rw [hed]; exact if_pos ⟨hr.1, hr.2, rfl⟩
            have f4 := f4 _ rfl (by simp only [T.kids]; omega)
            obtain ⟨q1, q2⟩ := zp rfl
            obtain ⟨q3, q4⟩ := hbig tp q1 q2 hed
            have hok := hok tp hed q3
            generalize okT tp = okp at *
            cases tp with
            | mk pid pk px pks =>
            conv => whnf
            refine .inl (f4.mono ?_)
            rintro r rfl
            conv => whnf
            refine .inl (q4.mono ?_)
            rintro r rfl
            rw [hok]
            cases okp <;> (conv => whnf) <;> rfl
        · rw [show (decide ((0 : Int) ≤ at_ ∧ at_ ≤ ((T.rows xks).length : Int))) = false by rw [Go.Cod.rows_len]; simpa using hr]
          conv => whnf
          rw [d0 (by rw [hed]; exact if_neg (fun h => hr ⟨h.1, h.2.1⟩))]
          rfl
      rw [if_neg k1] at hed
      rw [eqB_f k1]
      conv => whnf
      by_cases k2 : kind = 2
      · rw [if_pos k2] at hed
        rw [eqB_t k2]
        conv => whnf
        by_cases hi : sid = tid
        · rw [eqB_t hi]
          conv => whnf
          rw [d0 (by rw [hed]; exact if_pos hi)]
          rfl
        · rw [eqB_f hi]
          have hed : e = some tc := by rw [hed]; exact if_neg hi
          obtain ⟨q3, q4⟩ := hbig tc z2.1 (by have := z2.2; simp only [T.size] at this hz ⊢; omega) hed
          have hok := hok tc hed q3
          generalize okT tc = okp at *
          cases tc with
          | mk pid pk px pks =>
          conv => whnf
          refine .inl (f5.mono ?_)
          rintro r rfl
          conv => whnf
          refine .inl (q4.mono ?_)
          rintro r rfl
          rw [hok]
          cases okp <;> (conv => whnf) <;> rfl
      rw [if_neg k2] at hed
      rw [eqB_f k2]
      conv => whnf
      have hx := hsm _ rfl
      have hxk : xk.length ≤ 1048576 ∧ xx.length ≤ 1048576 := by
        cases hx with
        | mk g1 g2 g3 g4 g5 => exact ⟨g2, g3⟩
      by_cases k3 : kind = 3
      · rw [if_pos k3] at hed
        rw [eqB_t k3]
        have f6 := f6 xk text
        obtain ⟨q1, q2⟩ := z3 xk text hxk.1 htx
        have hed : e = some (ts xk text) := hed
        obtain ⟨q3, q4⟩ := hbig _ q1 q2 hed
        have hok := hok _ hed q3
        generalize ts xk text = tp at *
        generalize okT tp = okp at *
        cases tp with
        | mk pid pk px pks =>
        conv => whnf
        refine .inl (f6.mono ?_)
        rintro r rfl
        conv => whnf
        refine .inl (q4.mono ?_)
        rintro r rfl
        rw [hok]
        cases okp <;> (conv => whnf) <;> rfl
      rw [if_neg k3] at hed
      rw [eqB_f k3]
      conv => whnf
      by_cases k4 : kind = 4
      · rw [if_pos k4] at hed
        rw [eqB_t k4]
        have f6 := f6 text xx
        obtain ⟨q1, q2⟩ := z3 text xx htx hxk.2
        have hed : e = some (ts text xx) := hed
        obtain ⟨q3, q4⟩ := hbig _ q1 q2 hed
        have hok := hok _ hed q3
        generalize ts text xx = tp at *
        generalize okT tp = okp at *
        cases tp with
        | mk pid pk px pks =>
        conv => whnf
        refine .inl (f6.mono ?_)
        rintro r rfl
        conv => whnf
        refine .inl (q4.mono ?_)
        rintro r rfl
        rw [hok]
        cases okp <;> (conv => whnf) <;> rfl
      rw [if_neg k4] at hed
      rw [eqB_f k4]
      conv => whnf
      rw [d0 hed]
      rfl
end Go.Cod

namespace Go.Cod
open Go Go.Proofs Go.ChangeShapes Go.WideShapes Go.ChangeAt Go.RowKit
set_option maxRecDepth 10000

def DrawRL (r : V) : Prop := ∃ (t : T) (ls : List Stp), t.Small ∧ t.size ≤ 60 ∧ (∀ s ∈ ls, s.Dr) ∧ ls.length ≤ 6 ∧ r = .tup [.agg t.cells, .sl (prows ls)]
theorem prows_snoc (ls : List Stp) (s : Stp) : prows (ls ++ [s]) = prows ls ++ [s.cells] := by simp [prows]
def lsV (ls : List Stp) (m : Nat) : V := match ls with
  | [] => .nils
  | _ :: _ => .own m
def lsO (ls : List Stp) : List O := match ls with
  | [] => []
  | _ :: _ => [⟨prows ls, 8, true, true, false, .cell⟩]
theorem lsO_snoc (s0 : Stp) (ls : List Stp) (s : Stp) : lsO ((s0 :: ls) ++ [s]) = [⟨prows (s0 :: ls) ++ [s.cells], 8, true, true, false, .cell⟩] := by
  rw [← prows_snoc]; rfl
/-- A tree that steps may be tried on. -/
def T.Tried (x : T) : Prop := x.Small ∧ x.size ≤ 60 ∧ x.Even
theorem tried_do {x y : T} {s : Stp} (h : x.Tried) (hs : s.Dr) (hd : doT x s = some y) : y.Tried := by
  obtain ⟨h1, h2⟩ := doT_ok hd
  have := okT_size h2
  exact ⟨editT_small h.1 (by have := h.2.1; omega) hs.1 (by have := hs.2.2; omega) h1, by omega, even_nodup ((okT_iff' y).1 h2).2.1⟩
set_option maxHeartbeats 8000000 in
theorem drawStepsDo_pure (bs : List UInt8) (hb : bs.length ≤ 1048576) : Pure Try.prog 70 [.sl (brows bs)] DrawRL := by
  have ho := l1Open_full bs hb
  refine pure_of_awp good Try.func70 rfl (by kernel_rfl) (by decide) ?_
  conv => whnf
  refine .inr (.inl ⟨[], false, ?_⟩)
  conv => whnf
  refine ho.mono ?_
  rintro o st' ⟨rfl, bs', hb', rfl⟩
  conv => whnf
  refine ⟨[1], false, ?_⟩
  conv => whnf
  refine (l11Some_drawn bs' hb' 0 16 (by omega) (by omega)).mono ?_
  rintro o st' ⟨t, p, s1, ⟨s2, s5⟩, s3, s4, rfl, rfl⟩
  have htr : t.Tried := ⟨s1, drawn_size s5, drawn_even s5⟩
  have ht6 := htr.2.1
  have hpk := pick_full bs' p 6 hb' (by omega) (by omega)
  obtain ⟨x0, hx0⟩ : ∃ x0, x0 = t := ⟨_, rfl⟩
  rcases t with ⟨ti, tk, tx, tks⟩
  conv => whnf
  refine ⟨[1], false, ?_⟩
  conv => whnf
  refine hpk.mono ?_
  rintro o st' ⟨c, c0, c1, rfl, rfl⟩
  have c1 := c1 (by omega)
  have hcc : V.int .i64 c = .int .i64 (c.toNat : Int) := by rw [Int.toNat_of_nonneg c0]
  conv => whnf
  refine loop_drop (fun n fr st => ∃ (ls : List Stp) (x : T) (p' k' : Int), ls.length + n ≤ 6 ∧ (∀ s ∈ ls, s.Dr) ∧ x.Tried ∧ (0 ≤ p' ∧ p' + 2000 * n ≤ 1100000) ∧ (0 ≤ k' ∧ k' + 1000 * n ≤ 6200) ∧
      Holds fr [(2, .ptr 0 0 0), (4, .ptr 1 0 0), (5, .ptr 2 0 0), (6, .ptr 3 0 0), (7, lsV ls 5), (8, .ptr 4 0 0), (9, .int .i64 n)] ∧
      st = [bxO zrow 4, rdO bs' p', bxO [.int .i64 ti, .str tk, .str tx, .sl (T.rows tks)] 4, nxO k', bxO x.cells 4] ++ lsO ls) c.toNat none
    (by
      conv => whnf
      exact ⟨[], .mk ti tk tx tks, p + 1, 100, by simp; omega, by simp, htr, by omega, by omega, ⟨rfl, rfl, rfl, rfl, rfl, rfl, hcc, trivial⟩, rfl⟩) ?_
  rintro n fr st ⟨ls, x, p', k', b1, b2, b3, b4, b5, hh, rfl⟩
  obtain ⟨fr, rfl⟩ := hh.split
  clear hh
  have hlen := prows_len ls
  by_cases hn : 0 < n
  · obtain ⟨n, rfl⟩ : ∃ m, n = m + 1 := ⟨n - 1, by omega⟩
    have wn : V.int .i64 (IntKind.i64.wrap (((n + 1 : Nat) : Int) - 1)) = .int .i64 (n : Int) := by
      rw [wrap64 (by omega) (by omega)]; congr 1; omega
    have hed := l11Edit_full bs' hb' p' k' (by omega) (by omega) (by omega) (by omega) x b3.1 (by have := b3.2.1; omega)
    have hdo := fun s (h : s.Dr) => l4Do_even x s b3.1 (by have := b3.2.1; omega) b3.2.2 h.1 (by have := h.2.1; omega) (by have := h.2.2; omega)
    have htd := fun s y (h : s.Dr) (hd : doT x s = some y) => tried_do b3 h hd
    have hspo := fun q (q0 : 0 ≤ q) (q1 : q ≤ 2000000) s h => l11SpoilStep_full bs' hb' q q0 (by omega) s h
    have hp20 := fun (q : Int) (q0 : 0 ≤ q) (q1 : q ≤ 2000000) => pick_full bs' q 20 hb' q0 (by omega)
    have hp10 := fun (q : Int) (q0 : 0 ≤ q) (q1 : q ≤ 2000000) => pick_full bs' q 10 hb' q0 (by omega)
    cases x with
    | mk xi xk xx xks =>
    rcases ls with _ | ⟨l0, ls⟩
    all_goals
      conv => whnf
      rw [ltB_t (by omega)]
      conv => whnf
      refine ⟨[1, 3], false, ?_⟩
      conv => whnf
      refine hed.mono ?_
      rintro o st' ⟨⟨ek, ei, ea, ⟨ni, nk, nx, nks⟩, ex⟩, p2, k2, d1, d2, d3, d4, d5, rfl, rfl⟩
      conv => whnf
      refine ⟨[1], false, ?_⟩
      conv => whnf
      refine (hp20 p2 (by omega) (by omega)).mono ?_
      rintro o st' ⟨c, c0, c1, rfl, rfl⟩
      conv => whnf
      by_cases hc : c = 0
      case' pos =>
        rw [eqB_t hc]
        conv => whnf
        refine ⟨[1], false, ?_⟩
        conv => whnf
        refine (hspo (p2 + 1) (by omega) (by omega) _ d1).mono ?_
        clear d1
        rintro o st' ⟨⟨ek, ei, ea, ⟨ni, nk, nx, nks⟩, ex⟩, q, d1, f2, f3, rfl, rfl⟩
      case' neg =>
        rw [eqB_f hc]
        obtain ⟨q, hq⟩ : ∃ q, q = p2 + 1 := ⟨_, rfl⟩
        rw [← hq]
    all_goals
      have q0 : 0 ≤ q ∧ q + 1 + 2000 * n ≤ 1100000 := by omega
      have hdo := hdo _ d1
      have htd := fun y => htd _ y d1
      generalize hdoo : doT (T.mk xi xk xx xks) _ = dd at hdo htd
      conv => whnf
      refine .inl (hdo.mono ?_)
      rintro r rfl
      cases dd with
      | some y =>
        have htd := htd y rfl
        cases y with
        | mk yi yk yx yks =>
        conv => whnf
        refine ⟨fun m hm => by rw [List.mem_singleton.1 hm]; rfl, ?_⟩
        conv => whnf
        first
          | (refine ⟨by show 1 * 104 ≤ _; omega, .inr ⟨(by intro e; cases e), ?_⟩⟩
             conv => whnf
             refine ⟨n, by omega, some [0, 1, 2, 3, 4, 8], ?_⟩
             conv => whnf
             exact ⟨[⟨ek, ei, ea, .mk ni nk nx nks, ex⟩], .mk yi yk yx yks, q, k2, by simp at b1 ⊢; omega, by intro s hs; rw [List.mem_singleton.1 hs]; exact d1, htd, by omega, by omega, ⟨rfl, rfl, rfl, rfl, rfl, rfl, wn, trivial⟩, rfl⟩)
          | (refine ⟨by
               show ((prows (l0 :: ls)).length + 1) * 104 ≤ _
               rw [hlen]; omega, ?_⟩
             conv => whnf
             refine ⟨n, by omega, some [0, 1, 2, 3, 4, 9], ?_⟩
             conv => whnf
             refine ⟨(l0 :: ls) ++ [⟨ek, ei, ea, .mk ni nk nx nks, ex⟩], .mk yi yk yx yks, q, k2, by simp at b1 ⊢; omega, ?_, htd, by omega, by omega, ⟨rfl, rfl, rfl, rfl, rfl, rfl, wn, trivial⟩, ?_⟩
             · intro s hs
               rcases List.mem_append.1 hs with h | h
               · exact b2 s h
               · rw [List.mem_singleton.1 h]; exact d1
             · rw [lsO_snoc]
               rfl)
      | none =>
        conv => whnf
        refine ⟨[1], false, ?_⟩
        conv => whnf
        refine (hp10 q (by omega) (by omega)).mono ?_
        rintro o st' ⟨c2, c20, c21, rfl, rfl⟩
        conv => whnf
        by_cases hc2 : c2 = 0
        · rw [eqB_t hc2]
          conv => whnf
          refine ⟨fun m hm => by rw [List.mem_singleton.1 hm]; rfl, ?_⟩
          conv => whnf
          first
            | (refine ⟨by show 1 * 104 ≤ _; omega, .inr ⟨(by intro e; cases e), ?_⟩⟩
               conv => whnf
               refine ⟨n, by omega, some [0, 1, 2, 3, 4, 8], ?_⟩
               conv => whnf
               exact ⟨[⟨ek, ei, ea, .mk ni nk nx nks, ex⟩], .mk xi xk xx xks, q + 1, k2, by simp at b1 ⊢; omega, by intro s hs; rw [List.mem_singleton.1 hs]; exact d1, b3, by omega, by omega, ⟨rfl, rfl, rfl, rfl, rfl, rfl, wn, trivial⟩, rfl⟩)
            | (refine ⟨by
                 show ((prows (l0 :: ls)).length + 1) * 104 ≤ _
                 rw [hlen]; omega, ?_⟩
               conv => whnf
               refine ⟨n, by omega, some [0, 1, 2, 3, 4, 9], ?_⟩
               conv => whnf
               refine ⟨(l0 :: ls) ++ [⟨ek, ei, ea, .mk ni nk nx nks, ex⟩], .mk xi xk xx xks, q + 1, k2, by simp at b1 ⊢; omega, ?_, b3, by omega, by omega, ⟨rfl, rfl, rfl, rfl, rfl, rfl, wn, trivial⟩, ?_⟩
               · intro s hs
                 rcases List.mem_append.1 hs with h | h
                 · exact b2 s h
                 · rw [List.mem_singleton.1 h]; exact d1
               · rw [lsO_snoc]
                 rfl)
        · rw [eqB_f hc2]
          conv => whnf
          first
            | (refine ⟨n, by omega, some [0, 1, 2, 3, 4, 5], ?_⟩
               conv => whnf
               exact ⟨l0 :: ls, .mk xi xk xx xks, q + 1, k2, by omega, b2, b3, by omega, by omega, ⟨rfl, rfl, rfl, rfl, rfl, rfl, wn, trivial⟩, rfl⟩)
            | (refine ⟨n, by omega, some [0, 1, 2, 3, 4], ?_⟩
               conv => whnf
               exact ⟨[], .mk xi xk xx xks, q + 1, k2, by omega, b2, b3, by omega, by omega, ⟨rfl, rfl, rfl, rfl, rfl, rfl, wn, trivial⟩, rfl⟩)
  · cases x with
    | mk xi xk xx xks =>
    cases ls
    all_goals
      conv => whnf
      rw [ltB_f (by omega)]
      conv => whnf
      exact ⟨.mk ti tk tx tks, _, s1, ht6, b2, by omega, rfl⟩
end Go.Cod

namespace Go.Cod
open Go Go.Proofs
set_option maxRecDepth 10000

/- A slice of one's own is turned. -/
def RevAt (rows : List (List V)) (i : Nat) (rs : List (List V)) : Prop := rs.length = rows.length ∧ ∀ k : Nat, k < rows.length → rs[k]? = if k < i ∨ rows.length ≤ k + i then rows[rows.length - 1 - k]? else rows[k]?
theorem RevAt.zero (rows : List (List V)) : RevAt rows 0 rows := ⟨rfl, fun k hk => by rw [if_neg (by omega)]⟩
theorem RevAt.next {rows rs : List (List V)} {i : Nat} (h : RevAt rows i rs) (hi : i + i + 1 < rows.length) (a b : List V) (ha : rs[i]? = some a) (hb : rs[rows.length - 1 - i]? = some b) :
    RevAt rows (i + 1) ((rs.set i b).set (rows.length - 1 - i) a) := by
  obtain ⟨h1, h2⟩ := h
  have ea := h2 i (by omega)
  have eb := h2 (rows.length - 1 - i) (by omega)
  rw [if_neg (by omega), ha] at ea
  rw [if_neg (by omega), hb] at eb
  refine ⟨by simp [h1], fun k hk => ?_⟩
  rw [List.getElem?_set, List.getElem?_set]
  simp only [List.length_set, h1]
  by_cases e1 : rows.length - 1 - i = k
  · rw [if_pos e1, if_pos (by omega), if_pos (by omega), ea]
    congr 1; omega
  rw [if_neg e1]
  by_cases e2 : i = k
  · rw [if_pos e2, if_pos (by omega), if_pos (by omega), eb]
    congr 1; omega
  rw [if_neg e2, h2 k hk]
  by_cases e3 : k < i ∨ rows.length ≤ k + i
  · rw [if_pos e3, if_pos (by omega)]
  · rw [if_neg e3, if_neg (by omega)]
theorem RevAt.done {rows rs : List (List V)} {i : Nat} (h : RevAt rows i rs) (hi : rows.length ≤ i + i + 1) : rs = rows.reverse := by
  refine List.ext_getElem? fun k => ?_
  by_cases hk : k < rows.length
  · rw [h.2 k hk, List.getElem?_reverse hk]
    split
    · rfl
    · congr 1; omega
  · rw [List.getElem?_eq_none (by rw [h.1]; omega), List.getElem?_eq_none (by simp; omega)]
def ownS (rows : List (List V)) : O := ⟨rows, 8, true, true, false, .cell⟩
set_option maxHeartbeats 8000000 in
theorem reverse_full (rows : List (List V)) (hr : ∀ r ∈ rows, ∃ s : Stp, r = s.cells) (hl : rows.length ≤ 1048576) : Full Try.prog noY 65 [.own 0] [ownS rows] fun o st' => o = .ret (.tup []) ∧ st' = [ownS rows.reverse] := by
  refine full_of_awp good Try.func65 rfl (by kernel_rfl) (by decide) ?_
  conv => whnf
  refine loop_drop (fun n fr st => ∃ (i : Nat) (rs : List (List V)), n + i = rows.length ∧ RevAt rows i rs ∧ (∀ r ∈ rs, ∃ s : Stp, r = s.cells) ∧ st = [ownS rs] ∧ Holds fr [(0, .own 0), (2, .int .i64 i), (3, .int .i64 ((rows.length : Int) - 1 - i))]) rows.length none
    ⟨0, rows, rfl, RevAt.zero rows, hr, rfl, rfl, rfl, by
      show V.int .i64 (IntKind.i64.wrap ((rows.length : Int) - 1)) = _
      rw [wrap64 (by omega) (by omega)]; simp, trivial⟩ ?_
  rintro n fr st ⟨i, rs, hi, hra, hrs, rfl, hh⟩
  obtain ⟨fr, rfl⟩ := hh.split
  clear hh
  conv => whnf
  by_cases hlt : (i : Int) < (rows.length : Int) - 1 - i
  · rw [ltB_t hlt]
    have hln := hra.1
    obtain ⟨a, ha⟩ : ∃ a, rs[i]? = some a := ⟨rs[i], by rw [List.getElem?_eq_getElem]⟩
    obtain ⟨b, hb⟩ : ∃ b, rs[rows.length - 1 - i]? = some b := ⟨rs[rows.length - 1 - i], by rw [List.getElem?_eq_getElem]⟩
    have hn := hra.next (by omega) a b ha hb
    obtain ⟨sa, rfl⟩ := hrs a (List.mem_of_getElem? ha)
    obtain ⟨sb, rfl⟩ := hrs b (List.mem_of_getElem? hb)
    have e1 : ((rows.length : Int) - 1 - i).toNat = rows.length - 1 - i := by omega
    have hb' : rs[((rows.length : Int) - 1 - i).toNat]? = some sb.cells := by rw [e1]; exact hb
    have ha' : rs[(i : Int).toNat]? = some sa.cells := ha
    have hb2 : ∀ X, (rs.set (i : Int).toNat X)[((rows.length : Int) - 1 - i).toNat]? = some sb.cells := fun X => by
      rw [e1, show (i : Int).toNat = i from rfl, List.getElem?_set_ne (by omega)]; exact hb
    have hrs2 : ∀ r ∈ (rs.set i sb.cells).set (rows.length - 1 - i) sa.cells, ∃ s : Stp, r = s.cells := fun r hr => by
      rcases List.mem_or_eq_of_mem_set hr with h | h
      · rcases List.mem_or_eq_of_mem_set h with h | h
        · exact hrs r h
        · exact ⟨_, h⟩
      · exact ⟨_, h⟩
    obtain ⟨ak, ai, aa, ⟨a1, a2, a3, a4⟩, a5⟩ := sa
    obtain ⟨bk, bi, ba, ⟨b1, b2, b3, b4⟩, b5⟩ := sb
    conv => whnf
    repeat (first
      | (refine And.intro (by
              (conv => whnf)
              first
                | rfl
                | exact ⟨by omega, rs, _, 8, rfl, hb', rfl, rfl, rfl⟩
                | exact ⟨by omega, rs, _, 8, rfl, ha', rfl, rfl, rfl⟩
                | exact AtRow_intro _ hb' rfl
                | exact AtRow_intro _ ha' rfl) ?_
         conv => whnf)
      | (refine ⟨by omega, rs, _, 8, rfl, hb', rfl, rfl, ?_⟩
         conv => whnf)
      | (refine ⟨by omega, rs, _, 8, rfl, ha', rfl, rfl, ?_⟩
         conv => whnf)
      | (refine AtRow_intro _ hb' ?_
         conv => whnf)
      | (refine AtRow_intro _ ha' ?_
         conv => whnf))
    refine ⟨by omega, _, _, 8, rfl, hb2 _, rfl, rfl, ?_⟩
    conv => whnf
    refine AtRow_intro _ (hb2 _) ?_
    conv => whnf
    refine ⟨n - 1, by omega, none, i + 1, _, by omega, hn, hrs2, ?_, rfl, ?_, ?_, trivial⟩
    · rw [← e1]
      rfl
    · show V.int .i64 (IntKind.i64.wrap ((i : Int) + 1)) = _
      rw [wrap64 (by omega) (by omega)]; simp
    · show V.int .i64 (IntKind.i64.wrap ((rows.length : Int) - 1 - i - 1)) = _
      rw [wrap64 (by omega) (by omega)]; congr 1; omega
  · rw [ltB_f (by omega)]
    conv => whnf
    refine ⟨[], false, ?_⟩
    conv => whnf
    exact ⟨rfl, by rw [hra.done (by omega)]; rfl⟩
end Go.Cod

namespace Go.Cod
open Go Go.Proofs
set_option maxRecDepth 10000

/- The steps that undo steps; the last one first. -/
def backsGo : T → List Stp → List Stp → Option (List Stp)
  | _, [], acc => some acc
  | x, s :: ls, acc => match doT x s with
    | some y => backsGo y ls (backS x s :: acc)
    | none => none
def backsT (t : T) (ls : List Stp) : List Stp × Bool := if okT t = true then (match backsGo t ls [] with
  | some r => (r, true)
  | none => ([], false)) else ([], false)
theorem backsGo_drop (x : T) (ls acc : List Stp) (i : Nat) (h : i < ls.length) : backsGo x (ls.drop i) acc = match doT x ls[i] with
    | some y => backsGo y (ls.drop (i + 1)) (backS x ls[i] :: acc)
    | none => none := by
  rw [List.drop_eq_getElem_cons h]; rfl
theorem backs_steps (t : T) (ls : List Stp) : (backsT t ls).2 = (stepsT t ls).2 := by
  have h : ∀ (t0 : T) (ls : List Stp) (x : T) (acc : List Stp), (backsGo x ls acc).isSome = (goT t0 x ls).2 := by
    intro t0 ls
    induction ls with
    | nil => intro x acc; rfl
    | cons s ls ih =>
      intro x acc
      simp only [backsGo, goT]
      cases doT x s with
      | none => rfl
      | some y => exact ih y _
  unfold backsT stepsT
  split
  · rw [← h t ls t []]
    cases backsGo t ls [] <;> rfl
  · rfl
theorem backsGo_len : ∀ (ls : List Stp) (x : T) (acc r : List Stp), backsGo x ls acc = some r → r.length = ls.length + acc.length
  | [], x, acc, r, h => by cases h; simp
  | s :: ls, x, acc, r, h => by
    simp only [backsGo] at h
    cases hd : doT x s with
    | none => rw [hd] at h; cases h
    | some y =>
      rw [hd] at h
      have := backsGo_len ls y _ r h
      simp only [List.length_cons] at this ⊢
      omega
theorem backS_Sm {t : T} (ht : t.Small) (hok : okT t = true) (s : Stp) : (backS t s).Sm := by
  have h := backS_sm ht s
  refine ⟨h.1, ?_, h.2⟩
  have h20 := okT_size hok
  have hz0 : TZ.size ≤ 1048577 := by simp [TZ, T.size, T.sizeL]
  have hk : (kidOf t s.id).size ≤ 1048577 := by
    unfold kidOf
    cases h : fT t s.id with
    | none => exact hz0
    | some x => have := fT_size t s.id x h; show x.size ≤ _; omega
  unfold backS
  split
  · exact hz0
  split
  · exact hk
  split
  · exact hz0
  · exact hz0
theorem backsGo_Sm : ∀ (ls : List Stp) (x : T) (acc r : List Stp), x.Small → okT x = true → (∀ s ∈ ls, s.Sm) → (∀ s ∈ acc, s.Sm) → backsGo x ls acc = some r → ∀ s ∈ r, s.Sm
  | [], x, acc, r, _, _, _, ha, h => by cases h; exact ha
  | s :: ls, x, acc, r, hx, hok, hl, ha, h => by
    simp only [backsGo] at h
    cases hd : doT x s with
    | none => rw [hd] at h; cases h
    | some y =>
      rw [hd] at h
      obtain ⟨y1, y2⟩ := doT_small hx hok (hl s (by simp)) hd
      refine backsGo_Sm ls y _ r y1 y2 (fun u hu => hl u (List.mem_cons_of_mem _ hu)) (fun u hu => ?_) h
      rcases List.mem_cons.1 hu with rfl | hu
      · exact backS_Sm hx hok s
      · exact ha u hu
def runO : T → List Stp → Option T
  | x, [] => some x
  | x, s :: ls => match doT x s with
    | some y => runO y ls
    | none => none
theorem go_run (t0 : T) : ∀ (ls : List Stp) (x : T), goT t0 x ls = match runO x ls with
    | some y => (y, true)
    | none => (t0, false)
  | [], x => rfl
  | s :: ls, x => by
    simp only [goT, runO]
    cases doT x s with
    | none => rfl
    | some y => exact go_run t0 ls y
theorem runO_ok : ∀ (ls : List Stp) (x y : T), okT x = true → runO x ls = some y → okT y = true
  | [], x, y, h, e => by cases e; exact h
  | s :: ls, x, y, h, e => by
    simp only [runO] at e
    cases hd : doT x s with
    | none => rw [hd] at e; cases e
    | some z => rw [hd] at e; exact runO_ok ls z y (doT_ok hd).2 e
theorem backs_undo : ∀ (ls : List Stp) (x w : T) (acc r : List Stp), okT x = true → backsGo x ls acc = some r → runO x acc = some w → ∃ z, runO x ls = some z ∧ runO z r = some w
  | [], x, w, acc, r, _, h, hw => by cases h; exact ⟨x, rfl, hw⟩
  | s :: ls, x, w, acc, r, hok, h, hw => by
    simp only [backsGo] at h
    cases hd : doT x s with
    | none => rw [hd] at h; cases h
    | some y =>
      rw [hd] at h
      have hb := back_undo hok hd
      obtain ⟨z, h1, h2⟩ := backs_undo ls y w (backS x s :: acc) r (doT_ok hd).2 h (by simp only [runO]; rw [hb]; exact hw)
      exact ⟨z, by simp only [runO]; rw [hd]; exact h1, h2⟩
theorem backs_stepsT {t x : T} {ls : List Stp} (h : stepsT t ls = (x, true)) : stepsT x (backsT t ls).1 = (t, true) := by
  have h2 := backs_steps t ls
  unfold stepsT at h
  split at h
  · rename_i hok
    have hb : backsT t ls = match backsGo t ls [] with
      | some r => (r, true)
      | none => ([], false) := by unfold backsT; rw [if_pos hok]
    cases hg : backsGo t ls [] with
    | none =>
      rw [hg] at hb
      rw [hb] at h2
      have : (stepsT t ls).2 = true := by unfold stepsT; rw [if_pos hok, h]
      rw [this] at h2; cases h2
    | some r =>
      rw [hg] at hb
      obtain ⟨z, h3, h4⟩ := backs_undo ls t t [] r hok hg rfl
      rw [go_run, h3] at h
      cases h
      rw [hb]
      unfold stepsT
      rw [if_pos (runO_ok ls t _ hok h3), go_run, h4]
  · cases h
theorem prows_rev (ls : List Stp) : (prows ls).reverse = prows ls.reverse := by simp [prows]
theorem prows_cells (ls : List Stp) : ∀ r ∈ prows ls, ∃ s : Stp, r = s.cells := fun r hr => by
  obtain ⟨s, _, rfl⟩ := List.mem_map.1 hr
  exact ⟨s, rfl⟩
end Go.Cod

namespace Go.Cod
open Go Go.Proofs
set_option maxRecDepth 10000

theorem reverse_nil : Pure Try.prog 65 [.sl []] (· = .tup []) := by
  refine pure_of_awp good Try.func65 rfl (by kernel_rfl) (by decide) ?_
  conv => whnf
  refine loop_drop (fun n fr st => st = [] ∧ Holds fr [(2, .int .i64 0), (3, .int .i64 (-1))]) 0 none ⟨rfl, rfl, rfl, trivial⟩ ?_
  rintro n fr st ⟨rfl, hh⟩
  obtain ⟨fr, rfl⟩ := hh.split
  clear hh
  conv => whnf
  rw [ltB_f (by omega)]
  conv => whnf
set_option maxHeartbeats 8000000 in
theorem implStepsBack_pure (t : T) (ls : List Stp) (ht : t.Small) (hls : ∀ s ∈ ls, s.Sm) (hl : ls.length ≤ 1000000) : Pure Try.prog 32 [.agg t.cells, .sl (prows ls)] (· = .tup [.sl (prows (backsT t ls).1), .bool (backsT t ls).2]) := by
  have f1 := implTreeOk t ht
  have hst : backsT t ls = if okT t = true then (match backsGo t ls [] with
    | some r => (r, true)
    | none => ([], false)) else ([], false) := rfl
  have hlen := prows_len ls
  have hget := prows_get ls
  generalize backsT t ls = res at *
  generalize prows ls = rows at *
  cases hok : okT t with
  | false =>
    rw [hok] at f1 hst
    rw [if_neg (by simp)] at hst
    subst hst
    cases t with
    | mk tid tk tx tks =>
    refine pure_of_awp good Try.func32 rfl (by kernel_rfl) (by decide) ?_
    conv => whnf
    refine .inl (f1.mono ?_)
    rintro r rfl
    conv => whnf
    rfl
  | true =>
    rw [hok] at f1 hst
    rw [if_pos rfl] at hst
    have hgo : backsGo t ls [] = backsGo t (ls.drop 0) [] := rfl
    rw [hgo] at hst
    have hD : ∀ x acc i (h : i < ls.length), backsGo x (ls.drop i) acc = match doT x ls[i] with
        | some y => backsGo y (ls.drop (i + 1)) (backS x ls[i] :: acc)
        | none => none := fun x acc i h => backsGo_drop x ls acc i h
    have hE : ∀ x acc, backsGo x (ls.drop ls.length) acc = some acc := fun x acc => by rw [List.drop_of_length_le (by omega)]; rfl
    have hok' := hok
    have ht' := ht
    cases t with
    | mk tid tk tx tks =>
    refine pure_of_awp good Try.func32 rfl (by kernel_rfl) (by decide) ?_
    conv => whnf
    refine .inl (f1.mono ?_)
    rintro r rfl
    conv => whnf
    refine loop_drop (fun n fr st => ∃ (i : Nat) (x : T) (acc : List Stp), n + i = ls.length ∧ acc.length = i ∧ x.Small ∧ okT x = true ∧ res = (match backsGo x (ls.drop i) acc.reverse with
          | some r => (r, true)
          | none => ([], false)) ∧ st = [bxO x.cells 4] ++ lsO acc ∧
        Holds fr [(2, .ptr 0 0 0), (6, lsV acc 1), (14, .sl rows), (15, .int .i64 ls.length), (16, .int .i64 i)]) ls.length none
      ⟨0, _, [], rfl, rfl, ht', hok', hst, rfl, rfl, rfl, rfl, by rw [← hlen]; rfl, rfl, trivial⟩ ?_
    rintro n fr st ⟨i, x, acc, hi, hal, x1, x2, x3, rfl, hh⟩
    obtain ⟨fr, rfl⟩ := hh.split
    clear hh
    have hpl := prows_len acc
    conv => whnf
    by_cases hlt : i < ls.length
    · rw [ltB_t (by omega)]
      have hg := hget i hlt
      have hs := hls ls[i] (List.getElem_mem _)
      have hd := hD x acc.reverse i hlt
      have f3 := implStepDo_pure x ls[i] x1 hs.1 hs.2.2
      have f4 := implStepBack_pure x ls[i] x1 hs.1 hs.2.2
      have hsm := fun y => doT_small (y := y) x1 x2 hs
      have hw : V.int .i64 (IntKind.i64.wrap ((i : Int) + 1)) = .int .i64 ((i + 1 : Nat) : Int) := by rw [wrap64 (by omega) (by omega)]; simp
      have hyes : ∀ y, doT x ls[i] = some y → stepT x ls[i] = (y, true) ∧ backT x ls[i] = (backS x ls[i], true) := fun y h => by unfold stepT backT; rw [if_pos x2, if_pos x2, h]; exact ⟨rfl, rfl⟩
      have hno : doT x ls[i] = none → stepT x ls[i] = (x, false) ∧ backT x ls[i] = (SZ, false) := fun h => by unfold stepT backT; rw [if_pos x2, if_pos x2, h]; exact ⟨rfl, rfl⟩
      generalize backS x ls[i] = bk at *
      generalize ls[i] = s at *
      obtain ⟨sk, sid, sat, sn, stx⟩ := s
      cases sn with
      | mk ni nk nx nks =>
      obtain ⟨bk1, bk2, bk3, ⟨b1, b2, b3, b4⟩, bk4⟩ := bk
      have hsn := lsO_snoc
      cases hdo : doT x ⟨sk, sid, sat, .mk ni nk nx nks, stx⟩ with
      | none =>
        rw [(hno hdo).2] at f4
        rw [hdo] at hd
        rw [hd] at x3
        cases x with
        | mk xi xk xx xks =>
        rcases acc with _ | ⟨a0, acc⟩
        all_goals
          conv => whnf
          refine ⟨by omega, rows, _, 8, rfl, hg, rfl, rfl, ?_⟩
          conv => whnf
          refine .inl (f4.mono ?_)
          rintro r rfl
          conv => whnf
          rw [x3]
          rfl
      | some y =>
        rw [(hyes y hdo).1] at f3
        rw [(hyes y hdo).2] at f4
        rw [hdo] at hd
        rw [hd] at x3
        obtain ⟨y1, y2⟩ := hsm y hdo
        cases x with
        | mk xi xk xx xks =>
        cases y with
        | mk yi yk yx yks =>
        rcases acc with _ | ⟨a0, acc⟩
        all_goals
          conv => whnf
          refine ⟨by omega, rows, _, 8, rfl, hg, rfl, rfl, ?_⟩
          conv => whnf
          refine .inl (f4.mono ?_)
          rintro r rfl
          conv => whnf
          refine ⟨fun m hm => by rw [List.mem_singleton.1 hm]; rfl, ?_⟩
          conv => whnf
          first
            | (refine ⟨by show 1 * 104 ≤ _; omega, .inr ⟨(by intro e; cases e), ?_⟩⟩
               conv => whnf
               refine .inl (f3.mono ?_)
               rintro r rfl
               conv => whnf
               refine ⟨n - 1, by omega, some [0, 4], ?_⟩
               conv => whnf
               exact ⟨i + 1, .mk yi yk yx yks, [⟨bk1, bk2, bk3, .mk b1 b2 b3 b4, bk4⟩], by omega, by simp at hal ⊢; omega, y1, y2, x3, rfl, rfl, rfl, rfl, rfl, hw, trivial⟩)
            | (refine ⟨by
                 show ((prows (a0 :: acc)).length + 1) * 104 ≤ _
                 rw [hpl]; omega, ?_⟩
               conv => whnf
               refine .inl (f3.mono ?_)
               rintro r rfl
               conv => whnf
               refine ⟨n - 1, by omega, some [0, 5], ?_⟩
               conv => whnf
               refine ⟨i + 1, .mk yi yk yx yks, (a0 :: acc) ++ [⟨bk1, bk2, bk3, .mk b1 b2 b3 b4, bk4⟩], by omega, by rw [List.length_append, hal]; rfl, y1, y2, ?_, ?_, rfl, rfl, rfl, rfl, hw, trivial⟩
               · rw [List.reverse_append]; exact x3
               · rw [hsn]; rfl)
    · rw [ltB_f (by omega)]
      have hil : i = ls.length := by omega
      subst hil
      rw [hE] at x3
      have hrv := prows_rev acc
      rcases acc with _ | ⟨a0, acc⟩
      · cases x with
        | mk xi xk xx xks =>
        conv => whnf
        refine .inl (reverse_nil.mono ?_)
        rintro r rfl
        conv => whnf
        rw [x3]
        rfl
      · have hrev := reverse_full (prows (a0 :: acc)) (prows_cells _) (by rw [hpl, hal]; omega)
        cases x with
        | mk xi xk xx xks =>
        conv => whnf
        refine ⟨[1], false, ?_⟩
        conv => whnf
        refine hrev.mono ?_
        rintro o st' ⟨rfl, rfl⟩
        conv => whnf
        rw [x3, hrv]
        rfl
end Go.Cod

namespace Go.Cod
open Go Go.Proofs
set_option maxRecDepth 10000

def spR (r : List Stp × Bool) : V := .tup [.sl (prows r.1), .bool r.2]
set_option maxHeartbeats 8000000 in
theorem specStepsBack_pure (t : T) (ls : List Stp) (ht : t.Small) (hz : t.size ≤ 1048577) (hls : ∀ s ∈ ls, s.Sm) (hl : ls.length ≤ 1000000) : Pure Try.prog 31 [.agg t.cells, .sl (prows ls)] (· = spR (backsT t ls)) := by
  have f1 := specTreeOk_pure t ht (by rw [T.ids_size]; exact hz)
  have hst : backsT t ls = if okT t = true then (match backsGo t ls [] with
    | some r => (r, true)
    | none => ([], false)) else ([], false) := rfl
  have hlen := prows_len ls
  have hget := prows_get ls
  generalize backsT t ls = res at *
  generalize prows ls = rows at *
  cases hok : okT t with
  | false =>
    rw [hok] at f1 hst
    rw [if_neg (by simp)] at hst
    subst hst
    cases t with
    | mk tid tk tx tks =>
    refine pure_of_awp good Try.func31 rfl (by kernel_rfl) (by decide) ?_
    conv => whnf
    refine .inl (f1.mono ?_)
    rintro r rfl
    conv => whnf
    rfl
  | true =>
    rw [hok] at f1 hst
    rw [if_pos rfl] at hst
    have hgo : backsGo t ls [] = backsGo t (ls.drop 0) [] := rfl
    rw [hgo] at hst
    have hD : ∀ x acc i (h : i < ls.length), backsGo x (ls.drop i) acc = match doT x ls[i] with
        | some y => backsGo y (ls.drop (i + 1)) (backS x ls[i] :: acc)
        | none => none := fun x acc i h => backsGo_drop x ls acc i h
    have hE : ∀ x acc, backsGo x (ls.drop ls.length) acc = some acc := fun x acc => by rw [List.drop_of_length_le (by omega)]; rfl
    have hok' := hok
    have ht' := ht
    cases t with
    | mk tid tk tx tks =>
    refine pure_of_awp good Try.func31 rfl (by kernel_rfl) (by decide) ?_
    conv => whnf
    refine .inl (f1.mono ?_)
    rintro r rfl
    conv => whnf
    refine loop_drop (fun n fr st => ∃ (i : Nat) (x : T) (acc : List Stp), n + i = ls.length ∧ acc.length = i ∧ x.Small ∧ okT x = true ∧ res = (match backsGo x (ls.drop i) acc with
          | some r => (r, true)
          | none => ([], false)) ∧ st = [bxO [.int .i64 tid, .str tk, .str tx, .sl (T.rows tks)] 4, bxO x.cells 4] ++ lsO acc ∧
        Holds fr [(1, .sl rows), (2, .ptr 0 0 0), (6, lsV acc 2), (7, .ptr 1 0 0), (8, .int .i64 i)]) ls.length none
      ⟨0, _, [], rfl, rfl, ht', hok', hst, rfl, rfl, rfl, rfl, rfl, rfl, trivial⟩ ?_
    rintro n fr st ⟨i, x, acc, hi, hal, x1, x2, x3, rfl, hh⟩
    obtain ⟨fr, rfl⟩ := hh.split
    clear hh
    have hpl := prows_len acc
    by_cases hlt : i < ls.length
    · have hg := hget i hlt
      have hs := hls ls[i] (List.getElem_mem _)
      have hd := hD x acc i hlt
      have f3 := l4Do_pure x ls[i] x1 (by have := okT_size x2; omega) ((okT_iff' _).1 x2).2.1 hs.1 hs.2.1 hs.2.2
      have f4 := specStepBack_pure x ls[i] x1 (by have := okT_size x2; omega) hs.1 hs.2.1 hs.2.2
      have hsm := fun y => doT_small (y := y) x1 x2 hs
      have hw : V.int .i64 (IntKind.i64.wrap ((i : Int) + 1)) = .int .i64 ((i + 1 : Nat) : Int) := by rw [wrap64 (by omega) (by omega)]; simp
      have hyes : ∀ y, doT x ls[i] = some y → backT x ls[i] = (backS x ls[i], true) := fun y h => by unfold backT; rw [if_pos x2, h]
      have hno : doT x ls[i] = none → backT x ls[i] = (SZ, false) := fun h => by unfold backT; rw [if_pos x2, h]
      generalize backS x ls[i] = bk at *
      generalize ls[i] = s at *
      obtain ⟨sk, sid, sat, sn, stx⟩ := s
      cases sn with
      | mk ni nk nx nks =>
      obtain ⟨bk1, bk2, bk3, ⟨b1, b2, b3, b4⟩, bk4⟩ := bk
      cases hdo : doT x ⟨sk, sid, sat, .mk ni nk nx nks, stx⟩ with
      | none =>
        rw [hno hdo] at f4
        rw [hdo] at hd
        rw [hd] at x3
        cases x with
        | mk xi xk xx xks =>
        rcases acc with _ | ⟨a0, acc⟩
        all_goals
          conv => whnf
          rw [hlen, ltB_t (by omega)]
          conv => whnf
          repeat (first
            | (refine And.intro (by
                    (conv => whnf)
                    first
                      | rfl
                      | exact ⟨_, .inl f4, rfl⟩
                      | exact ⟨by omega, rows, _, 8, rfl, hg, rfl, rfl, rfl⟩
                      | exact ⟨by omega, rows, _, 8, rfl, hg, rfl, rfl, _, .inl f4, rfl⟩) ?_
               conv => whnf)
            | (refine ⟨by omega, rows, _, 8, rfl, hg, rfl, rfl, ?_⟩
               conv => whnf)
            | (refine ⟨_, .inl f4, ?_⟩
               conv => whnf))
          rw [x3]
          rfl
      | some y =>
        rw [hyes y hdo] at f4
        rw [hdo] at hd f3
        rw [hd] at x3
        have f3 : Pure Try.prog 52 _ (· = .tup [.agg y.cells, .bool true]) := f3
        obtain ⟨y1, y2⟩ := hsm y hdo
        cases x with
        | mk xi xk xx xks =>
        cases y with
        | mk yi yk yx yks =>
        rcases acc with _ | ⟨a0, acc⟩
        all_goals
          conv => whnf
          rw [hlen, ltB_t (by omega)]
          conv => whnf
          repeat (first
            | (refine And.intro (by
                    (conv => whnf)
                    first
                      | rfl
                      | exact ⟨_, .inl f4, rfl⟩
                      | exact ⟨_, .inl f3, rfl⟩
                      | exact ⟨by omega, rows, _, 8, rfl, hg, rfl, rfl, rfl⟩
                      | exact ⟨by omega, rows, _, 8, rfl, hg, rfl, rfl, _, .inl f4, rfl⟩
                      | exact ⟨by omega, rows, _, 8, rfl, hg, rfl, rfl, _, .inl f3, rfl⟩) ?_
               conv => whnf)
            | (refine ⟨by omega, rows, _, 8, rfl, hg, rfl, rfl, ?_⟩
               conv => whnf)
            | (refine ⟨_, .inl f4, ?_⟩
               conv => whnf)
            | (refine ⟨_, .inl f3, ?_⟩
               conv => whnf))
          skip
        · refine ⟨fun m hm => (by cases hm), ?_⟩
          conv => whnf
          refine ⟨by show (1 + 0) * 104 ≤ _; omega, ?_⟩
          conv => whnf
          refine ⟨n - 1, by omega, some [0, 1, 5], ?_⟩
          conv => whnf
          exact ⟨i + 1, .mk yi yk yx yks, [⟨bk1, bk2, bk3, .mk b1 b2 b3 b4, bk4⟩], by omega, by simp at hal ⊢; omega, y1, y2, x3, rfl, rfl, rfl, rfl, rfl, hw, trivial⟩
        · refine ⟨fun m hm => by
             obtain ⟨s, e⟩ := prows_cells (a0 :: acc) m hm
             obtain ⟨_, _, _, ⟨_, _, _, _⟩, _⟩ := s
             rw [e]; rfl, ?_⟩
          conv => whnf
          refine ⟨by
                 show (1 + (prows (a0 :: acc)).length) * 104 ≤ _
                 rw [hpl]; omega, ?_⟩
          conv => whnf
          refine ⟨n - 1, by omega, some [0, 1, 6], ?_⟩
          conv => whnf
          exact ⟨i + 1, .mk yi yk yx yks, ⟨bk1, bk2, bk3, .mk b1 b2 b3 b4, bk4⟩ :: a0 :: acc, by omega, by simp at hal ⊢; omega, y1, y2, x3, rfl, rfl, rfl, rfl, rfl, hw, trivial⟩
    · have hil : i = ls.length := by omega
      subst hil
      rw [hE] at x3
      rcases acc with _ | ⟨a0, acc⟩
      all_goals
        cases x with
        | mk xi xk xx xks =>
        conv => whnf
        rw [hlen, ltB_f (by omega)]
        conv => whnf
        rw [x3]
        rfl
end Go.Cod

namespace Go.Cod
open Go Go.Proofs
set_option maxRecDepth 10000

set_option maxHeartbeats 4000000 in
theorem wcSteps_refl (ls : List Stp) (hs : ∀ s ∈ ls, s.node.Small) (hl : ls.length ≤ 1048576) : Pure Try.prog 43 [.sl (prows ls), .sl (prows ls)] (· = .bool true) := by
  have hlen := prows_len ls
  have hget := prows_get ls
  generalize prows ls = rows at *
  refine pure_of_awp good Try.func43 rfl (by kernel_rfl) (by decide) ?_
  conv => whnf
  rw [eqB_refl]
  conv => whnf
  refine loop_intro (fun n fr st => ∃ i : Nat, n + i = ls.length ∧ st = [] ∧ Holds fr [(0, .sl rows), (1, .sl rows), (5, .int .i64 i)]) ls.length
    ⟨0, rfl, rfl, rfl, rfl, rfl, trivial⟩ ?_
  rintro n fr st ⟨i, hi, rfl, hh⟩
  obtain ⟨fr, rfl⟩ := hh.split
  clear hh
  conv => whnf
  by_cases hlt : i < ls.length
  · rw [hlen, ltB_t (by omega)]
    have hg := hget i hlt
    have ws := wcStep_refl ls[i] (hs _ (List.getElem_mem _))
    generalize ls[i] = s at *
    obtain ⟨ak, ai, aa, ⟨a1, a2, a3, a4⟩, a5⟩ := s
    conv => whnf
    repeat (first
      | (refine ⟨by omega, rows, _, 8, rfl, hg, rfl, rfl, ?_⟩
         conv => whnf)
      | (refine ⟨_, .inl ws, ?_⟩
         conv => whnf))
    refine ⟨n - 1, by omega, i + 1, by omega, rfl, rfl, rfl, ?_, trivial⟩
    · show V.int .i64 (IntKind.i64.wrap (i + 1)) = _
      rw [wrap64 (by omega) (by omega)]; simp
  · rw [hlen, ltB_f (by omega)]
    conv => whnf
theorem drawStepsBack_pure (bs : List UInt8) (hb : bs.length ≤ 1048576) : Pure Try.prog 42 [.sl (brows bs)] DrawRL := by
  have hd := drawStepsDo_pure bs hb
  generalize brows bs = R at *
  refine pure_of_awp good Try.func42 rfl (by kernel_rfl) (by decide) ?_
  conv => whnf
  refine .inl (hd.mono ?_)
  rintro r ⟨t, ls, s1, s2, s3, s4, rfl⟩
  obtain ⟨ti, tk, tx, tks⟩ := t
  conv => whnf
  exact ⟨_, ls, s1, s2, s3, s4, rfl⟩
end Go.Cod

namespace Go.Cod
open Go Go.Proofs Go.ChangeShapes Go.WideShapes Go.ChangeAt Go.RowKit
set_option maxRecDepth 10000

theorem ownK : ownKnob Try.prog.godebug = none := by kernel_rfl
def byteOf : List V → UInt8
  | [.int _ i] => UInt8.ofNat i.toNat
  | _ => 0
theorem argBytes {H : Type} {enc : TypeId × Value → H} {W : World} : ReadsA enc Try.prog W 57 fun x => ∃ bs : List UInt8, x = .sl (brows bs) := by
  intro base v d p hv h
  obtain ⟨x, ⟨es, hx, _, hr⟩, hrep⟩ := readsA_slice (S := fun vs => ∃ es, vs = [.sl es] ∧ es.length ≤ maxLen ∧ ∀ r ∈ es, (∃ i, r = [.int .u8 i] ∧ IntKind.u8.min ≤ i ∧ i ≤ IntKind.u8.max) ∧ r.length = Try.prog.cellsOf 5 ∧ (∀ v ∈ r, v.leaf = true) ∧ V.clean.cleanL 0 r = true)
    Try.underlying57 (fun n => reads_slice Try.underlying57 (by decide +kernel) fun m _ => reads_int Try.underlying5) base v d p hv h
  cases hx
  refine ⟨_, ⟨es.map byteOf, ?_⟩, hrep⟩
  congr 1
  rw [brows, List.map_map]
  refine (List.map_id es).symm.trans (List.map_congr_left fun r hr' => ?_)
  obtain ⟨⟨i, rfl, h1, h2⟩, _⟩ := hr r hr'
  have h1 : 0 ≤ i := h1
  have h2 : i ≤ 255 := h2
  simp only [id_eq, Function.comp, byteOf, cellB]
  congr 2
  simp only [UInt8.toNat_ofNat']
  omega
end Go.Cod

namespace Go.Cod
open Go Go.Proofs Go.ChangeShapes Go.WideShapes Go.ChangeAt Go.RowKit
set_option maxRecDepth 10000

theorem backsT_Sm {t : T} {ls : List Stp} (ht : t.Small) (hs : ∀ s ∈ ls, s.Sm) : ∀ s ∈ (backsT t ls).1, s.Sm := by
  unfold backsT
  split
  · rename_i hok
    cases h : backsGo t ls [] with
    | none => intro s hs; cases hs
    | some r => exact backsGo_Sm ls t [] r ht hok hs (fun s hs => by cases hs) h
  · intro s hs; cases hs
theorem backsT_len (t : T) (ls : List Stp) : (backsT t ls).1.length = if (backsT t ls).2 = true then ls.length else 0 := by
  unfold backsT
  split
  · cases h : backsGo t ls [] with
    | none => rfl
    | some r => have := backsGo_len ls t [] r h; simpa using this
  · rfl
set_option maxHeartbeats 16000000 in
theorem law_fnStepsBack (bs : List UInt8) : Pure Try.prog 9 [.sl (brows bs)] (· = .bool true) := by
  have hl := brows_len bs
  have hd := drawStepsBack_pure bs
  refine pure_of_awp good Try.func9 rfl (by kernel_rfl) (by decide) ?_
  generalize brows bs = R at *
  conv => whnf
  by_cases a : 1048576 < R.length
  · rw [ltB_t (by omega)]
    conv => whnf
  rw [ltB_f (by omega)]
  conv => whnf
  refine .inl ((hd (by omega)).mono ?_)
  rintro r ⟨t, ls, s1, s2, s3, s4, rfl⟩
  have hS : ∀ s ∈ ls, s.Sm := fun s h => by
    obtain ⟨d1, d2, d3⟩ := s3 s h
    exact ⟨d1, by omega, by omega⟩
  have i1 := implStepsBack_pure t ls s1 hS (by omega)
  have i2 := specStepsBack_pure t ls s1 (by omega) hS (by omega)
  have i3 := implStepsDo_pure t ls s1 hS (by omega)
  have hsm := stepsT_small s1 hS
  have hbm := backsT_Sm s1 hS
  have wt := wcTree_refl t s1
  have hbs := backs_steps t ls
  have hbl := backsT_len t ls
  have hT := fun x => backs_stepsT (t := t) (x := x) (ls := ls)
  have hlen := prows_len ls
  generalize prows ls = rows at *
  generalize stepsT t ls = yb at *
  generalize backsT t ls = bb at *
  obtain ⟨y, b⟩ := yb
  obtain ⟨us, b'⟩ := bb
  simp only [spR] at i1 i2 i3 hsm hbm hbs hbl hT
  subst hbs
  have hul : us.length ≤ 1000000 := by
    rw [hbl]
    split <;> omega
  have i4 := implStepsDo_pure y us hsm hbm (by omega)
  have ws := wcSteps_refl us (fun s h => (hbm s h).1) (by omega)
  have hT := fun h => hT y h
  have heq : ∀ b : Bool, (!(b == b)) = false := by decide
  have hulen := prows_len us
  generalize prows us = urows at *
  obtain ⟨ti, tk, tx, tks⟩ := t
  obtain ⟨yi, yk, yx, yks⟩ := y
  conv => whnf
  refine .inl (i1.mono ?_)
  rintro r rfl
  conv => whnf
  refine .inl (i2.mono ?_)
  rintro r rfl
  conv => whnf
  refine .inl (i3.mono ?_)
  rintro r rfl
  conv => whnf
  rw [heq]
  conv => whnf
  refine .inl (ws.mono ?_)
  rintro r rfl
  conv => whnf
  rw [heq]
  conv => whnf
  cases b' with
  | false =>
    conv => whnf
    rw [if_neg (by simp)] at hbl
    rw [hulen, hbl, eqB_t (by simp)]
  | true =>
    rw [hT rfl] at i4
    conv => whnf
    refine .inl (i4.mono ?_)
    rintro r rfl
    conv => whnf
    refine .inl (wt.mono ?_)
    rintro r rfl
    conv => whnf
    rw [if_pos rfl] at hbl
    rw [hulen, hlen, hbl, eqB_refl]
theorem lawFnStepsBack (bs : List UInt8) : Pure Try.prog 9 [.sl (brows bs)] (· = .bool true) := law_fnStepsBack bs
theorem conFnStepsBack (H : Type) (enc : TypeId × Value → H) (W : World) (base : Nat) (args : Array Value) (ds gs : List (DataW H)) (before : List MemPlace)
    (hval : ∀ (j : Nat) t v, Try.f9.params[j]? = some t → args[j]? = some v → Value.okWide Try.prog W .any base t v)
    (hW : DataW.Whole enc Try.prog Try.f9.params.toList Ytpbomdlknkakgaa.Rows.fnStepsBackSpec.vars false W args.toList ds gs before) {fresh handsOn again : Bool} :
    Calls Try.prog 9 args W fun e W' => ∃ v, e = .returned v ∧ Ytpbomdlknkakgaa.Rows.fnStepsBackSpec.post enc Try.prog Try.f9 false fresh handsOn again W args v W' := by
  refine law_calls kids full (tb := 4) rfl Try.underlying4 (by decide +kernel) rfl hW (fun ds h => by match ds, h with | [_], _ => exact ⟨rfl, rfl, rfl⟩) hval
    (Ss := [fun x => ∃ bs : List UInt8, x = .sl (brows bs)]) laid0 ?_ ?_
  · rw [Try.params9]
    exact ⟨argBytes, trivial⟩
  · intro xs h
    obtain ⟨_, rfl, ⟨t0, rfl⟩⟩ := hold1 h
    exact lawFnStepsBack t0

set_option maxRecDepth 100000 in
theorem overFnStepsBack : Ytpbomdlknkakgaa.Rows.FnStepsBackSaid :=
  OpenClaim.holds_of_wide 9 Try.f9 rfl rfl rfl rfl rfl rfl rfl ⟨rfl, rfl, rfl, rfl, rfl⟩ rfl rfl rfl rfl rfl (by kernel_rfl) Try.func9 (by kernel_rfl)
    (of_decide_eq_true (by kernel_rfl)) (by unfold Func.isWrapper; first | (rw [if_pos (by decide +kernel)]; kernel_rfl) | (rw [if_neg (by decide +kernel)]; exact ⟨rfl, rfl⟩))
    (fun os started H enc _ => returnsInHanded_of_change ownK started (by kernel_rfl) Try.func9
      (ChangeSpec.witness6 (enc := enc) (C := Try.checked) false ⟨#[], #[.slice none 0 0], []⟩ 8 (by kernel_rfl) (by kernel_rfl) (by kernel_rfl) (by kernel_rfl))
      (fun W base args ds gs before hval hW _ _ => conFnStepsBack H enc W base args ds gs before hval hW))
end Go.Cod

