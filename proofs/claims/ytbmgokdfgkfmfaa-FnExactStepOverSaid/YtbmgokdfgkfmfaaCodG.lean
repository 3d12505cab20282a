/- Own texts. -/
import Derived.Test.YtbmgokdfgkfmfaaCodF
namespace Go.Cod
open Go Go.Proofs Go.ChangeShapes Go.WideShapes Go.ChangeAt Go.RowKit
set_option maxRecDepth 10000

def cb8 (w : Nat) (cs : List V) : O := ⟨[cs], w, true, true, true, .cell⟩
def OverR (r : Stp × Bool) (o : Out) (st' : St) : Prop := ∃ l : LT, l.erase = r.1.node ∧ l.Wf ∧ o = .ret (.tup [.agg (stpC r.1 l), .bool r.2]) ∧ st' = [poolO l.ents]
def NewOv (r : Stp × Bool) (o : Out) (st' : St) : Prop := ∃ l : LT, l.erase = r.1.node ∧ l.Wf ∧ (l.ents.map labOf).Nodup ∧ o = .ret (.tup [.agg (stpC r.1 l), .bool r.2]) ∧ st' = [poolO l.ents]
theorem view_app {es : List (List V)} {a b c : List V} (h : View es (.agg a) (.agg b)) : View es (.agg (a ++ c)) (.agg (b ++ c)) := by
  cases h with
  | same => exact .same _
  | agg hl h =>
    refine .agg (by simp [hl]) fun i x y h1 h2 => ?_
    by_cases hi : i < a.length
    · rw [List.getElem?_append_left hi] at h1
      rw [List.getElem?_append_left (by omega)] at h2
      exact h i x y h1 h2
    · rw [List.getElem?_append_right (by omega)] at h1 h2
      rw [← hl] at h2
      rw [h1] at h2
      cases h2
      exact .same _
set_option maxHeartbeats 8000000 in
theorem implStepOver_acc (t : T) (ht : t.Small) (s u : Stp) (hs : s.node.Small) (hu : u.node.Small) (hx : s.text.length ≤ 1048576) (hy : u.text.length ≤ 1048576) :
    Full Try.prog noY 11 [.agg t.cells, .agg s.cells, .agg u.cells] [poolO []] (OverR (overP t s u)) := by
  have f0 := implStepsMeet_pure t ht s u hs hu hx hy
  have f1 := treeCopy_acc u.node hu []
  have f2 : stepsMeetT t s u = false → Pure Try.prog 37 [.agg (u.cells ++ s.cells), .agg t.cells] (· = .int .i64 (shiftI t s u)) := fun h => by
    obtain ⟨ho, _, ⟨y, d⟩, _⟩ := meet_no h
    obtain ⟨_, ⟨x, hx⟩, _⟩ := doT_kind d
    have := fT_kids_len hx
    have := okT_size ho
    exact shift_pure t ht s u x hx (by omega)
  have hw : stepsMeetT t s u = false → IntKind.i64.wrap (u.at_ + shiftI t s u) = u.at_ + shiftI t s u := fun h => by
    obtain ⟨ho, _, ⟨y, d⟩, _⟩ := meet_no h
    have := doT_at ho d
    have : -1 ≤ shiftI t s u ∧ shiftI t s u ≤ 1 := by
      unfold shiftI
      repeat' split
      all_goals omega
    exact wrap64 (by omega) (by omega)
  have hv := fun l es h1 h2 h3 => view_app (c := s.cells) (stp_view u l h1 h2 (es := es) h3)
  unfold overP
  generalize stepsMeetT t s u = m at *
  generalize shiftI t s u = j at *
  obtain ⟨skind, sid, sat, ⟨nid, nk, nx, nks⟩, stext⟩ := s
  obtain ⟨ukind, uid, uat, ⟨mid, mk, mx, mks⟩, utext⟩ := u
  obtain ⟨ti, tk, tx, tks⟩ := t
  simp only at hw hv f1
  refine full_of_awp good Try.func11 rfl (by kernel_rfl) (by decide) ?_
  conv => whnf
  refine .inl (f0.mono ?_)
  rintro r rfl
  cases m with
  | true =>
    conv => whnf
    refine ⟨[], true, ?_⟩
    conv => whnf
    exact ⟨.mk 0 [] [] none [], rfl, by simp [LT.Wf, LT.WfL], rfl, rfl⟩
  | false =>
    have f2 := f2 rfl
    have hw := hw rfl
    conv => whnf
    refine .inr (.inl ⟨[0], true, ?_⟩)
    conv => whnf
    refine f1.mono ?_
    rintro o st' ⟨l, l1, l2, rfl, rfl⟩
    have hv := hv l ([] ++ l.ents) l1 l2 (fun e he => by simpa using he)
    obtain ⟨li, lk, lx, lh, lks⟩ := l
    rcases lh with _ | ⟨lb, lc⟩
    all_goals
      conv => whnf
      refine ⟨.int .i64 j, .inr ⟨_, [.agg _, .agg _], fun e he => ⟨0, he⟩, viewL2 hv (.same _), rfl, f2.mono fun r hr => ⟨by rw [hr]; rfl, hr⟩⟩, ?_⟩
      conv => whnf
      rw [hw]
      refine ⟨[], true, ?_⟩
      conv => whnf
      exact ⟨_, l1, l2, rfl, rfl⟩
theorem implStepOver_new (t : T) (ht : t.Small) (s u : Stp) (hs : s.node.Small) (hu : u.node.Small) (hx : s.text.length ≤ 1048576) (hy : u.text.length ≤ 1048576) :
    Full Try.prog noY 11 [.agg t.cells, .agg s.cells, .agg u.cells] [] (NewOv (overP t s u)) := by
  refine (Full.givenEnd (Full.start (implStepOver_acc t ht s u hs hu hx hy))).mono ?_
  rintro o st' ⟨⟨l, h1, h2, rfl, rfl⟩, hl⟩
  exact ⟨l, h1, h2, hl.nodup (k := 0) rfl, rfl, rfl⟩
theorem implStepOver_pure (t : T) (ht : t.Small) (s u : Stp) (hs : s.node.Small) (hu : u.node.Small) (hx : s.text.length ≤ 1048576) (hy : u.text.length ≤ 1048576) :
    Pure Try.prog 11 [.agg t.cells, .agg s.cells, .agg u.cells] (· = .tup [.agg (overP t s u).1.cells, .bool (overP t s u).2]) := by
  refine Full.freeze (implStepOver_new t ht s u hs hu hx hy) ?_
  rintro o st' ⟨l, h1, h2, h3, rfl, rfl⟩
  have hv := viewL2 (y' := .bool (overP t s u).2) (stp_view (overP t s u).1 l h1 h2 (es := l.ents) (fun _ h => h)) (.same _)
  refine ⟨_, _, .tup [.agg (overP t s u).1.cells, .bool (overP t s u).2], rfl, rfl, .tup hv.1 hv.2, ?_, rfl⟩
  cases l with
  | mk id kind text h kids => rcases h with _ | ⟨b, c⟩ <;> rfl
theorem viewL3 {es : List (List V)} {x x' y y' z z' : V} (h1 : View es x x') (h2 : View es y y') (h3 : View es z z') : [x, y, z].length = [x', y', z'].length ∧ ∀ (i : Nat) a b, [x, y, z][i]? = some a → [x', y', z'][i]? = some b → View es a b := by
  refine ⟨rfl, fun i a b p q => ?_⟩
  match i, p, q with
  | 0, p, q => cases p; cases q; exact h1
  | 1, p, q => cases p; cases q; exact h2
  | 2, p, q => cases p; cases q; exact h3
  | i + 3, p, q => simp at p
theorem implStepOver_lent (t : T) (ht : t.Small) (s u : Stp) (hs : s.node.Small) (hu : u.node.Small) (hx : s.text.length ≤ 1048576) (hy : u.text.length ≤ 1048576)
    (lx ls lu : LT) (hlx : lx.erase = t) (hls : ls.erase = s.node) (hlu : lu.erase = u.node) (hxw : lx.Wf) (hsw : ls.Wf) (huw : lu.Wf) (es1 es2 es3 : List (List V)) (h1 : ∀ e ∈ lx.ents, e ∈ es1) (h2 : ∀ e ∈ ls.ents, e ∈ es2) (h3 : ∀ e ∈ lu.ents, e ∈ es3) :
    Full Try.prog noY 11 [.agg lx.cells, .agg (stpC s ls), .agg (stpC u lu)] [poolO es1, poolO es2, poolO es3] fun o st' => ∃ st1, NewOv (overP t s u) o st1 ∧ st' = poolO es1 :: poolO es2 :: poolO es3 :: st1 := by
  have hc : V.clean.cleanL 0 [V.agg lx.cells, .agg (stpC s ls), .agg (stpC u lu)] = true := by simp only [V.clean.cleanL, cleanA lx, stpC_clean s ls, stpC_clean u lu]; rfl
  have hv1 := lx.viewA hxw (es := [es1, es2, es3].flatten) (fun e he => by simp [h1 e he])
  rw [hlx] at hv1
  have hv2 := stp_view s ls hls hsw (es := [es1, es2, es3].flatten) (fun e he => by simp [h2 e he])
  have hv3 := stp_view u lu hlu huw (es := [es1, es2, es3].flatten) (fun e he => by simp [h3 e he])
  refine (Full.lent (ps := [es1, es2, es3]) (implStepOver_new t ht s u hs hu hx hy) (viewL3 hv1 hv2 hv3) hc ?_).mono ?_
  · rintro o st1 ⟨l, h1, h2, h3, rfl, rfl⟩
    refine ⟨_, rfl, ?_, fun p hp => by simp at hp; subst hp; exact FlatO.pool l⟩
    cases l with
    | mk id kind text h kids => rcases h with _ | ⟨b, c⟩ <;> rfl
  · rintro o st' ⟨v, st1, ⟨l, h1, h2, h3, hv, rfl⟩, rfl, rfl⟩
    cases hv
    refine ⟨[poolO l.ents], ⟨l, h1, h2, h3, ?_, rfl⟩, rfl⟩
    cases l with
    | mk id kind text h kids => rcases h with _ | ⟨b, c⟩ <;> rfl
set_option maxHeartbeats 8000000 in
theorem specStepOver_pure (t : T) (ht : t.Small) (hn : t.ids.length ≤ 1048577) (s u : Stp) (hs : s.node.Small) (hu : u.node.Small) (hz : s.node.size ≤ 1048577) (hw : u.node.size ≤ 1048577) (hx : s.text.length ≤ 1048576) (hy : u.text.length ≤ 1048576) :
    Pure Try.prog 12 [.agg t.cells, .agg s.cells, .agg u.cells] (· = .tup [.agg (overP t s u).1.cells, .bool (overP t s u).2]) := by
  have f0 := specStepsMeet_pure t ht hn s u hs hu hz hw hx hy
  have f1 := l2Copy_pure u.node hu
  have f2 := l2Over_pure t ht s.id 0
  have f3 := l4Place_pure t ht s.id
  have hat : stepsMeetT t s u = false → 0 ≤ u.at_ ∧ u.at_ ≤ 20 := fun h => by
    obtain ⟨ho, _, ⟨y, d⟩, _⟩ := meet_no h
    exact doT_at ho d
  have hsp := fun h => shift_spec (t := t) (s := s) (u := u) h
  unfold overP shiftI
  generalize stepsMeetT t s u = m at *
  generalize placeGo s.id 0 (kidOf t u.id).kids = j at *
  generalize place0 s.id (kidOf t (overT t s.id 0)).kids = j' at *
  generalize overT t s.id 0 = ov at *
  obtain ⟨skind, sid, sat, ⟨nid, nk, nx, nks⟩, stext⟩ := s
  obtain ⟨ukind, uid, uat, ⟨mid, mk, mx, mks⟩, utext⟩ := u
  obtain ⟨ti, tk, tx, tks⟩ := t
  simp only at f0 f1 f2 f3 hat hsp ⊢
  refine pure_of_box good Try.func12 rfl (by kernel_rfl) (by decide) fun A hA => ?_
  conv => whnf
  refine box_go hA ?_
  conv => whnf
  refine box_with hA [(3, .ptr 0 0 0), (4, .ptr 1 0 0), (5, .ptr 2 0 0), (6, .ptr 3 0 0)] ⟨rfl, rfl, rfl, rfl, trivial⟩ fun fr => ?_
  conv => whnf
  refine .inl (f0.mono ?_)
  rintro r rfl
  cases m with
  | true =>
    conv => whnf
    refine box_go hA ?_
    conv => whnf
    rfl
  | false =>
    obtain ⟨at0, at1⟩ := hat rfl
    have hsp := hsp rfl
    have w1 : IntKind.i64.wrap (uat + 1) = uat + 1 := wrap64 (by omega) (by omega)
    have w2 : IntKind.i64.wrap (uat - 1) = uat + -1 := wrap64 (by omega) (by omega)
    conv => whnf
    refine box_with hA [(3, .ptr 0 0 0), (4, .ptr 1 0 0), (5, .ptr 2 0 0), (6, .ptr 3 0 0)] ⟨rfl, rfl, rfl, rfl, trivial⟩ fun fr => ?_
    conv => whnf
    refine box_cutw hA 5 [(3, .ptr 0 0 0), (4, .ptr 1 0 0), (5, .ptr 2 0 0), (6, .ptr 3 0 0), (8, .ptr 4 0 0)] ⟨rfl, rfl, rfl, rfl, rfl, trivial⟩ fun K1 hK1 fr => ?_
    conv => whnf
    refine .inl (f1.mono ?_)
    rintro r rfl
    conv => whnf
    refine hK1 _ [cb8 4 [.int .i64 ti, .str tk, .str tx, .sl (T.rows tks)], cb8 8 [.int .i64 skind, .int .i64 sid, .int .i64 sat, .int .i64 nid, .str nk, .str nx, .sl (T.rows nks), .str stext], cb8 8 [.int .i64 ukind, .int .i64 uid, .int .i64 uat, .int .i64 mid, .str mk, .str mx, .sl (T.rows mks), .str utext], cb8 8 [.int .i64 0, .int .i64 0, .int .i64 0, .int .i64 0, .str [], .str [], .nils, .str []], cb8 8 [.int .i64 ukind, .int .i64 uid, .int .i64 uat, .int .i64 mid, .str mk, .str mx, .sl (T.rows mks), .str utext]] ?_
    clear hK1 K1
    refine box_go hA ?_
    conv => whnf
    refine box_with hA [(3, .ptr 0 0 0), (4, .ptr 1 0 0), (5, .ptr 2 0 0), (6, .ptr 3 0 0), (8, .ptr 4 0 0)] ⟨rfl, rfl, rfl, rfl, rfl, trivial⟩ fun fr => ?_
    conv => whnf
    have z0 : uat + 0 = uat := by omega
    by_cases k1 : ukind = 1
    · rw [eqB_t k1, if_pos k1]
      conv => whnf
      by_cases k2 : skind = 1
      · rw [eqB_t k2, if_pos k2]
        have k2' : ¬ skind = 2 := by omega
        conv => whnf
        by_cases k3 : sid = uid
        · rw [eqB_t k3]
          conv => whnf
          by_cases k4 : sat < uat
          · rw [ltB_t k4, if_pos (show sid = uid ∧ sat < uat from ⟨k3, k4⟩)]
            conv => whnf
            refine box_with hA [(3, .ptr 0 0 0), (4, .ptr 1 0 0), (5, .ptr 2 0 0), (6, .ptr 3 0 0), (8, .ptr 4 0 0)] ⟨rfl, rfl, rfl, rfl, rfl, trivial⟩ fun fr => ?_
            conv => whnf
            rw [w1, eqB_t k1]
            conv => whnf
            rw [eqB_f k2']
            conv => whnf
            refine box_go hA ?_
            conv => whnf
            rfl
          · rw [ltB_f (show uat ≤ sat by omega), if_neg (show ¬ (sid = uid ∧ sat < uat) from fun h => k4 h.2), z0]
            conv => whnf
            rw [eqB_t k1]
            conv => whnf
            rw [eqB_f k2']
            conv => whnf
            refine box_go hA ?_
            conv => whnf
            rfl
        · rw [eqB_f k3, if_neg (show ¬ (sid = uid ∧ sat < uat) from fun h => k3 h.1), z0]
          conv => whnf
          rw [eqB_t k1]
          conv => whnf
          rw [eqB_f k2']
          conv => whnf
          refine box_go hA ?_
          conv => whnf
          rfl
      · rw [eqB_f k2, if_neg k2]
        conv => whnf
        rw [eqB_t k1]
        conv => whnf
        by_cases k3 : skind = 2
        · have hsp := hsp k3
          rw [eqB_t k3, if_pos k3]
          conv => whnf
          refine ⟨_, .inl f2, ?_⟩
          conv => whnf
          by_cases k5 : ov = uid
          · rw [eqB_t k5]
            conv => whnf
            refine ⟨_, .inl f3, ?_⟩
            conv => whnf
            by_cases k6 : j' < uat
            · rw [ltB_t k6, if_pos (hsp.1 ⟨k5, k6⟩)]
              conv => whnf
              refine box_go hA ?_
              conv => whnf
              rw [w2]
              refine box_go hA ?_
              conv => whnf
              rfl
            · rw [ltB_f (show uat ≤ j' by omega), if_neg (show ¬ (0 ≤ j ∧ j < uat) from fun h => k6 (hsp.2 h).2), z0]
              conv => whnf
              refine box_go hA ?_
              conv => whnf
              rfl
          · rw [eqB_f k5, if_neg (show ¬ (0 ≤ j ∧ j < uat) from fun h => k5 (hsp.2 h).1), z0]
            conv => whnf
            refine box_go hA ?_
            conv => whnf
            rfl
        · rw [eqB_f k3, if_neg k3, z0]
          conv => whnf
          refine box_go hA ?_
          conv => whnf
          rfl
    · rw [eqB_f k1, if_neg k1, z0]
      conv => whnf
      rw [eqB_f k1]
      conv => whnf
      refine box_go hA ?_
      conv => whnf
      rfl
end Go.Cod

namespace Go.Cod
open Go Go.Proofs Go.ChangeShapes Go.WideShapes Go.ChangeAt Go.RowKit
set_option maxRecDepth 10000

theorem ownK : ownKnob Try.prog.godebug = none := by kernel_rfl
theorem argTree {H : Type} {enc : TypeId × Value → H} {W : World} : ReadsA enc Try.prog W 41 fun x => ∃ vs, x = .agg vs ∧ ∃ t : T, vs = t.cells ∧ t.Ok := readsA_agg Try.underlying41 fun n => reads_tree n
theorem argStep {H : Type} {enc : TypeId × Value → H} {W : World} : ReadsA enc Try.prog W 43 fun x => ∃ vs, x = .agg vs ∧ ∃ s : Stp, vs = s.cells ∧ s.Ok := readsA_agg Try.underlying43 fun n => reads_step n

end Go.Cod

namespace Go.Cod
open Go Go.Proofs Go.ChangeShapes Go.WideShapes Go.ChangeAt Go.RowKit
set_option maxRecDepth 10000

theorem overP_node (t : T) (s u : Stp) : (overP t s u).1.node = u.node ∨ (overP t s u).1.node = TZ := by
  unfold overP
  split
  · exact .inr rfl
  · exact .inl rfl
set_option maxHeartbeats 16000000 in
theorem law_stepOverX (t : T) (ht : t.Ok) (s : Stp) (hs : s.Ok) (u : Stp) (hu : u.Ok) : Pure Try.prog 6 [.agg t.cells, .agg s.cells, .agg u.cells] (· = .bool true) := by
  have hsz := szT_pure t ht 1048576 (by omega) (by omega)
  have hsm := small_of_sz t ht 1048576 (by omega)
  have hsl := szT_le t 1048576 (by omega)
  have hid := ids_sz t 1048576
  have hsz2 := szStep_pure s hs (szT t 1048576)
  have hsm2 := stp_small s hs (szT t 1048576) (by omega)
  have hsz3 := szStep_pure u hu (szStp s (szT t 1048576))
  have hsm3 := stp_small u hu (szStp s (szT t 1048576))
  have e1 := toTree_pure t
  have e2 := eqTree_pure t
  have e1s := toStep_pure s
  have e2s := eqStep_pure s
  have e1u := toStep_pure u
  have e2u := eqStep_pure u
  have en := toTree_new t
  have ens := toStep_new s
  have enu := toStep_new u
  have hS := fun h1 h2 h3 h4 h5 h6 h7 h8 => specStepOver_pure t h1 h2 s u h3 h4 h5 h6 h7 h8
  have hI := fun h1 h2 h3 h4 h5 => implStepOver_pure t h1 s u h2 h3 h4 h5
  have hil := fun h1 h2 h3 h4 h5 => implStepOver_lent t h1 s u h2 h3 h4 h5
  have hst := fun (h1 : u.node.Small) (h2 : u.node.size ≤ 1048577) => (by
    rcases overP_node t s u with e | e <;> rw [e]
    · exact ⟨h1, h2⟩
    · exact ⟨TZ_small, by simp [TZ, T.size, T.sizeL]⟩ : (overP t s u).1.node.Small ∧ (overP t s u).1.node.size ≤ 1048577)
  have hle : 0 ≤ szT t 1048576 → szStp s (szT t 1048576) ≤ szT t 1048576 := fun h => by
    have := (szT_le s.node (szT t 1048576) h)
    unfold szStp
    repeat' split
    all_goals omega
  have htz := T.ids_size t
  have hks := T.kids_size t
  have hksn := T.kids_size s.node
  have hksu := T.kids_size u.node
  have hmst := fun l hl k es h0 h1 hw hin hn => markStep_new s l hl k es h0 h1 hw hin hn
  have hvs := fun l hl hw es he => stp_view s l hl hw (es := es) he
  have hmsu := fun l hl k es h0 h1 hw hin hn => markStep_new u l hl k es h0 h1 hw hin hn
  have hvu := fun l hl hw es he => stp_view u l hl hw (es := es) he
  generalize hl : szT t 1048576 = left at *
  generalize hl2 : szStp s left = left2 at *
  generalize hl3 : szStp u left2 = left3 at *
  generalize overP t s u = wb at *
  obtain ⟨w, b⟩ := wb
  simp only at hS hI hst
  cases t with
  | mk id kind text kids =>
  obtain ⟨skind, sid, sat, snode, stext⟩ := s
  cases snode with
  | mk nid nk nx nks =>
  obtain ⟨ukind, uid, uat, unode, utext⟩ := u
  cases unode with
  | mk mid mk mx mks =>
  show Pure Try.prog _ [.agg [.int .i64 id, .str kind, .str text, .sl (T.rows kids)], .agg [.int .i64 skind, .int .i64 sid, .int .i64 sat, .int .i64 nid, .str nk, .str nx, .sl (T.rows nks), .str stext], .agg [.int .i64 ukind, .int .i64 uid, .int .i64 uat, .int .i64 mid, .str mk, .str mx, .sl (T.rows mks), .str utext]] _
  refine pure_of_box good Try.func6 rfl (by kernel_rfl) (by decide) fun A hA => ?_
  conv => whnf
  refine box_cut hA 1 fun K1 hK1 => ?_
  conv => whnf
  refine hK1 _ [⟨[[.int .i64 id, .str kind, .str text, .sl (T.rows kids)]], 4, true, true, true, .cell⟩] ?_
  clear hK1 K1
  refine box_cut hA 1 fun K1 hK1 => ?_
  conv => whnf
  refine hK1 _ [⟨[[.int .i64 id, .str kind, .str text, .sl (T.rows kids)]], 4, true, true, true, .cell⟩, ⟨[[.int .i64 skind, .int .i64 sid, .int .i64 sat, .int .i64 nid, .str nk, .str nx, .sl (T.rows nks), .str stext]], 8, true, true, true, .cell⟩] ?_
  clear hK1 K1
  refine box_cut hA 1 fun K1 hK1 => ?_
  conv => whnf
  refine hK1 _ [⟨[[.int .i64 id, .str kind, .str text, .sl (T.rows kids)]], 4, true, true, true, .cell⟩, ⟨[[.int .i64 skind, .int .i64 sid, .int .i64 sat, .int .i64 nid, .str nk, .str nx, .sl (T.rows nks), .str stext]], 8, true, true, true, .cell⟩, ⟨[[.int .i64 ukind, .int .i64 uid, .int .i64 uat, .int .i64 mid, .str mk, .str mx, .sl (T.rows mks), .str utext]], 8, true, true, true, .cell⟩] ?_
  clear hK1 K1
  refine box_with hA [(3, .ptr 0 0 0), (4, .ptr 1 0 0), (5, .ptr 2 0 0)] ⟨rfl, rfl, rfl, trivial⟩ fun fr => ?_
  conv => whnf
  refine box_cutw hA 1 [(3, .ptr 0 0 0), (4, .ptr 1 0 0), (5, .ptr 2 0 0)] ⟨rfl, rfl, rfl, trivial⟩ fun K1 hK1 fr => ?_
  conv => whnf
  refine hK1 _ [⟨[[.int .i64 id, .str kind, .str text, .sl (T.rows kids)]], 4, true, true, true, .cell⟩, ⟨[[.int .i64 skind, .int .i64 sid, .int .i64 sat, .int .i64 nid, .str nk, .str nx, .sl (T.rows nks), .str stext]], 8, true, true, true, .cell⟩, ⟨[[.int .i64 ukind, .int .i64 uid, .int .i64 uat, .int .i64 mid, .str mk, .str mx, .sl (T.rows mks), .str utext]], 8, true, true, true, .cell⟩] ?_
  clear hK1 K1
  refine box_with hA [(3, .ptr 0 0 0), (4, .ptr 1 0 0), (5, .ptr 2 0 0), (7, .int .i64 1048576)] ⟨rfl, rfl, rfl, rfl, trivial⟩ fun fr => ?_
  conv => whnf
  refine box_cutw hA 4 [(3, .ptr 0 0 0), (4, .ptr 1 0 0), (5, .ptr 2 0 0), (7, .int .i64 1048576)] ⟨rfl, rfl, rfl, rfl, trivial⟩ fun K1 hK1 fr => ?_
  conv => whnf
  refine .inl ((hsz).mono ?_)
  rintro r rfl
  conv => whnf
  refine hK1 _ [⟨[[.int .i64 id, .str kind, .str text, .sl (T.rows kids)]], 4, true, true, true, .cell⟩, ⟨[[.int .i64 skind, .int .i64 sid, .int .i64 sat, .int .i64 nid, .str nk, .str nx, .sl (T.rows nks), .str stext]], 8, true, true, true, .cell⟩, ⟨[[.int .i64 ukind, .int .i64 uid, .int .i64 uat, .int .i64 mid, .str mk, .str mx, .sl (T.rows mks), .str utext]], 8, true, true, true, .cell⟩] ?_
  clear hK1 K1
  refine box_with hA [(3, .ptr 0 0 0), (4, .ptr 1 0 0), (5, .ptr 2 0 0), (7, .int .i64 left)] ⟨rfl, rfl, rfl, rfl, trivial⟩ fun fr => ?_
  conv => whnf
  refine box_cutw hA 2 [(3, .ptr 0 0 0), (4, .ptr 1 0 0), (5, .ptr 2 0 0), (7, .int .i64 left)] ⟨rfl, rfl, rfl, rfl, trivial⟩ fun K1 hK1 fr => ?_
  conv => whnf
  refine hK1 _ [⟨[[.int .i64 id, .str kind, .str text, .sl (T.rows kids)]], 4, true, true, true, .cell⟩, ⟨[[.int .i64 skind, .int .i64 sid, .int .i64 sat, .int .i64 nid, .str nk, .str nx, .sl (T.rows nks), .str stext]], 8, true, true, true, .cell⟩, ⟨[[.int .i64 ukind, .int .i64 uid, .int .i64 uat, .int .i64 mid, .str mk, .str mx, .sl (T.rows mks), .str utext]], 8, true, true, true, .cell⟩] ?_
  clear hK1 K1
  refine box_with hA [(3, .ptr 0 0 0), (4, .ptr 1 0 0), (5, .ptr 2 0 0), (7, .int .i64 left), (24, .bool (ltB left 0))] ⟨rfl, rfl, rfl, rfl, rfl, trivial⟩ fun fr => ?_
  conv => whnf
  by_cases a1 : left < 0
  · rw [ltB_t a1]
    conv => whnf
    refine box_go hA ?_
    conv => whnf
  rw [ltB_f (by omega)]
  have hS0 := hsm (by omega)
  have hid := hid (by omega)
  have hle := hle (by omega)
  conv => whnf
  refine box_cutw hA 4 [(3, .ptr 0 0 0), (4, .ptr 1 0 0), (5, .ptr 2 0 0), (7, .int .i64 left)] ⟨rfl, rfl, rfl, rfl, trivial⟩ fun K1 hK1 fr => ?_
  conv => whnf
  refine .inl ((hsz2 (by omega) (by omega)).mono ?_)
  rintro r rfl
  conv => whnf
  refine hK1 _ [⟨[[.int .i64 id, .str kind, .str text, .sl (T.rows kids)]], 4, true, true, true, .cell⟩, ⟨[[.int .i64 skind, .int .i64 sid, .int .i64 sat, .int .i64 nid, .str nk, .str nx, .sl (T.rows nks), .str stext]], 8, true, true, true, .cell⟩, ⟨[[.int .i64 ukind, .int .i64 uid, .int .i64 uat, .int .i64 mid, .str mk, .str mx, .sl (T.rows mks), .str utext]], 8, true, true, true, .cell⟩] ?_
  clear hK1 K1
  refine box_with hA [(3, .ptr 0 0 0), (4, .ptr 1 0 0), (5, .ptr 2 0 0), (7, .int .i64 left2)] ⟨rfl, rfl, rfl, rfl, trivial⟩ fun fr => ?_
  conv => whnf
  refine box_cutw hA 2 [(3, .ptr 0 0 0), (4, .ptr 1 0 0), (5, .ptr 2 0 0), (7, .int .i64 left2)] ⟨rfl, rfl, rfl, rfl, trivial⟩ fun K1 hK1 fr => ?_
  conv => whnf
  refine hK1 _ [⟨[[.int .i64 id, .str kind, .str text, .sl (T.rows kids)]], 4, true, true, true, .cell⟩, ⟨[[.int .i64 skind, .int .i64 sid, .int .i64 sat, .int .i64 nid, .str nk, .str nx, .sl (T.rows nks), .str stext]], 8, true, true, true, .cell⟩, ⟨[[.int .i64 ukind, .int .i64 uid, .int .i64 uat, .int .i64 mid, .str mk, .str mx, .sl (T.rows mks), .str utext]], 8, true, true, true, .cell⟩] ?_
  clear hK1 K1
  refine box_with hA [(3, .ptr 0 0 0), (4, .ptr 1 0 0), (5, .ptr 2 0 0), (7, .int .i64 left2), (29, .bool (ltB left2 0))] ⟨rfl, rfl, rfl, rfl, rfl, trivial⟩ fun fr => ?_
  conv => whnf
  by_cases a2 : left2 < 0
  · rw [ltB_t a2]
    conv => whnf
    refine box_go hA ?_
    conv => whnf
  rw [ltB_f (by omega)]
  obtain ⟨hN, hX, hNz⟩ := hsm2 (by omega) (by omega)
  conv => whnf
  refine box_cutw hA 4 [(3, .ptr 0 0 0), (4, .ptr 1 0 0), (5, .ptr 2 0 0), (7, .int .i64 left2)] ⟨rfl, rfl, rfl, rfl, trivial⟩ fun K1 hK1 fr => ?_
  conv => whnf
  refine .inl ((hsz3 (by omega) (by omega)).mono ?_)
  rintro r rfl
  conv => whnf
  refine hK1 _ [⟨[[.int .i64 id, .str kind, .str text, .sl (T.rows kids)]], 4, true, true, true, .cell⟩, ⟨[[.int .i64 skind, .int .i64 sid, .int .i64 sat, .int .i64 nid, .str nk, .str nx, .sl (T.rows nks), .str stext]], 8, true, true, true, .cell⟩, ⟨[[.int .i64 ukind, .int .i64 uid, .int .i64 uat, .int .i64 mid, .str mk, .str mx, .sl (T.rows mks), .str utext]], 8, true, true, true, .cell⟩] ?_
  clear hK1 K1
  refine box_with hA [(3, .ptr 0 0 0), (4, .ptr 1 0 0), (5, .ptr 2 0 0), (7, .int .i64 left3)] ⟨rfl, rfl, rfl, rfl, trivial⟩ fun fr => ?_
  conv => whnf
  refine box_cutw hA 2 [(3, .ptr 0 0 0), (4, .ptr 1 0 0), (5, .ptr 2 0 0), (7, .int .i64 left3)] ⟨rfl, rfl, rfl, rfl, trivial⟩ fun K1 hK1 fr => ?_
  conv => whnf
  refine hK1 _ [⟨[[.int .i64 id, .str kind, .str text, .sl (T.rows kids)]], 4, true, true, true, .cell⟩, ⟨[[.int .i64 skind, .int .i64 sid, .int .i64 sat, .int .i64 nid, .str nk, .str nx, .sl (T.rows nks), .str stext]], 8, true, true, true, .cell⟩, ⟨[[.int .i64 ukind, .int .i64 uid, .int .i64 uat, .int .i64 mid, .str mk, .str mx, .sl (T.rows mks), .str utext]], 8, true, true, true, .cell⟩] ?_
  clear hK1 K1
  refine box_with hA [(3, .ptr 0 0 0), (4, .ptr 1 0 0), (5, .ptr 2 0 0), (7, .int .i64 left3), (34, .bool (ltB left3 0))] ⟨rfl, rfl, rfl, rfl, rfl, trivial⟩ fun fr => ?_
  conv => whnf
  by_cases a3 : left3 < 0
  · rw [ltB_t a3]
    conv => whnf
    refine box_go hA ?_
    conv => whnf
  rw [ltB_f (by omega)]
  obtain ⟨hM, hY, hMz⟩ := hsm3 (by omega) (by omega) (by omega)
  conv => whnf
  have e1 := e1 hS0
  have e2 := e2 hS0
  have e1s := e1s hN
  have e2s := e2s hN
  have e1u := e1u hM
  have e2u := e2u hM
  have hz : (T.mk id kind text kids).size ≤ 1048577 := by omega
  have hS := hS hS0 (by omega) hN hM hNz hMz hX hY
  have hI := hI hS0 hN hM hX hY
  have hil := hil hS0 hN hM hX hY
  obtain ⟨hwS, hwz⟩ := hst hM hMz
  have ew := eqStep_pure w hwS
  have hwk := T.kids_size w.node
  clear hsz hsz2 hsz3 hsm hsm2 hsm3 hst
  obtain ⟨wkind, wsid, wat, ⟨wid, wk, wt, wks⟩, wtext⟩ := w
  refine ⟨_, .inl e1, ?_⟩
  conv => whnf
  refine ⟨_, .inl e1s, ?_⟩
  conv => whnf
  refine ⟨_, .inl e1u, ?_⟩
  conv => whnf
  refine ⟨_, .inl hS, ?_⟩
  conv => whnf
  repeat (refine And.intro (by
            (conv => whnf)
            first
              | rfl
              | exact ⟨_, .inl e1, rfl⟩
              | exact ⟨_, .inl e1s, rfl⟩
              | exact ⟨_, .inl e1u, rfl⟩
              | exact ⟨_, .inl hS, rfl⟩) ?_
          conv => whnf)
  refine box_cutw hA 4 [(3, .ptr 0 0 0), (4, .ptr 1 0 0), (5, .ptr 2 0 0), (8, .ptr 3 0 0), (9, .bool b)] ⟨rfl, rfl, rfl, rfl, rfl, trivial⟩ fun K1 hK1 fr => ?_
  conv => whnf
  refine .inr (.inl ⟨[], false, ?_⟩)
  conv => whnf
  refine (en hS0).mono ?_
  rintro o st' ⟨lx, x1, x2, ⟨xb, xc, x3⟩, x4, rfl, rfl⟩
  have hmx := markTree_new lx x1 1 lx.ents (by omega) (by simp only [T.kids] at hks ⊢; omega) x2 (fun _ h => h) x4
  have hvx := lx.viewA x2 (es := lx.ents) (fun _ h => h)
  rw [x1] at hvx
  have hil := fun ls lu hl hu' hlw huw es2 es3 h2 h3 => hil lx ls lu x1 hl hu' x2 hlw huw lx.ents es2 es3 (fun _ h => h) h2 h3
  obtain ⟨kx, hkx⟩ : ∃ kx : Int, kx = 1 + 3 * (T.sizeL (T.mk id kind text kids).kids : Int) := ⟨_, rfl⟩
  have hkx0 : 1 ≤ kx := by omega
  have hkx1 : kx ≤ 10000000 := by simp only [T.kids] at hks hkx ⊢; omega
  rw [← hkx] at hmx
  clear hkx
  generalize lx.ents = esx at *
  generalize lx.kids = xks at *
  subst x3
  conv => whnf
  refine hK1 _ [⟨[[.int .i64 id, .str kind, .str text, .sl (T.rows kids)]], 4, true, true, true, .cell⟩, ⟨[[.int .i64 skind, .int .i64 sid, .int .i64 sat, .int .i64 nid, .str nk, .str nx, .sl (T.rows nks), .str stext]], 8, true, true, true, .cell⟩, ⟨[[.int .i64 ukind, .int .i64 uid, .int .i64 uat, .int .i64 mid, .str mk, .str mx, .sl (T.rows mks), .str utext]], 8, true, true, true, .cell⟩, ⟨[[.int .i64 wkind, .int .i64 wsid, .int .i64 wat, .int .i64 wid, .str wk, .str wt, .sl (T.rows wks), .str wtext]], 8, true, true, true, .cell⟩, poolO esx, ⟨[(LT.mk id kind text (some (xb, xc)) xks).cells], 4, true, true, true, .cell⟩] ?_
  clear hK1 K1
  refine box_with hA [(3, .ptr 0 0 0), (4, .ptr 1 0 0), (5, .ptr 2 0 0), (8, .ptr 3 0 0), (9, .bool b), (10, .ptr 5 0 0)] ⟨rfl, rfl, rfl, rfl, rfl, rfl, trivial⟩ fun fr => ?_
  conv => whnf
  refine box_cutw hA 4 [(3, .ptr 0 0 0), (4, .ptr 1 0 0), (5, .ptr 2 0 0), (8, .ptr 3 0 0), (9, .bool b), (10, .ptr 5 0 0)] ⟨rfl, rfl, rfl, rfl, rfl, rfl, trivial⟩ fun K1 hK1 fr => ?_
  conv => whnf
  refine .inr (.inl ⟨[], false, ?_⟩)
  conv => whnf
  refine (ens hN).mono ?_
  rintro o st' ⟨ls, s1, s2, ⟨sb, sc, s3⟩, s4, rfl, rfl⟩
  have hms := hmst ls s1 kx ls.ents (by omega) (by simp only [T.kids] at hksn ⊢; simp only at hNz; omega) s2 (fun _ h => h) s4
  have hvs := hvs ls s1 s2 ls.ents (fun _ h => h)
  have hil := fun lu hu' huw es3 h3 => hil ls lu s1 hu' s2 huw ls.ents es3 (fun _ h => h) h3
  obtain ⟨ky, hky⟩ : ∃ ky : Int, ky = kx + 3 * (T.sizeL (T.mk nid nk nx nks).kids : Int) := ⟨_, rfl⟩
  have hky0 : 1 ≤ ky := by omega
  have hky1 : ky ≤ 20000000 := by simp only [T.kids] at hksn hky; simp only at hNz; omega
  have hms := hms.mono (R' := fun o st' => ∃ es', o = .ret (.int .i64 ky) ∧ st' = [poolO es']) (fun o st' h => by rw [hky]; exact h)
  clear hky
  generalize ls.ents = ess at *
  generalize ls.kids = sks at *
  subst s3
  conv => whnf
  refine hK1 _ [⟨[[.int .i64 id, .str kind, .str text, .sl (T.rows kids)]], 4, true, true, true, .cell⟩, ⟨[[.int .i64 skind, .int .i64 sid, .int .i64 sat, .int .i64 nid, .str nk, .str nx, .sl (T.rows nks), .str stext]], 8, true, true, true, .cell⟩, ⟨[[.int .i64 ukind, .int .i64 uid, .int .i64 uat, .int .i64 mid, .str mk, .str mx, .sl (T.rows mks), .str utext]], 8, true, true, true, .cell⟩, ⟨[[.int .i64 wkind, .int .i64 wsid, .int .i64 wat, .int .i64 wid, .str wk, .str wt, .sl (T.rows wks), .str wtext]], 8, true, true, true, .cell⟩, poolO esx, ⟨[(LT.mk id kind text (some (xb, xc)) xks).cells], 4, true, true, true, .cell⟩, poolO ess, ⟨[stpC ⟨skind, sid, sat, .mk nid nk nx nks, stext⟩ (LT.mk nid nk nx (some (sb, sc)) sks)], 8, true, true, true, .cell⟩] ?_
  clear hK1 K1
  refine box_with hA [(3, .ptr 0 0 0), (4, .ptr 1 0 0), (5, .ptr 2 0 0), (8, .ptr 3 0 0), (9, .bool b), (10, .ptr 5 0 0), (11, .ptr 7 0 0)] ⟨rfl, rfl, rfl, rfl, rfl, rfl, rfl, trivial⟩ fun fr => ?_
  conv => whnf
  refine box_cutw hA 4 [(3, .ptr 0 0 0), (4, .ptr 1 0 0), (5, .ptr 2 0 0), (8, .ptr 3 0 0), (9, .bool b), (10, .ptr 5 0 0), (11, .ptr 7 0 0)] ⟨rfl, rfl, rfl, rfl, rfl, rfl, rfl, trivial⟩ fun K1 hK1 fr => ?_
  conv => whnf
  refine .inr (.inl ⟨[], false, ?_⟩)
  conv => whnf
  refine (enu hM).mono ?_
  rintro o st' ⟨lu, u1, u2, ⟨ub, uc, u3⟩, u4, rfl, rfl⟩
  have hmu := hmsu lu u1 ky lu.ents (by omega) (by simp only [T.kids] at hksu ⊢; simp only at hMz; omega) u2 (fun _ h => h) u4
  have hvu := hvu lu u1 u2 lu.ents (fun _ h => h)
  have hil := hil lu u1 u2 lu.ents (fun _ h => h)
  obtain ⟨kz, hkz⟩ : ∃ kz : Int, kz = ky + 3 * (T.sizeL (T.mk mid mk mx mks).kids : Int) := ⟨_, rfl⟩
  have hkz0 : 1 ≤ kz := by omega
  have hmu := hmu.mono (R' := fun o st' => ∃ es', o = .ret (.int .i64 kz) ∧ st' = [poolO es']) (fun o st' h => by rw [hkz]; exact h)
  clear hkz
  generalize lu.ents = esu at *
  generalize lu.kids = uks at *
  subst u3
  conv => whnf
  refine hK1 _ [⟨[[.int .i64 id, .str kind, .str text, .sl (T.rows kids)]], 4, true, true, true, .cell⟩, ⟨[[.int .i64 skind, .int .i64 sid, .int .i64 sat, .int .i64 nid, .str nk, .str nx, .sl (T.rows nks), .str stext]], 8, true, true, true, .cell⟩, ⟨[[.int .i64 ukind, .int .i64 uid, .int .i64 uat, .int .i64 mid, .str mk, .str mx, .sl (T.rows mks), .str utext]], 8, true, true, true, .cell⟩, ⟨[[.int .i64 wkind, .int .i64 wsid, .int .i64 wat, .int .i64 wid, .str wk, .str wt, .sl (T.rows wks), .str wtext]], 8, true, true, true, .cell⟩, poolO esx, ⟨[(LT.mk id kind text (some (xb, xc)) xks).cells], 4, true, true, true, .cell⟩, poolO ess, ⟨[stpC ⟨skind, sid, sat, .mk nid nk nx nks, stext⟩ (LT.mk nid nk nx (some (sb, sc)) sks)], 8, true, true, true, .cell⟩, poolO esu, ⟨[stpC ⟨ukind, uid, uat, .mk mid mk mx mks, utext⟩ (LT.mk mid mk mx (some (ub, uc)) uks)], 8, true, true, true, .cell⟩] ?_
  clear hK1 K1
  refine box_with hA [(3, .ptr 0 0 0), (4, .ptr 1 0 0), (5, .ptr 2 0 0), (8, .ptr 3 0 0), (9, .bool b), (10, .ptr 5 0 0), (11, .ptr 7 0 0), (12, .ptr 9 0 0)] ⟨rfl, rfl, rfl, rfl, rfl, rfl, rfl, rfl, trivial⟩ fun fr => ?_
  conv => whnf
  refine box_cutw hA 10 [(3, .ptr 0 0 0), (4, .ptr 1 0 0), (5, .ptr 2 0 0), (8, .ptr 3 0 0), (9, .bool b), (10, .ptr 5 0 0), (11, .ptr 7 0 0), (12, .ptr 9 0 0)] ⟨rfl, rfl, rfl, rfl, rfl, rfl, rfl, rfl, trivial⟩ fun K1 hK1 fr => ?_
  conv => whnf
  refine .inr (.inl ⟨[4, 6, 8], false, ?_⟩)
  conv => whnf
  refine hil.mono ?_
  rintro o st' ⟨st1, ⟨lg, g1, g2, g3, rfl, rfl⟩, rfl⟩
  have hmg := markStep_view ⟨wkind, wsid, wat, .mk wid wk wt wks, wtext⟩ lg g1 1 lg.ents (by omega) (by simp only [T.kids] at hwk ⊢; simp only at hwk hwz; omega) g2 (fun _ h => h) g3
  have hhg := heldStep_pureK ⟨wkind, wsid, wat, .mk wid wk wt wks, wtext⟩ 1 (by omega) (by simp only [T.kids] at hwk ⊢; simp only at hwk hwz; omega)
  have hvg := stp_view ⟨wkind, wsid, wat, .mk wid wk wt wks, wtext⟩ lg g1 g2 (es := lg.ents) (fun _ h => h)
  clear g1 g2 g3
  generalize lg.ents = esg at *
  have hcw : V.clean.cleanL 0 [V.agg (Stp.marked ⟨wkind, wsid, wat, .mk wid wk wt wks, wtext⟩ 1).cells, .int .i64 1] = true := rfl
  generalize (Stp.marked ⟨wkind, wsid, wat, .mk wid wk wt wks, wtext⟩ 1).cells = wm at hmg hhg hcw
  obtain ⟨kg, hkg⟩ : ∃ kg : Int, kg = 1 + 3 * (T.sizeL (T.mk wid wk wt wks).kids : Int) := ⟨_, rfl⟩
  have hkg0 : 0 ≤ kg := by omega
  have hmg := hmg.mono (R' := fun o st' => ∃ es', o = .ret (.int .i64 kg) ∧ st' = [poolO es'] ∧ View es' (.agg (stpC ⟨wkind, wsid, wat, .mk wid wk wt wks, wtext⟩ lg)) (.agg wm)) (fun o st' h => by rw [hkg]; exact h)
  have hhg := hhg.mono (R' := (· = .int .i64 kg)) (fun r h => by rw [hkg]; exact h)
  clear hkg
  clear hil en ens enu hmst hmsu
  cases lg with
  | mk gid gk gt gh gks =>
  rcases gh with _ | ⟨gb, gc⟩
  · conv => whnf
    refine hK1 _ [⟨[[.int .i64 id, .str kind, .str text, .sl (T.rows kids)]], 4, true, true, true, .cell⟩, ⟨[[.int .i64 skind, .int .i64 sid, .int .i64 sat, .int .i64 nid, .str nk, .str nx, .sl (T.rows nks), .str stext]], 8, true, true, true, .cell⟩, ⟨[[.int .i64 ukind, .int .i64 uid, .int .i64 uat, .int .i64 mid, .str mk, .str mx, .sl (T.rows mks), .str utext]], 8, true, true, true, .cell⟩, ⟨[[.int .i64 wkind, .int .i64 wsid, .int .i64 wat, .int .i64 wid, .str wk, .str wt, .sl (T.rows wks), .str wtext]], 8, true, true, true, .cell⟩, poolO esx, ⟨[(LT.mk id kind text (some (xb, xc)) xks).cells], 4, true, true, true, .cell⟩, poolO ess, ⟨[stpC ⟨skind, sid, sat, .mk nid nk nx nks, stext⟩ (LT.mk nid nk nx (some (sb, sc)) sks)], 8, true, true, true, .cell⟩, poolO esu, ⟨[stpC ⟨ukind, uid, uat, .mk mid mk mx mks, utext⟩ (LT.mk mid mk mx (some (ub, uc)) uks)], 8, true, true, true, .cell⟩, poolO esg, ⟨[stpC ⟨wkind, wsid, wat, .mk wid wk wt wks, wtext⟩ (LT.mk gid gk gt none gks)], 8, true, true, true, .cell⟩] ?_
    clear hK1 K1
    refine box_with hA [(3, .ptr 0 0 0), (4, .ptr 1 0 0), (5, .ptr 2 0 0), (8, .ptr 3 0 0), (9, .bool b), (10, .ptr 5 0 0), (11, .ptr 7 0 0), (12, .ptr 9 0 0), (13, .ptr 11 0 0), (14, .bool b)] ⟨rfl, rfl, rfl, rfl, rfl, rfl, rfl, rfl, rfl, rfl, trivial⟩ fun fr => ?_
    conv => whnf
    refine box_cutw hA 9 [(3, .ptr 0 0 0), (4, .ptr 1 0 0), (5, .ptr 2 0 0), (8, .ptr 3 0 0), (9, .bool b), (10, .ptr 5 0 0), (11, .ptr 7 0 0), (12, .ptr 9 0 0), (13, .ptr 11 0 0), (14, .bool b)] ⟨rfl, rfl, rfl, rfl, rfl, rfl, rfl, rfl, rfl, rfl, trivial⟩ fun K1 hK1 fr => ?_
    conv => whnf
    refine .inr (.inr ⟨esg, [.agg _, .agg _], fun e he => ⟨10, he⟩, viewL2 hvg (.same _), rfl, ew.mono ?_⟩)
    rintro r rfl
    refine ⟨rfl, ?_⟩
    conv => whnf
    rw [sneqb_refl]
    conv => whnf
    refine hK1 _ [⟨[[.int .i64 id, .str kind, .str text, .sl (T.rows kids)]], 4, true, true, true, .cell⟩, ⟨[[.int .i64 skind, .int .i64 sid, .int .i64 sat, .int .i64 nid, .str nk, .str nx, .sl (T.rows nks), .str stext]], 8, true, true, true, .cell⟩, ⟨[[.int .i64 ukind, .int .i64 uid, .int .i64 uat, .int .i64 mid, .str mk, .str mx, .sl (T.rows mks), .str utext]], 8, true, true, true, .cell⟩, ⟨[[.int .i64 wkind, .int .i64 wsid, .int .i64 wat, .int .i64 wid, .str wk, .str wt, .sl (T.rows wks), .str wtext]], 8, true, true, true, .cell⟩, poolO esx, ⟨[(LT.mk id kind text (some (xb, xc)) xks).cells], 4, true, true, true, .cell⟩, poolO ess, ⟨[stpC ⟨skind, sid, sat, .mk nid nk nx nks, stext⟩ (LT.mk nid nk nx (some (sb, sc)) sks)], 8, true, true, true, .cell⟩, poolO esu, ⟨[stpC ⟨ukind, uid, uat, .mk mid mk mx mks, utext⟩ (LT.mk mid mk mx (some (ub, uc)) uks)], 8, true, true, true, .cell⟩, poolO esg, ⟨[stpC ⟨wkind, wsid, wat, .mk wid wk wt wks, wtext⟩ (LT.mk gid gk gt none gks)], 8, true, true, true, .cell⟩] ?_
    clear hK1 K1
    refine box_with hA [(3, .ptr 0 0 0), (4, .ptr 1 0 0), (5, .ptr 2 0 0), (8, .ptr 3 0 0), (9, .bool b), (10, .ptr 5 0 0), (11, .ptr 7 0 0), (12, .ptr 9 0 0), (13, .ptr 11 0 0), (14, .bool b), (66, .bool false)] ⟨rfl, rfl, rfl, rfl, rfl, rfl, rfl, rfl, rfl, rfl, rfl, trivial⟩ fun fr => ?_
    conv => whnf
    refine ⟨_, .inl e1, ?_⟩
    conv => whnf
    refine ⟨.bool true, .inr ⟨esx, [.agg (T.mk id kind text kids).cells, .agg (T.mk id kind text kids).cells], fun e he => ⟨4, he⟩, viewL2 hvx (.same _), rfl, e2.mono fun r hr => ⟨by rw [hr]; rfl, hr⟩⟩, ?_⟩
    conv => whnf
    refine ⟨_, .inl e1s, ?_⟩
    conv => whnf
    refine ⟨.bool true, .inr ⟨ess, [.agg _, .agg _], fun e he => ⟨6, he⟩, viewL2 hvs (.same _), rfl, e2s.mono fun r hr => ⟨by rw [hr]; rfl, hr⟩⟩, ?_⟩
    conv => whnf
    refine ⟨_, .inl e1u, ?_⟩
    conv => whnf
    refine ⟨.bool true, .inr ⟨esu, [.agg _, .agg _], fun e he => ⟨8, he⟩, viewL2 hvu (.same _), rfl, e2u.mono fun r hr => ⟨by rw [hr]; rfl, hr⟩⟩, ?_⟩
    conv => whnf
    refine box_cutw hA 1 [(3, .ptr 0 0 0), (4, .ptr 1 0 0), (5, .ptr 2 0 0), (8, .ptr 3 0 0), (9, .bool b), (10, .ptr 5 0 0), (11, .ptr 7 0 0), (12, .ptr 9 0 0), (13, .ptr 11 0 0), (14, .bool b)] ⟨rfl, rfl, rfl, rfl, rfl, rfl, rfl, rfl, rfl, rfl, trivial⟩ fun K1 hK1 fr => ?_
    conv => whnf
    refine hK1 _ [⟨[[.int .i64 id, .str kind, .str text, .sl (T.rows kids)]], 4, true, true, true, .cell⟩, ⟨[[.int .i64 skind, .int .i64 sid, .int .i64 sat, .int .i64 nid, .str nk, .str nx, .sl (T.rows nks), .str stext]], 8, true, true, true, .cell⟩, ⟨[[.int .i64 ukind, .int .i64 uid, .int .i64 uat, .int .i64 mid, .str mk, .str mx, .sl (T.rows mks), .str utext]], 8, true, true, true, .cell⟩, ⟨[[.int .i64 wkind, .int .i64 wsid, .int .i64 wat, .int .i64 wid, .str wk, .str wt, .sl (T.rows wks), .str wtext]], 8, true, true, true, .cell⟩, poolO esx, ⟨[(LT.mk id kind text (some (xb, xc)) xks).cells], 4, true, true, true, .cell⟩, poolO ess, ⟨[stpC ⟨skind, sid, sat, .mk nid nk nx nks, stext⟩ (LT.mk nid nk nx (some (sb, sc)) sks)], 8, true, true, true, .cell⟩, poolO esu, ⟨[stpC ⟨ukind, uid, uat, .mk mid mk mx mks, utext⟩ (LT.mk mid mk mx (some (ub, uc)) uks)], 8, true, true, true, .cell⟩, poolO esg, ⟨[stpC ⟨wkind, wsid, wat, .mk wid wk wt wks, wtext⟩ (LT.mk gid gk gt none gks)], 8, true, true, true, .cell⟩] ?_
    clear hK1 K1
    refine box_with hA [(3, .ptr 0 0 0), (4, .ptr 1 0 0), (5, .ptr 2 0 0), (8, .ptr 3 0 0), (9, .bool b), (10, .ptr 5 0 0), (11, .ptr 7 0 0), (12, .ptr 9 0 0), (13, .ptr 11 0 0), (14, .bool b), (15, .int .i64 1)] ⟨rfl, rfl, rfl, rfl, rfl, rfl, rfl, rfl, rfl, rfl, rfl, trivial⟩ fun fr => ?_
    conv => whnf
    refine box_cutw hA 4 [(3, .ptr 0 0 0), (4, .ptr 1 0 0), (5, .ptr 2 0 0), (8, .ptr 3 0 0), (9, .bool b), (10, .ptr 5 0 0), (11, .ptr 7 0 0), (12, .ptr 9 0 0), (13, .ptr 11 0 0), (14, .bool b), (15, .int .i64 1)] ⟨rfl, rfl, rfl, rfl, rfl, rfl, rfl, rfl, rfl, rfl, rfl, trivial⟩ fun K1 hK1 fr => ?_
    conv => whnf
    refine .inr (.inl ⟨[4], false, ?_⟩)
    conv => whnf
    refine hmx.mono ?_
    rintro o st' ⟨esx', rfl, rfl, hvx'⟩
    conv => whnf
    refine hK1 _ [⟨[[.int .i64 id, .str kind, .str text, .sl (T.rows kids)]], 4, true, true, true, .cell⟩, ⟨[[.int .i64 skind, .int .i64 sid, .int .i64 sat, .int .i64 nid, .str nk, .str nx, .sl (T.rows nks), .str stext]], 8, true, true, true, .cell⟩, ⟨[[.int .i64 ukind, .int .i64 uid, .int .i64 uat, .int .i64 mid, .str mk, .str mx, .sl (T.rows mks), .str utext]], 8, true, true, true, .cell⟩, ⟨[[.int .i64 wkind, .int .i64 wsid, .int .i64 wat, .int .i64 wid, .str wk, .str wt, .sl (T.rows wks), .str wtext]], 8, true, true, true, .cell⟩, poolO esx', ⟨[(LT.mk id kind text (some (xb, xc)) xks).cells], 4, true, true, true, .cell⟩, poolO ess, ⟨[stpC ⟨skind, sid, sat, .mk nid nk nx nks, stext⟩ (LT.mk nid nk nx (some (sb, sc)) sks)], 8, true, true, true, .cell⟩, poolO esu, ⟨[stpC ⟨ukind, uid, uat, .mk mid mk mx mks, utext⟩ (LT.mk mid mk mx (some (ub, uc)) uks)], 8, true, true, true, .cell⟩, poolO esg, ⟨[stpC ⟨wkind, wsid, wat, .mk wid wk wt wks, wtext⟩ (LT.mk gid gk gt none gks)], 8, true, true, true, .cell⟩] ?_
    clear hK1 K1
    refine box_with hA [(3, .ptr 0 0 0), (4, .ptr 1 0 0), (5, .ptr 2 0 0), (8, .ptr 3 0 0), (9, .bool b), (10, .ptr 5 0 0), (11, .ptr 7 0 0), (12, .ptr 9 0 0), (13, .ptr 11 0 0), (14, .bool b), (15, .int .i64 kx)] ⟨rfl, rfl, rfl, rfl, rfl, rfl, rfl, rfl, rfl, rfl, rfl, trivial⟩ fun fr => ?_
    conv => whnf
    refine box_cutw hA 4 [(3, .ptr 0 0 0), (4, .ptr 1 0 0), (5, .ptr 2 0 0), (8, .ptr 3 0 0), (9, .bool b), (10, .ptr 5 0 0), (11, .ptr 7 0 0), (12, .ptr 9 0 0), (13, .ptr 11 0 0), (14, .bool b), (15, .int .i64 kx)] ⟨rfl, rfl, rfl, rfl, rfl, rfl, rfl, rfl, rfl, rfl, rfl, trivial⟩ fun K1 hK1 fr => ?_
    conv => whnf
    refine .inr (.inl ⟨[6], false, ?_⟩)
    conv => whnf
    refine hms.mono ?_
    rintro o st' ⟨ess', rfl, rfl⟩
    conv => whnf
    refine hK1 _ [⟨[[.int .i64 id, .str kind, .str text, .sl (T.rows kids)]], 4, true, true, true, .cell⟩, ⟨[[.int .i64 skind, .int .i64 sid, .int .i64 sat, .int .i64 nid, .str nk, .str nx, .sl (T.rows nks), .str stext]], 8, true, true, true, .cell⟩, ⟨[[.int .i64 ukind, .int .i64 uid, .int .i64 uat, .int .i64 mid, .str mk, .str mx, .sl (T.rows mks), .str utext]], 8, true, true, true, .cell⟩, ⟨[[.int .i64 wkind, .int .i64 wsid, .int .i64 wat, .int .i64 wid, .str wk, .str wt, .sl (T.rows wks), .str wtext]], 8, true, true, true, .cell⟩, poolO esx', ⟨[(LT.mk id kind text (some (xb, xc)) xks).cells], 4, true, true, true, .cell⟩, poolO ess', ⟨[stpC ⟨skind, sid, sat, .mk nid nk nx nks, stext⟩ (LT.mk nid nk nx (some (sb, sc)) sks)], 8, true, true, true, .cell⟩, poolO esu, ⟨[stpC ⟨ukind, uid, uat, .mk mid mk mx mks, utext⟩ (LT.mk mid mk mx (some (ub, uc)) uks)], 8, true, true, true, .cell⟩, poolO esg, ⟨[stpC ⟨wkind, wsid, wat, .mk wid wk wt wks, wtext⟩ (LT.mk gid gk gt none gks)], 8, true, true, true, .cell⟩] ?_
    clear hK1 K1
    refine box_with hA [(3, .ptr 0 0 0), (4, .ptr 1 0 0), (5, .ptr 2 0 0), (8, .ptr 3 0 0), (9, .bool b), (10, .ptr 5 0 0), (11, .ptr 7 0 0), (12, .ptr 9 0 0), (13, .ptr 11 0 0), (14, .bool b), (15, .int .i64 ky)] ⟨rfl, rfl, rfl, rfl, rfl, rfl, rfl, rfl, rfl, rfl, rfl, trivial⟩ fun fr => ?_
    conv => whnf
    refine box_cutw hA 4 [(3, .ptr 0 0 0), (4, .ptr 1 0 0), (5, .ptr 2 0 0), (8, .ptr 3 0 0), (9, .bool b), (10, .ptr 5 0 0), (11, .ptr 7 0 0), (12, .ptr 9 0 0), (13, .ptr 11 0 0), (14, .bool b), (15, .int .i64 ky)] ⟨rfl, rfl, rfl, rfl, rfl, rfl, rfl, rfl, rfl, rfl, rfl, trivial⟩ fun K1 hK1 fr => ?_
    conv => whnf
    refine .inr (.inl ⟨[8], false, ?_⟩)
    conv => whnf
    refine hmu.mono ?_
    rintro o st' ⟨esu', rfl, rfl⟩
    conv => whnf
    refine hK1 _ [⟨[[.int .i64 id, .str kind, .str text, .sl (T.rows kids)]], 4, true, true, true, .cell⟩, ⟨[[.int .i64 skind, .int .i64 sid, .int .i64 sat, .int .i64 nid, .str nk, .str nx, .sl (T.rows nks), .str stext]], 8, true, true, true, .cell⟩, ⟨[[.int .i64 ukind, .int .i64 uid, .int .i64 uat, .int .i64 mid, .str mk, .str mx, .sl (T.rows mks), .str utext]], 8, true, true, true, .cell⟩, ⟨[[.int .i64 wkind, .int .i64 wsid, .int .i64 wat, .int .i64 wid, .str wk, .str wt, .sl (T.rows wks), .str wtext]], 8, true, true, true, .cell⟩, poolO esx', ⟨[(LT.mk id kind text (some (xb, xc)) xks).cells], 4, true, true, true, .cell⟩, poolO ess', ⟨[stpC ⟨skind, sid, sat, .mk nid nk nx nks, stext⟩ (LT.mk nid nk nx (some (sb, sc)) sks)], 8, true, true, true, .cell⟩, poolO esu', ⟨[stpC ⟨ukind, uid, uat, .mk mid mk mx mks, utext⟩ (LT.mk mid mk mx (some (ub, uc)) uks)], 8, true, true, true, .cell⟩, poolO esg, ⟨[stpC ⟨wkind, wsid, wat, .mk wid wk wt wks, wtext⟩ (LT.mk gid gk gt none gks)], 8, true, true, true, .cell⟩] ?_
    clear hK1 K1
    refine box_with hA [(3, .ptr 0 0 0), (4, .ptr 1 0 0), (5, .ptr 2 0 0), (8, .ptr 3 0 0), (9, .bool b), (10, .ptr 5 0 0), (11, .ptr 7 0 0), (12, .ptr 9 0 0), (13, .ptr 11 0 0), (14, .bool b), (15, .int .i64 kz)] ⟨rfl, rfl, rfl, rfl, rfl, rfl, rfl, rfl, rfl, rfl, rfl, trivial⟩ fun fr => ?_
    conv => whnf
    refine box_cutw hA 13 [(3, .ptr 0 0 0), (4, .ptr 1 0 0), (5, .ptr 2 0 0), (8, .ptr 3 0 0), (9, .bool b), (10, .ptr 5 0 0), (11, .ptr 7 0 0), (12, .ptr 9 0 0), (13, .ptr 11 0 0), (14, .bool b), (15, .int .i64 kz)] ⟨rfl, rfl, rfl, rfl, rfl, rfl, rfl, rfl, rfl, rfl, rfl, trivial⟩ fun K1 hK1 fr => ?_
    conv => whnf
    rw [ltB_f (by omega)]
    conv => whnf
    refine .inr (.inr ⟨esg, [.agg _, .agg _], fun e he => ⟨10, he⟩, viewL2 hvg (.same _), rfl, ew.mono ?_⟩)
    rintro r rfl
    refine ⟨rfl, ?_⟩
    conv => whnf
    rw [sneqb_refl]
    conv => whnf
    refine hK1 _ [⟨[[.int .i64 id, .str kind, .str text, .sl (T.rows kids)]], 4, true, true, true, .cell⟩, ⟨[[.int .i64 skind, .int .i64 sid, .int .i64 sat, .int .i64 nid, .str nk, .str nx, .sl (T.rows nks), .str stext]], 8, true, true, true, .cell⟩, ⟨[[.int .i64 ukind, .int .i64 uid, .int .i64 uat, .int .i64 mid, .str mk, .str mx, .sl (T.rows mks), .str utext]], 8, true, true, true, .cell⟩, ⟨[[.int .i64 wkind, .int .i64 wsid, .int .i64 wat, .int .i64 wid, .str wk, .str wt, .sl (T.rows wks), .str wtext]], 8, true, true, true, .cell⟩, poolO esx', ⟨[(LT.mk id kind text (some (xb, xc)) xks).cells], 4, true, true, true, .cell⟩, poolO ess', ⟨[stpC ⟨skind, sid, sat, .mk nid nk nx nks, stext⟩ (LT.mk nid nk nx (some (sb, sc)) sks)], 8, true, true, true, .cell⟩, poolO esu', ⟨[stpC ⟨ukind, uid, uat, .mk mid mk mx mks, utext⟩ (LT.mk mid mk mx (some (ub, uc)) uks)], 8, true, true, true, .cell⟩, poolO esg, ⟨[stpC ⟨wkind, wsid, wat, .mk wid wk wt wks, wtext⟩ (LT.mk gid gk gt none gks)], 8, true, true, true, .cell⟩] ?_
    clear hK1 K1
    refine box_with hA [(3, .ptr 0 0 0), (4, .ptr 1 0 0), (5, .ptr 2 0 0), (8, .ptr 3 0 0), (9, .bool b), (10, .ptr 5 0 0), (11, .ptr 7 0 0), (12, .ptr 9 0 0), (13, .ptr 11 0 0), (14, .bool b), (103, .bool false)] ⟨rfl, rfl, rfl, rfl, rfl, rfl, rfl, rfl, rfl, rfl, rfl, trivial⟩ fun fr => ?_
    conv => whnf
    refine box_cutw hA 1 [(3, .ptr 0 0 0), (4, .ptr 1 0 0), (5, .ptr 2 0 0), (8, .ptr 3 0 0), (9, .bool b), (10, .ptr 5 0 0), (11, .ptr 7 0 0), (12, .ptr 9 0 0), (13, .ptr 11 0 0), (14, .bool b)] ⟨rfl, rfl, rfl, rfl, rfl, rfl, rfl, rfl, rfl, rfl, trivial⟩ fun K1 hK1 fr => ?_
    conv => whnf
    refine hK1 _ [⟨[[.int .i64 id, .str kind, .str text, .sl (T.rows kids)]], 4, true, true, true, .cell⟩, ⟨[[.int .i64 skind, .int .i64 sid, .int .i64 sat, .int .i64 nid, .str nk, .str nx, .sl (T.rows nks), .str stext]], 8, true, true, true, .cell⟩, ⟨[[.int .i64 ukind, .int .i64 uid, .int .i64 uat, .int .i64 mid, .str mk, .str mx, .sl (T.rows mks), .str utext]], 8, true, true, true, .cell⟩, ⟨[[.int .i64 wkind, .int .i64 wsid, .int .i64 wat, .int .i64 wid, .str wk, .str wt, .sl (T.rows wks), .str wtext]], 8, true, true, true, .cell⟩, poolO esx', ⟨[(LT.mk id kind text (some (xb, xc)) xks).cells], 4, true, true, true, .cell⟩, poolO ess', ⟨[stpC ⟨skind, sid, sat, .mk nid nk nx nks, stext⟩ (LT.mk nid nk nx (some (sb, sc)) sks)], 8, true, true, true, .cell⟩, poolO esu', ⟨[stpC ⟨ukind, uid, uat, .mk mid mk mx mks, utext⟩ (LT.mk mid mk mx (some (ub, uc)) uks)], 8, true, true, true, .cell⟩, poolO esg, ⟨[stpC ⟨wkind, wsid, wat, .mk wid wk wt wks, wtext⟩ (LT.mk gid gk gt none gks)], 8, true, true, true, .cell⟩] ?_
    clear hK1 K1
    refine box_with hA [(3, .ptr 0 0 0), (4, .ptr 1 0 0), (5, .ptr 2 0 0), (8, .ptr 3 0 0), (9, .bool b), (10, .ptr 5 0 0), (11, .ptr 7 0 0), (12, .ptr 9 0 0), (13, .ptr 11 0 0), (14, .bool b), (16, .int .i64 1)] ⟨rfl, rfl, rfl, rfl, rfl, rfl, rfl, rfl, rfl, rfl, rfl, trivial⟩ fun fr => ?_
    conv => whnf
    refine box_cutw hA 4 [(3, .ptr 0 0 0), (4, .ptr 1 0 0), (5, .ptr 2 0 0), (8, .ptr 3 0 0), (9, .bool b), (10, .ptr 5 0 0), (11, .ptr 7 0 0), (12, .ptr 9 0 0), (13, .ptr 11 0 0), (14, .bool b), (16, .int .i64 1)] ⟨rfl, rfl, rfl, rfl, rfl, rfl, rfl, rfl, rfl, rfl, rfl, trivial⟩ fun K1 hK1 fr => ?_
    conv => whnf
    refine .inr (.inl ⟨[10], true, ?_⟩)
    conv => whnf
    refine hmg.mono ?_
    rintro o st' ⟨esg', rfl, rfl, hvg'⟩
    conv => whnf
    refine hK1 _ [⟨[[.int .i64 id, .str kind, .str text, .sl (T.rows kids)]], 4, true, true, true, .cell⟩, ⟨[[.int .i64 skind, .int .i64 sid, .int .i64 sat, .int .i64 nid, .str nk, .str nx, .sl (T.rows nks), .str stext]], 8, true, true, true, .cell⟩, ⟨[[.int .i64 ukind, .int .i64 uid, .int .i64 uat, .int .i64 mid, .str mk, .str mx, .sl (T.rows mks), .str utext]], 8, true, true, true, .cell⟩, ⟨[[.int .i64 wkind, .int .i64 wsid, .int .i64 wat, .int .i64 wid, .str wk, .str wt, .sl (T.rows wks), .str wtext]], 8, true, true, true, .cell⟩, poolO esx', ⟨[(LT.mk id kind text (some (xb, xc)) xks).cells], 4, true, true, true, .cell⟩, poolO ess', ⟨[stpC ⟨skind, sid, sat, .mk nid nk nx nks, stext⟩ (LT.mk nid nk nx (some (sb, sc)) sks)], 8, true, true, true, .cell⟩, poolO esu', ⟨[stpC ⟨ukind, uid, uat, .mk mid mk mx mks, utext⟩ (LT.mk mid mk mx (some (ub, uc)) uks)], 8, true, true, true, .cell⟩, poolO esg', ⟨[stpC ⟨wkind, wsid, wat, .mk wid wk wt wks, wtext⟩ (LT.mk gid gk gt none gks)], 8, true, true, true, .cell⟩] ?_
    clear hK1 K1
    refine box_with hA [(3, .ptr 0 0 0), (4, .ptr 1 0 0), (5, .ptr 2 0 0), (8, .ptr 3 0 0), (9, .bool b), (10, .ptr 5 0 0), (11, .ptr 7 0 0), (12, .ptr 9 0 0), (13, .ptr 11 0 0), (14, .bool b), (16, .int .i64 kg)] ⟨rfl, rfl, rfl, rfl, rfl, rfl, rfl, rfl, rfl, rfl, rfl, trivial⟩ fun fr => ?_
    conv => whnf
    refine box_cutw hA 1 [(3, .ptr 0 0 0), (4, .ptr 1 0 0), (5, .ptr 2 0 0), (8, .ptr 3 0 0), (9, .bool b), (10, .ptr 5 0 0), (11, .ptr 7 0 0), (12, .ptr 9 0 0), (13, .ptr 11 0 0), (14, .bool b), (16, .int .i64 kg)] ⟨rfl, rfl, rfl, rfl, rfl, rfl, rfl, rfl, rfl, rfl, rfl, trivial⟩ fun K1 hK1 fr => ?_
    conv => whnf
    refine hK1 _ [⟨[[.int .i64 id, .str kind, .str text, .sl (T.rows kids)]], 4, true, true, true, .cell⟩, ⟨[[.int .i64 skind, .int .i64 sid, .int .i64 sat, .int .i64 nid, .str nk, .str nx, .sl (T.rows nks), .str stext]], 8, true, true, true, .cell⟩, ⟨[[.int .i64 ukind, .int .i64 uid, .int .i64 uat, .int .i64 mid, .str mk, .str mx, .sl (T.rows mks), .str utext]], 8, true, true, true, .cell⟩, ⟨[[.int .i64 wkind, .int .i64 wsid, .int .i64 wat, .int .i64 wid, .str wk, .str wt, .sl (T.rows wks), .str wtext]], 8, true, true, true, .cell⟩, poolO esx', ⟨[(LT.mk id kind text (some (xb, xc)) xks).cells], 4, true, true, true, .cell⟩, poolO ess', ⟨[stpC ⟨skind, sid, sat, .mk nid nk nx nks, stext⟩ (LT.mk nid nk nx (some (sb, sc)) sks)], 8, true, true, true, .cell⟩, poolO esu', ⟨[stpC ⟨ukind, uid, uat, .mk mid mk mx mks, utext⟩ (LT.mk mid mk mx (some (ub, uc)) uks)], 8, true, true, true, .cell⟩, poolO esg', ⟨[stpC ⟨wkind, wsid, wat, .mk wid wk wt wks, wtext⟩ (LT.mk gid gk gt none gks)], 8, true, true, true, .cell⟩] ?_
    clear hK1 K1
    refine box_with hA [(3, .ptr 0 0 0), (4, .ptr 1 0 0), (5, .ptr 2 0 0), (8, .ptr 3 0 0), (9, .bool b), (10, .ptr 5 0 0), (11, .ptr 7 0 0), (12, .ptr 9 0 0), (13, .ptr 11 0 0), (14, .bool b), (16, .int .i64 kg), (17, .int .i64 1)] ⟨rfl, rfl, rfl, rfl, rfl, rfl, rfl, rfl, rfl, rfl, rfl, rfl, trivial⟩ fun fr => ?_
    conv => whnf
    refine box_cutw hA 4 [(3, .ptr 0 0 0), (4, .ptr 1 0 0), (5, .ptr 2 0 0), (8, .ptr 3 0 0), (9, .bool b), (10, .ptr 5 0 0), (11, .ptr 7 0 0), (12, .ptr 9 0 0), (13, .ptr 11 0 0), (14, .bool b), (16, .int .i64 kg), (17, .int .i64 1)] ⟨rfl, rfl, rfl, rfl, rfl, rfl, rfl, rfl, rfl, rfl, rfl, rfl, trivial⟩ fun K1 hK1 fr => ?_
    conv => whnf
    refine .inr (.inr ⟨esg', [_, .int .i64 1], fun e he => ⟨10, he⟩, viewL2 hvg' (.same _), hcw, hhg.mono ?_⟩)
    rintro r rfl
    refine ⟨rfl, ?_⟩
    conv => whnf
    refine hK1 _ [⟨[[.int .i64 id, .str kind, .str text, .sl (T.rows kids)]], 4, true, true, true, .cell⟩, ⟨[[.int .i64 skind, .int .i64 sid, .int .i64 sat, .int .i64 nid, .str nk, .str nx, .sl (T.rows nks), .str stext]], 8, true, true, true, .cell⟩, ⟨[[.int .i64 ukind, .int .i64 uid, .int .i64 uat, .int .i64 mid, .str mk, .str mx, .sl (T.rows mks), .str utext]], 8, true, true, true, .cell⟩, ⟨[[.int .i64 wkind, .int .i64 wsid, .int .i64 wat, .int .i64 wid, .str wk, .str wt, .sl (T.rows wks), .str wtext]], 8, true, true, true, .cell⟩, poolO esx', ⟨[(LT.mk id kind text (some (xb, xc)) xks).cells], 4, true, true, true, .cell⟩, poolO ess', ⟨[stpC ⟨skind, sid, sat, .mk nid nk nx nks, stext⟩ (LT.mk nid nk nx (some (sb, sc)) sks)], 8, true, true, true, .cell⟩, poolO esu', ⟨[stpC ⟨ukind, uid, uat, .mk mid mk mx mks, utext⟩ (LT.mk mid mk mx (some (ub, uc)) uks)], 8, true, true, true, .cell⟩, poolO esg', ⟨[stpC ⟨wkind, wsid, wat, .mk wid wk wt wks, wtext⟩ (LT.mk gid gk gt none gks)], 8, true, true, true, .cell⟩] ?_
    clear hK1 K1
    refine box_with hA [(3, .ptr 0 0 0), (4, .ptr 1 0 0), (5, .ptr 2 0 0), (8, .ptr 3 0 0), (9, .bool b), (10, .ptr 5 0 0), (11, .ptr 7 0 0), (12, .ptr 9 0 0), (13, .ptr 11 0 0), (14, .bool b), (16, .int .i64 kg), (17, .int .i64 kg)] ⟨rfl, rfl, rfl, rfl, rfl, rfl, rfl, rfl, rfl, rfl, rfl, rfl, trivial⟩ fun fr => ?_
    conv => whnf
    refine box_cutw hA 2 [(3, .ptr 0 0 0), (4, .ptr 1 0 0), (5, .ptr 2 0 0), (8, .ptr 3 0 0), (9, .bool b), (10, .ptr 5 0 0), (11, .ptr 7 0 0), (12, .ptr 9 0 0), (13, .ptr 11 0 0), (14, .bool b), (16, .int .i64 kg), (17, .int .i64 kg)] ⟨rfl, rfl, rfl, rfl, rfl, rfl, rfl, rfl, rfl, rfl, rfl, rfl, trivial⟩ fun K1 hK1 fr => ?_
    conv => whnf
    skip
    refine hK1 _ [⟨[[.int .i64 id, .str kind, .str text, .sl (T.rows kids)]], 4, true, true, true, .cell⟩, ⟨[[.int .i64 skind, .int .i64 sid, .int .i64 sat, .int .i64 nid, .str nk, .str nx, .sl (T.rows nks), .str stext]], 8, true, true, true, .cell⟩, ⟨[[.int .i64 ukind, .int .i64 uid, .int .i64 uat, .int .i64 mid, .str mk, .str mx, .sl (T.rows mks), .str utext]], 8, true, true, true, .cell⟩, ⟨[[.int .i64 wkind, .int .i64 wsid, .int .i64 wat, .int .i64 wid, .str wk, .str wt, .sl (T.rows wks), .str wtext]], 8, true, true, true, .cell⟩, poolO esx', ⟨[(LT.mk id kind text (some (xb, xc)) xks).cells], 4, true, true, true, .cell⟩, poolO ess', ⟨[stpC ⟨skind, sid, sat, .mk nid nk nx nks, stext⟩ (LT.mk nid nk nx (some (sb, sc)) sks)], 8, true, true, true, .cell⟩, poolO esu', ⟨[stpC ⟨ukind, uid, uat, .mk mid mk mx mks, utext⟩ (LT.mk mid mk mx (some (ub, uc)) uks)], 8, true, true, true, .cell⟩, poolO esg', ⟨[stpC ⟨wkind, wsid, wat, .mk wid wk wt wks, wtext⟩ (LT.mk gid gk gt none gks)], 8, true, true, true, .cell⟩] ?_
    clear hK1 K1
    refine box_with hA [(3, .ptr 0 0 0), (4, .ptr 1 0 0), (5, .ptr 2 0 0), (8, .ptr 3 0 0), (9, .bool b), (10, .ptr 5 0 0), (11, .ptr 7 0 0), (12, .ptr 9 0 0), (13, .ptr 11 0 0), (14, .bool b), (16, .int .i64 kg), (17, .int .i64 kg), (111, .bool (ltB kg 0))] ⟨rfl, rfl, rfl, rfl, rfl, rfl, rfl, rfl, rfl, rfl, rfl, rfl, rfl, trivial⟩ fun fr => ?_
    conv => whnf
    rw [ltB_f (by omega)]
    conv => whnf
    refine box_cutw hA 3 [(3, .ptr 0 0 0), (4, .ptr 1 0 0), (5, .ptr 2 0 0), (8, .ptr 3 0 0), (9, .bool b), (10, .ptr 5 0 0), (11, .ptr 7 0 0), (12, .ptr 9 0 0), (13, .ptr 11 0 0), (14, .bool b), (16, .int .i64 kg), (17, .int .i64 kg)] ⟨rfl, rfl, rfl, rfl, rfl, rfl, rfl, rfl, rfl, rfl, rfl, rfl, trivial⟩ fun K1 hK1 fr => ?_
    conv => whnf
    refine hK1 _ [⟨[[.int .i64 id, .str kind, .str text, .sl (T.rows kids)]], 4, true, true, true, .cell⟩, ⟨[[.int .i64 skind, .int .i64 sid, .int .i64 sat, .int .i64 nid, .str nk, .str nx, .sl (T.rows nks), .str stext]], 8, true, true, true, .cell⟩, ⟨[[.int .i64 ukind, .int .i64 uid, .int .i64 uat, .int .i64 mid, .str mk, .str mx, .sl (T.rows mks), .str utext]], 8, true, true, true, .cell⟩, ⟨[[.int .i64 wkind, .int .i64 wsid, .int .i64 wat, .int .i64 wid, .str wk, .str wt, .sl (T.rows wks), .str wtext]], 8, true, true, true, .cell⟩, poolO esx', ⟨[(LT.mk id kind text (some (xb, xc)) xks).cells], 4, true, true, true, .cell⟩, poolO ess', ⟨[stpC ⟨skind, sid, sat, .mk nid nk nx nks, stext⟩ (LT.mk nid nk nx (some (sb, sc)) sks)], 8, true, true, true, .cell⟩, poolO esu', ⟨[stpC ⟨ukind, uid, uat, .mk mid mk mx mks, utext⟩ (LT.mk mid mk mx (some (ub, uc)) uks)], 8, true, true, true, .cell⟩, poolO esg', ⟨[stpC ⟨wkind, wsid, wat, .mk wid wk wt wks, wtext⟩ (LT.mk gid gk gt none gks)], 8, true, true, true, .cell⟩] ?_
    clear hK1 K1
    refine box_with hA [(3, .ptr 0 0 0), (4, .ptr 1 0 0), (5, .ptr 2 0 0), (8, .ptr 3 0 0), (9, .bool b), (10, .ptr 5 0 0), (11, .ptr 7 0 0), (12, .ptr 9 0 0), (13, .ptr 11 0 0), (14, .bool b), (16, .int .i64 kg), (17, .int .i64 kg), (114, .bool (negB (eqB kg kg)))] ⟨rfl, rfl, rfl, rfl, rfl, rfl, rfl, rfl, rfl, rfl, rfl, rfl, rfl, trivial⟩ fun fr => ?_
    conv => whnf
    rw [eqB_refl]
    conv => whnf
    refine ⟨_, .inl e1, ?_⟩
    conv => whnf
    refine ⟨_, .inl e1s, ?_⟩
    conv => whnf
    refine ⟨_, .inl e1u, ?_⟩
    conv => whnf
    refine ⟨_, .inl hI, ?_⟩
    conv => whnf
    repeat (refine And.intro (by
              (conv => whnf)
              first
                | rfl
                | exact ⟨_, .inl e1, rfl⟩
                | exact ⟨_, .inl e1s, rfl⟩
                | exact ⟨_, .inl e1u, rfl⟩
                | exact ⟨_, .inl hI, rfl⟩) ?_
            conv => whnf)
    refine box_cutw hA 9 [(3, .ptr 0 0 0), (4, .ptr 1 0 0), (5, .ptr 2 0 0), (8, .ptr 3 0 0), (9, .bool b), (10, .ptr 5 0 0), (11, .ptr 7 0 0), (12, .ptr 9 0 0), (13, .ptr 11 0 0), (14, .bool b), (16, .int .i64 kg), (18, .ptr 12 0 0), (19, .bool b)] ⟨rfl, rfl, rfl, rfl, rfl, rfl, rfl, rfl, rfl, rfl, rfl, rfl, rfl, trivial⟩ fun K1 hK1 fr => ?_
    conv => whnf
    refine .inl (ew.mono ?_)
    rintro r rfl
    conv => whnf
    rw [sneqb_refl]
    conv => whnf
    refine hK1 _ [⟨[[.int .i64 id, .str kind, .str text, .sl (T.rows kids)]], 4, true, true, true, .cell⟩, ⟨[[.int .i64 skind, .int .i64 sid, .int .i64 sat, .int .i64 nid, .str nk, .str nx, .sl (T.rows nks), .str stext]], 8, true, true, true, .cell⟩, ⟨[[.int .i64 ukind, .int .i64 uid, .int .i64 uat, .int .i64 mid, .str mk, .str mx, .sl (T.rows mks), .str utext]], 8, true, true, true, .cell⟩, ⟨[[.int .i64 wkind, .int .i64 wsid, .int .i64 wat, .int .i64 wid, .str wk, .str wt, .sl (T.rows wks), .str wtext]], 8, true, true, true, .cell⟩, poolO esx', ⟨[(LT.mk id kind text (some (xb, xc)) xks).cells], 4, true, true, true, .cell⟩, poolO ess', ⟨[stpC ⟨skind, sid, sat, .mk nid nk nx nks, stext⟩ (LT.mk nid nk nx (some (sb, sc)) sks)], 8, true, true, true, .cell⟩, poolO esu', ⟨[stpC ⟨ukind, uid, uat, .mk mid mk mx mks, utext⟩ (LT.mk mid mk mx (some (ub, uc)) uks)], 8, true, true, true, .cell⟩, poolO esg', ⟨[stpC ⟨wkind, wsid, wat, .mk wid wk wt wks, wtext⟩ (LT.mk gid gk gt none gks)], 8, true, true, true, .cell⟩, ⟨[[.int .i64 wkind, .int .i64 wsid, .int .i64 wat, .int .i64 wid, .str wk, .str wt, .sl (T.rows wks), .str wtext]], 8, true, true, true, .cell⟩] ?_
    clear hK1 K1
    refine box_with hA [(3, .ptr 0 0 0), (4, .ptr 1 0 0), (5, .ptr 2 0 0), (8, .ptr 3 0 0), (9, .bool b), (10, .ptr 5 0 0), (11, .ptr 7 0 0), (12, .ptr 9 0 0), (13, .ptr 11 0 0), (14, .bool b), (16, .int .i64 kg), (18, .ptr 12 0 0), (19, .bool b), (133, .bool false)] ⟨rfl, rfl, rfl, rfl, rfl, rfl, rfl, rfl, rfl, rfl, rfl, rfl, rfl, rfl, trivial⟩ fun fr => ?_
    conv => whnf
    refine box_cutw hA 1 [(3, .ptr 0 0 0), (4, .ptr 1 0 0), (5, .ptr 2 0 0), (8, .ptr 3 0 0), (9, .bool b), (10, .ptr 5 0 0), (11, .ptr 7 0 0), (12, .ptr 9 0 0), (13, .ptr 11 0 0), (14, .bool b), (16, .int .i64 kg), (18, .ptr 12 0 0), (19, .bool b)] ⟨rfl, rfl, rfl, rfl, rfl, rfl, rfl, rfl, rfl, rfl, rfl, rfl, rfl, trivial⟩ fun K1 hK1 fr => ?_
    conv => whnf
    refine hK1 _ [⟨[[.int .i64 id, .str kind, .str text, .sl (T.rows kids)]], 4, true, true, true, .cell⟩, ⟨[[.int .i64 skind, .int .i64 sid, .int .i64 sat, .int .i64 nid, .str nk, .str nx, .sl (T.rows nks), .str stext]], 8, true, true, true, .cell⟩, ⟨[[.int .i64 ukind, .int .i64 uid, .int .i64 uat, .int .i64 mid, .str mk, .str mx, .sl (T.rows mks), .str utext]], 8, true, true, true, .cell⟩, ⟨[[.int .i64 wkind, .int .i64 wsid, .int .i64 wat, .int .i64 wid, .str wk, .str wt, .sl (T.rows wks), .str wtext]], 8, true, true, true, .cell⟩, poolO esx', ⟨[(LT.mk id kind text (some (xb, xc)) xks).cells], 4, true, true, true, .cell⟩, poolO ess', ⟨[stpC ⟨skind, sid, sat, .mk nid nk nx nks, stext⟩ (LT.mk nid nk nx (some (sb, sc)) sks)], 8, true, true, true, .cell⟩, poolO esu', ⟨[stpC ⟨ukind, uid, uat, .mk mid mk mx mks, utext⟩ (LT.mk mid mk mx (some (ub, uc)) uks)], 8, true, true, true, .cell⟩, poolO esg', ⟨[stpC ⟨wkind, wsid, wat, .mk wid wk wt wks, wtext⟩ (LT.mk gid gk gt none gks)], 8, true, true, true, .cell⟩, ⟨[[.int .i64 wkind, .int .i64 wsid, .int .i64 wat, .int .i64 wid, .str wk, .str wt, .sl (T.rows wks), .str wtext]], 8, true, true, true, .cell⟩] ?_
    clear hK1 K1
    refine box_with hA [(3, .ptr 0 0 0), (4, .ptr 1 0 0), (5, .ptr 2 0 0), (8, .ptr 3 0 0), (9, .bool b), (10, .ptr 5 0 0), (11, .ptr 7 0 0), (12, .ptr 9 0 0), (13, .ptr 11 0 0), (14, .bool b), (16, .int .i64 kg), (17, .int .i64 1), (18, .ptr 12 0 0), (19, .bool b)] ⟨rfl, rfl, rfl, rfl, rfl, rfl, rfl, rfl, rfl, rfl, rfl, rfl, rfl, rfl, trivial⟩ fun fr => ?_
    conv => whnf
    refine box_cutw hA 4 [(3, .ptr 0 0 0), (4, .ptr 1 0 0), (5, .ptr 2 0 0), (8, .ptr 3 0 0), (9, .bool b), (10, .ptr 5 0 0), (11, .ptr 7 0 0), (12, .ptr 9 0 0), (13, .ptr 11 0 0), (14, .bool b), (16, .int .i64 kg), (17, .int .i64 1), (18, .ptr 12 0 0), (19, .bool b)] ⟨rfl, rfl, rfl, rfl, rfl, rfl, rfl, rfl, rfl, rfl, rfl, rfl, rfl, rfl, trivial⟩ fun K1 hK1 fr => ?_
    conv => whnf
    refine .inr (.inr ⟨esg', [_, .int .i64 1], fun e he => ⟨10, he⟩, viewL2 hvg' (.same _), hcw, hhg.mono ?_⟩)
    rintro r rfl
    refine ⟨rfl, ?_⟩
    conv => whnf
    refine hK1 _ [⟨[[.int .i64 id, .str kind, .str text, .sl (T.rows kids)]], 4, true, true, true, .cell⟩, ⟨[[.int .i64 skind, .int .i64 sid, .int .i64 sat, .int .i64 nid, .str nk, .str nx, .sl (T.rows nks), .str stext]], 8, true, true, true, .cell⟩, ⟨[[.int .i64 ukind, .int .i64 uid, .int .i64 uat, .int .i64 mid, .str mk, .str mx, .sl (T.rows mks), .str utext]], 8, true, true, true, .cell⟩, ⟨[[.int .i64 wkind, .int .i64 wsid, .int .i64 wat, .int .i64 wid, .str wk, .str wt, .sl (T.rows wks), .str wtext]], 8, true, true, true, .cell⟩, poolO esx', ⟨[(LT.mk id kind text (some (xb, xc)) xks).cells], 4, true, true, true, .cell⟩, poolO ess', ⟨[stpC ⟨skind, sid, sat, .mk nid nk nx nks, stext⟩ (LT.mk nid nk nx (some (sb, sc)) sks)], 8, true, true, true, .cell⟩, poolO esu', ⟨[stpC ⟨ukind, uid, uat, .mk mid mk mx mks, utext⟩ (LT.mk mid mk mx (some (ub, uc)) uks)], 8, true, true, true, .cell⟩, poolO esg', ⟨[stpC ⟨wkind, wsid, wat, .mk wid wk wt wks, wtext⟩ (LT.mk gid gk gt none gks)], 8, true, true, true, .cell⟩, ⟨[[.int .i64 wkind, .int .i64 wsid, .int .i64 wat, .int .i64 wid, .str wk, .str wt, .sl (T.rows wks), .str wtext]], 8, true, true, true, .cell⟩] ?_
    clear hK1 K1
    refine box_with hA [(3, .ptr 0 0 0), (4, .ptr 1 0 0), (5, .ptr 2 0 0), (8, .ptr 3 0 0), (9, .bool b), (10, .ptr 5 0 0), (11, .ptr 7 0 0), (12, .ptr 9 0 0), (13, .ptr 11 0 0), (14, .bool b), (16, .int .i64 kg), (17, .int .i64 kg), (18, .ptr 12 0 0), (19, .bool b)] ⟨rfl, rfl, rfl, rfl, rfl, rfl, rfl, rfl, rfl, rfl, rfl, rfl, rfl, rfl, trivial⟩ fun fr => ?_
    conv => whnf
    refine box_cutw hA 2 [(3, .ptr 0 0 0), (4, .ptr 1 0 0), (5, .ptr 2 0 0), (8, .ptr 3 0 0), (9, .bool b), (10, .ptr 5 0 0), (11, .ptr 7 0 0), (12, .ptr 9 0 0), (13, .ptr 11 0 0), (14, .bool b), (16, .int .i64 kg), (17, .int .i64 kg), (18, .ptr 12 0 0), (19, .bool b)] ⟨rfl, rfl, rfl, rfl, rfl, rfl, rfl, rfl, rfl, rfl, rfl, rfl, rfl, rfl, trivial⟩ fun K1 hK1 fr => ?_
    conv => whnf
    refine hK1 _ [⟨[[.int .i64 id, .str kind, .str text, .sl (T.rows kids)]], 4, true, true, true, .cell⟩, ⟨[[.int .i64 skind, .int .i64 sid, .int .i64 sat, .int .i64 nid, .str nk, .str nx, .sl (T.rows nks), .str stext]], 8, true, true, true, .cell⟩, ⟨[[.int .i64 ukind, .int .i64 uid, .int .i64 uat, .int .i64 mid, .str mk, .str mx, .sl (T.rows mks), .str utext]], 8, true, true, true, .cell⟩, ⟨[[.int .i64 wkind, .int .i64 wsid, .int .i64 wat, .int .i64 wid, .str wk, .str wt, .sl (T.rows wks), .str wtext]], 8, true, true, true, .cell⟩, poolO esx', ⟨[(LT.mk id kind text (some (xb, xc)) xks).cells], 4, true, true, true, .cell⟩, poolO ess', ⟨[stpC ⟨skind, sid, sat, .mk nid nk nx nks, stext⟩ (LT.mk nid nk nx (some (sb, sc)) sks)], 8, true, true, true, .cell⟩, poolO esu', ⟨[stpC ⟨ukind, uid, uat, .mk mid mk mx mks, utext⟩ (LT.mk mid mk mx (some (ub, uc)) uks)], 8, true, true, true, .cell⟩, poolO esg', ⟨[stpC ⟨wkind, wsid, wat, .mk wid wk wt wks, wtext⟩ (LT.mk gid gk gt none gks)], 8, true, true, true, .cell⟩, ⟨[[.int .i64 wkind, .int .i64 wsid, .int .i64 wat, .int .i64 wid, .str wk, .str wt, .sl (T.rows wks), .str wtext]], 8, true, true, true, .cell⟩] ?_
    clear hK1 K1
    refine box_with hA [(3, .ptr 0 0 0), (4, .ptr 1 0 0), (5, .ptr 2 0 0), (8, .ptr 3 0 0), (9, .bool b), (10, .ptr 5 0 0), (11, .ptr 7 0 0), (12, .ptr 9 0 0), (13, .ptr 11 0 0), (14, .bool b), (16, .int .i64 kg), (17, .int .i64 kg), (18, .ptr 12 0 0), (19, .bool b), (138, .bool (ltB kg 0))] ⟨rfl, rfl, rfl, rfl, rfl, rfl, rfl, rfl, rfl, rfl, rfl, rfl, rfl, rfl, rfl, trivial⟩ fun fr => ?_
    conv => whnf
    rw [ltB_f (by omega)]
    conv => whnf
    refine box_cutw hA 3 [(3, .ptr 0 0 0), (4, .ptr 1 0 0), (5, .ptr 2 0 0), (8, .ptr 3 0 0), (9, .bool b), (10, .ptr 5 0 0), (11, .ptr 7 0 0), (12, .ptr 9 0 0), (13, .ptr 11 0 0), (14, .bool b), (16, .int .i64 kg), (17, .int .i64 kg), (18, .ptr 12 0 0), (19, .bool b)] ⟨rfl, rfl, rfl, rfl, rfl, rfl, rfl, rfl, rfl, rfl, rfl, rfl, rfl, rfl, trivial⟩ fun K1 hK1 fr => ?_
    conv => whnf
    refine hK1 _ [⟨[[.int .i64 id, .str kind, .str text, .sl (T.rows kids)]], 4, true, true, true, .cell⟩, ⟨[[.int .i64 skind, .int .i64 sid, .int .i64 sat, .int .i64 nid, .str nk, .str nx, .sl (T.rows nks), .str stext]], 8, true, true, true, .cell⟩, ⟨[[.int .i64 ukind, .int .i64 uid, .int .i64 uat, .int .i64 mid, .str mk, .str mx, .sl (T.rows mks), .str utext]], 8, true, true, true, .cell⟩, ⟨[[.int .i64 wkind, .int .i64 wsid, .int .i64 wat, .int .i64 wid, .str wk, .str wt, .sl (T.rows wks), .str wtext]], 8, true, true, true, .cell⟩, poolO esx', ⟨[(LT.mk id kind text (some (xb, xc)) xks).cells], 4, true, true, true, .cell⟩, poolO ess', ⟨[stpC ⟨skind, sid, sat, .mk nid nk nx nks, stext⟩ (LT.mk nid nk nx (some (sb, sc)) sks)], 8, true, true, true, .cell⟩, poolO esu', ⟨[stpC ⟨ukind, uid, uat, .mk mid mk mx mks, utext⟩ (LT.mk mid mk mx (some (ub, uc)) uks)], 8, true, true, true, .cell⟩, poolO esg', ⟨[stpC ⟨wkind, wsid, wat, .mk wid wk wt wks, wtext⟩ (LT.mk gid gk gt none gks)], 8, true, true, true, .cell⟩, ⟨[[.int .i64 wkind, .int .i64 wsid, .int .i64 wat, .int .i64 wid, .str wk, .str wt, .sl (T.rows wks), .str wtext]], 8, true, true, true, .cell⟩] ?_
    clear hK1 K1
    refine box_with hA [(3, .ptr 0 0 0), (4, .ptr 1 0 0), (5, .ptr 2 0 0), (8, .ptr 3 0 0), (9, .bool b), (10, .ptr 5 0 0), (11, .ptr 7 0 0), (12, .ptr 9 0 0), (13, .ptr 11 0 0), (14, .bool b), (16, .int .i64 kg), (17, .int .i64 kg), (18, .ptr 12 0 0), (19, .bool b), (141, .bool (negB (eqB kg kg)))] ⟨rfl, rfl, rfl, rfl, rfl, rfl, rfl, rfl, rfl, rfl, rfl, rfl, rfl, rfl, rfl, trivial⟩ fun fr => ?_
    conv => whnf
    rw [eqB_refl]
    conv => whnf
    refine box_go hA ?_
    conv => whnf
  · conv => whnf
    refine hK1 _ [⟨[[.int .i64 id, .str kind, .str text, .sl (T.rows kids)]], 4, true, true, true, .cell⟩, ⟨[[.int .i64 skind, .int .i64 sid, .int .i64 sat, .int .i64 nid, .str nk, .str nx, .sl (T.rows nks), .str stext]], 8, true, true, true, .cell⟩, ⟨[[.int .i64 ukind, .int .i64 uid, .int .i64 uat, .int .i64 mid, .str mk, .str mx, .sl (T.rows mks), .str utext]], 8, true, true, true, .cell⟩, ⟨[[.int .i64 wkind, .int .i64 wsid, .int .i64 wat, .int .i64 wid, .str wk, .str wt, .sl (T.rows wks), .str wtext]], 8, true, true, true, .cell⟩, poolO esx, ⟨[(LT.mk id kind text (some (xb, xc)) xks).cells], 4, true, true, true, .cell⟩, poolO ess, ⟨[stpC ⟨skind, sid, sat, .mk nid nk nx nks, stext⟩ (LT.mk nid nk nx (some (sb, sc)) sks)], 8, true, true, true, .cell⟩, poolO esu, ⟨[stpC ⟨ukind, uid, uat, .mk mid mk mx mks, utext⟩ (LT.mk mid mk mx (some (ub, uc)) uks)], 8, true, true, true, .cell⟩, poolO esg, ⟨[stpC ⟨wkind, wsid, wat, .mk wid wk wt wks, wtext⟩ (LT.mk gid gk gt (some (gb, gc)) gks)], 8, true, true, true, .cell⟩] ?_
    clear hK1 K1
    refine box_with hA [(3, .ptr 0 0 0), (4, .ptr 1 0 0), (5, .ptr 2 0 0), (8, .ptr 3 0 0), (9, .bool b), (10, .ptr 5 0 0), (11, .ptr 7 0 0), (12, .ptr 9 0 0), (13, .ptr 11 0 0), (14, .bool b)] ⟨rfl, rfl, rfl, rfl, rfl, rfl, rfl, rfl, rfl, rfl, trivial⟩ fun fr => ?_
    conv => whnf
    refine box_cutw hA 9 [(3, .ptr 0 0 0), (4, .ptr 1 0 0), (5, .ptr 2 0 0), (8, .ptr 3 0 0), (9, .bool b), (10, .ptr 5 0 0), (11, .ptr 7 0 0), (12, .ptr 9 0 0), (13, .ptr 11 0 0), (14, .bool b)] ⟨rfl, rfl, rfl, rfl, rfl, rfl, rfl, rfl, rfl, rfl, trivial⟩ fun K1 hK1 fr => ?_
    conv => whnf
    refine .inr (.inr ⟨esg, [.agg _, .agg _], fun e he => ⟨10, he⟩, viewL2 hvg (.same _), rfl, ew.mono ?_⟩)
    rintro r rfl
    refine ⟨rfl, ?_⟩
    conv => whnf
    rw [sneqb_refl]
    conv => whnf
    refine hK1 _ [⟨[[.int .i64 id, .str kind, .str text, .sl (T.rows kids)]], 4, true, true, true, .cell⟩, ⟨[[.int .i64 skind, .int .i64 sid, .int .i64 sat, .int .i64 nid, .str nk, .str nx, .sl (T.rows nks), .str stext]], 8, true, true, true, .cell⟩, ⟨[[.int .i64 ukind, .int .i64 uid, .int .i64 uat, .int .i64 mid, .str mk, .str mx, .sl (T.rows mks), .str utext]], 8, true, true, true, .cell⟩, ⟨[[.int .i64 wkind, .int .i64 wsid, .int .i64 wat, .int .i64 wid, .str wk, .str wt, .sl (T.rows wks), .str wtext]], 8, true, true, true, .cell⟩, poolO esx, ⟨[(LT.mk id kind text (some (xb, xc)) xks).cells], 4, true, true, true, .cell⟩, poolO ess, ⟨[stpC ⟨skind, sid, sat, .mk nid nk nx nks, stext⟩ (LT.mk nid nk nx (some (sb, sc)) sks)], 8, true, true, true, .cell⟩, poolO esu, ⟨[stpC ⟨ukind, uid, uat, .mk mid mk mx mks, utext⟩ (LT.mk mid mk mx (some (ub, uc)) uks)], 8, true, true, true, .cell⟩, poolO esg, ⟨[stpC ⟨wkind, wsid, wat, .mk wid wk wt wks, wtext⟩ (LT.mk gid gk gt (some (gb, gc)) gks)], 8, true, true, true, .cell⟩] ?_
    clear hK1 K1
    refine box_with hA [(3, .ptr 0 0 0), (4, .ptr 1 0 0), (5, .ptr 2 0 0), (8, .ptr 3 0 0), (9, .bool b), (10, .ptr 5 0 0), (11, .ptr 7 0 0), (12, .ptr 9 0 0), (13, .ptr 11 0 0), (14, .bool b), (66, .bool false)] ⟨rfl, rfl, rfl, rfl, rfl, rfl, rfl, rfl, rfl, rfl, rfl, trivial⟩ fun fr => ?_
    conv => whnf
    refine ⟨_, .inl e1, ?_⟩
    conv => whnf
    refine ⟨.bool true, .inr ⟨esx, [.agg (T.mk id kind text kids).cells, .agg (T.mk id kind text kids).cells], fun e he => ⟨4, he⟩, viewL2 hvx (.same _), rfl, e2.mono fun r hr => ⟨by rw [hr]; rfl, hr⟩⟩, ?_⟩
    conv => whnf
    refine ⟨_, .inl e1s, ?_⟩
    conv => whnf
    refine ⟨.bool true, .inr ⟨ess, [.agg _, .agg _], fun e he => ⟨6, he⟩, viewL2 hvs (.same _), rfl, e2s.mono fun r hr => ⟨by rw [hr]; rfl, hr⟩⟩, ?_⟩
    conv => whnf
    refine ⟨_, .inl e1u, ?_⟩
    conv => whnf
    refine ⟨.bool true, .inr ⟨esu, [.agg _, .agg _], fun e he => ⟨8, he⟩, viewL2 hvu (.same _), rfl, e2u.mono fun r hr => ⟨by rw [hr]; rfl, hr⟩⟩, ?_⟩
    conv => whnf
    refine box_cutw hA 1 [(3, .ptr 0 0 0), (4, .ptr 1 0 0), (5, .ptr 2 0 0), (8, .ptr 3 0 0), (9, .bool b), (10, .ptr 5 0 0), (11, .ptr 7 0 0), (12, .ptr 9 0 0), (13, .ptr 11 0 0), (14, .bool b)] ⟨rfl, rfl, rfl, rfl, rfl, rfl, rfl, rfl, rfl, rfl, trivial⟩ fun K1 hK1 fr => ?_
    conv => whnf
    refine hK1 _ [⟨[[.int .i64 id, .str kind, .str text, .sl (T.rows kids)]], 4, true, true, true, .cell⟩, ⟨[[.int .i64 skind, .int .i64 sid, .int .i64 sat, .int .i64 nid, .str nk, .str nx, .sl (T.rows nks), .str stext]], 8, true, true, true, .cell⟩, ⟨[[.int .i64 ukind, .int .i64 uid, .int .i64 uat, .int .i64 mid, .str mk, .str mx, .sl (T.rows mks), .str utext]], 8, true, true, true, .cell⟩, ⟨[[.int .i64 wkind, .int .i64 wsid, .int .i64 wat, .int .i64 wid, .str wk, .str wt, .sl (T.rows wks), .str wtext]], 8, true, true, true, .cell⟩, poolO esx, ⟨[(LT.mk id kind text (some (xb, xc)) xks).cells], 4, true, true, true, .cell⟩, poolO ess, ⟨[stpC ⟨skind, sid, sat, .mk nid nk nx nks, stext⟩ (LT.mk nid nk nx (some (sb, sc)) sks)], 8, true, true, true, .cell⟩, poolO esu, ⟨[stpC ⟨ukind, uid, uat, .mk mid mk mx mks, utext⟩ (LT.mk mid mk mx (some (ub, uc)) uks)], 8, true, true, true, .cell⟩, poolO esg, ⟨[stpC ⟨wkind, wsid, wat, .mk wid wk wt wks, wtext⟩ (LT.mk gid gk gt (some (gb, gc)) gks)], 8, true, true, true, .cell⟩] ?_
    clear hK1 K1
    refine box_with hA [(3, .ptr 0 0 0), (4, .ptr 1 0 0), (5, .ptr 2 0 0), (8, .ptr 3 0 0), (9, .bool b), (10, .ptr 5 0 0), (11, .ptr 7 0 0), (12, .ptr 9 0 0), (13, .ptr 11 0 0), (14, .bool b), (15, .int .i64 1)] ⟨rfl, rfl, rfl, rfl, rfl, rfl, rfl, rfl, rfl, rfl, rfl, trivial⟩ fun fr => ?_
    conv => whnf
    refine box_cutw hA 4 [(3, .ptr 0 0 0), (4, .ptr 1 0 0), (5, .ptr 2 0 0), (8, .ptr 3 0 0), (9, .bool b), (10, .ptr 5 0 0), (11, .ptr 7 0 0), (12, .ptr 9 0 0), (13, .ptr 11 0 0), (14, .bool b), (15, .int .i64 1)] ⟨rfl, rfl, rfl, rfl, rfl, rfl, rfl, rfl, rfl, rfl, rfl, trivial⟩ fun K1 hK1 fr => ?_
    conv => whnf
    refine .inr (.inl ⟨[4], false, ?_⟩)
    conv => whnf
    refine hmx.mono ?_
    rintro o st' ⟨esx', rfl, rfl, hvx'⟩
    conv => whnf
    refine hK1 _ [⟨[[.int .i64 id, .str kind, .str text, .sl (T.rows kids)]], 4, true, true, true, .cell⟩, ⟨[[.int .i64 skind, .int .i64 sid, .int .i64 sat, .int .i64 nid, .str nk, .str nx, .sl (T.rows nks), .str stext]], 8, true, true, true, .cell⟩, ⟨[[.int .i64 ukind, .int .i64 uid, .int .i64 uat, .int .i64 mid, .str mk, .str mx, .sl (T.rows mks), .str utext]], 8, true, true, true, .cell⟩, ⟨[[.int .i64 wkind, .int .i64 wsid, .int .i64 wat, .int .i64 wid, .str wk, .str wt, .sl (T.rows wks), .str wtext]], 8, true, true, true, .cell⟩, poolO esx', ⟨[(LT.mk id kind text (some (xb, xc)) xks).cells], 4, true, true, true, .cell⟩, poolO ess, ⟨[stpC ⟨skind, sid, sat, .mk nid nk nx nks, stext⟩ (LT.mk nid nk nx (some (sb, sc)) sks)], 8, true, true, true, .cell⟩, poolO esu, ⟨[stpC ⟨ukind, uid, uat, .mk mid mk mx mks, utext⟩ (LT.mk mid mk mx (some (ub, uc)) uks)], 8, true, true, true, .cell⟩, poolO esg, ⟨[stpC ⟨wkind, wsid, wat, .mk wid wk wt wks, wtext⟩ (LT.mk gid gk gt (some (gb, gc)) gks)], 8, true, true, true, .cell⟩] ?_
    clear hK1 K1
    refine box_with hA [(3, .ptr 0 0 0), (4, .ptr 1 0 0), (5, .ptr 2 0 0), (8, .ptr 3 0 0), (9, .bool b), (10, .ptr 5 0 0), (11, .ptr 7 0 0), (12, .ptr 9 0 0), (13, .ptr 11 0 0), (14, .bool b), (15, .int .i64 kx)] ⟨rfl, rfl, rfl, rfl, rfl, rfl, rfl, rfl, rfl, rfl, rfl, trivial⟩ fun fr => ?_
    conv => whnf
    refine box_cutw hA 4 [(3, .ptr 0 0 0), (4, .ptr 1 0 0), (5, .ptr 2 0 0), (8, .ptr 3 0 0), (9, .bool b), (10, .ptr 5 0 0), (11, .ptr 7 0 0), (12, .ptr 9 0 0), (13, .ptr 11 0 0), (14, .bool b), (15, .int .i64 kx)] ⟨rfl, rfl, rfl, rfl, rfl, rfl, rfl, rfl, rfl, rfl, rfl, trivial⟩ fun K1 hK1 fr => ?_
    conv => whnf
    refine .inr (.inl ⟨[6], false, ?_⟩)
    conv => whnf
    refine hms.mono ?_
    rintro o st' ⟨ess', rfl, rfl⟩
    conv => whnf
    refine hK1 _ [⟨[[.int .i64 id, .str kind, .str text, .sl (T.rows kids)]], 4, true, true, true, .cell⟩, ⟨[[.int .i64 skind, .int .i64 sid, .int .i64 sat, .int .i64 nid, .str nk, .str nx, .sl (T.rows nks), .str stext]], 8, true, true, true, .cell⟩, ⟨[[.int .i64 ukind, .int .i64 uid, .int .i64 uat, .int .i64 mid, .str mk, .str mx, .sl (T.rows mks), .str utext]], 8, true, true, true, .cell⟩, ⟨[[.int .i64 wkind, .int .i64 wsid, .int .i64 wat, .int .i64 wid, .str wk, .str wt, .sl (T.rows wks), .str wtext]], 8, true, true, true, .cell⟩, poolO esx', ⟨[(LT.mk id kind text (some (xb, xc)) xks).cells], 4, true, true, true, .cell⟩, poolO ess', ⟨[stpC ⟨skind, sid, sat, .mk nid nk nx nks, stext⟩ (LT.mk nid nk nx (some (sb, sc)) sks)], 8, true, true, true, .cell⟩, poolO esu, ⟨[stpC ⟨ukind, uid, uat, .mk mid mk mx mks, utext⟩ (LT.mk mid mk mx (some (ub, uc)) uks)], 8, true, true, true, .cell⟩, poolO esg, ⟨[stpC ⟨wkind, wsid, wat, .mk wid wk wt wks, wtext⟩ (LT.mk gid gk gt (some (gb, gc)) gks)], 8, true, true, true, .cell⟩] ?_
    clear hK1 K1
    refine box_with hA [(3, .ptr 0 0 0), (4, .ptr 1 0 0), (5, .ptr 2 0 0), (8, .ptr 3 0 0), (9, .bool b), (10, .ptr 5 0 0), (11, .ptr 7 0 0), (12, .ptr 9 0 0), (13, .ptr 11 0 0), (14, .bool b), (15, .int .i64 ky)] ⟨rfl, rfl, rfl, rfl, rfl, rfl, rfl, rfl, rfl, rfl, rfl, trivial⟩ fun fr => ?_
    conv => whnf
    refine box_cutw hA 4 [(3, .ptr 0 0 0), (4, .ptr 1 0 0), (5, .ptr 2 0 0), (8, .ptr 3 0 0), (9, .bool b), (10, .ptr 5 0 0), (11, .ptr 7 0 0), (12, .ptr 9 0 0), (13, .ptr 11 0 0), (14, .bool b), (15, .int .i64 ky)] ⟨rfl, rfl, rfl, rfl, rfl, rfl, rfl, rfl, rfl, rfl, rfl, trivial⟩ fun K1 hK1 fr => ?_
    conv => whnf
    refine .inr (.inl ⟨[8], false, ?_⟩)
    conv => whnf
    refine hmu.mono ?_
    rintro o st' ⟨esu', rfl, rfl⟩
    conv => whnf
    refine hK1 _ [⟨[[.int .i64 id, .str kind, .str text, .sl (T.rows kids)]], 4, true, true, true, .cell⟩, ⟨[[.int .i64 skind, .int .i64 sid, .int .i64 sat, .int .i64 nid, .str nk, .str nx, .sl (T.rows nks), .str stext]], 8, true, true, true, .cell⟩, ⟨[[.int .i64 ukind, .int .i64 uid, .int .i64 uat, .int .i64 mid, .str mk, .str mx, .sl (T.rows mks), .str utext]], 8, true, true, true, .cell⟩, ⟨[[.int .i64 wkind, .int .i64 wsid, .int .i64 wat, .int .i64 wid, .str wk, .str wt, .sl (T.rows wks), .str wtext]], 8, true, true, true, .cell⟩, poolO esx', ⟨[(LT.mk id kind text (some (xb, xc)) xks).cells], 4, true, true, true, .cell⟩, poolO ess', ⟨[stpC ⟨skind, sid, sat, .mk nid nk nx nks, stext⟩ (LT.mk nid nk nx (some (sb, sc)) sks)], 8, true, true, true, .cell⟩, poolO esu', ⟨[stpC ⟨ukind, uid, uat, .mk mid mk mx mks, utext⟩ (LT.mk mid mk mx (some (ub, uc)) uks)], 8, true, true, true, .cell⟩, poolO esg, ⟨[stpC ⟨wkind, wsid, wat, .mk wid wk wt wks, wtext⟩ (LT.mk gid gk gt (some (gb, gc)) gks)], 8, true, true, true, .cell⟩] ?_
    clear hK1 K1
    refine box_with hA [(3, .ptr 0 0 0), (4, .ptr 1 0 0), (5, .ptr 2 0 0), (8, .ptr 3 0 0), (9, .bool b), (10, .ptr 5 0 0), (11, .ptr 7 0 0), (12, .ptr 9 0 0), (13, .ptr 11 0 0), (14, .bool b), (15, .int .i64 kz)] ⟨rfl, rfl, rfl, rfl, rfl, rfl, rfl, rfl, rfl, rfl, rfl, trivial⟩ fun fr => ?_
    conv => whnf
    refine box_cutw hA 13 [(3, .ptr 0 0 0), (4, .ptr 1 0 0), (5, .ptr 2 0 0), (8, .ptr 3 0 0), (9, .bool b), (10, .ptr 5 0 0), (11, .ptr 7 0 0), (12, .ptr 9 0 0), (13, .ptr 11 0 0), (14, .bool b), (15, .int .i64 kz)] ⟨rfl, rfl, rfl, rfl, rfl, rfl, rfl, rfl, rfl, rfl, rfl, trivial⟩ fun K1 hK1 fr => ?_
    conv => whnf
    rw [ltB_f (by omega)]
    conv => whnf
    refine .inr (.inr ⟨esg, [.agg _, .agg _], fun e he => ⟨10, he⟩, viewL2 hvg (.same _), rfl, ew.mono ?_⟩)
    rintro r rfl
    refine ⟨rfl, ?_⟩
    conv => whnf
    rw [sneqb_refl]
    conv => whnf
    refine hK1 _ [⟨[[.int .i64 id, .str kind, .str text, .sl (T.rows kids)]], 4, true, true, true, .cell⟩, ⟨[[.int .i64 skind, .int .i64 sid, .int .i64 sat, .int .i64 nid, .str nk, .str nx, .sl (T.rows nks), .str stext]], 8, true, true, true, .cell⟩, ⟨[[.int .i64 ukind, .int .i64 uid, .int .i64 uat, .int .i64 mid, .str mk, .str mx, .sl (T.rows mks), .str utext]], 8, true, true, true, .cell⟩, ⟨[[.int .i64 wkind, .int .i64 wsid, .int .i64 wat, .int .i64 wid, .str wk, .str wt, .sl (T.rows wks), .str wtext]], 8, true, true, true, .cell⟩, poolO esx', ⟨[(LT.mk id kind text (some (xb, xc)) xks).cells], 4, true, true, true, .cell⟩, poolO ess', ⟨[stpC ⟨skind, sid, sat, .mk nid nk nx nks, stext⟩ (LT.mk nid nk nx (some (sb, sc)) sks)], 8, true, true, true, .cell⟩, poolO esu', ⟨[stpC ⟨ukind, uid, uat, .mk mid mk mx mks, utext⟩ (LT.mk mid mk mx (some (ub, uc)) uks)], 8, true, true, true, .cell⟩, poolO esg, ⟨[stpC ⟨wkind, wsid, wat, .mk wid wk wt wks, wtext⟩ (LT.mk gid gk gt (some (gb, gc)) gks)], 8, true, true, true, .cell⟩] ?_
    clear hK1 K1
    refine box_with hA [(3, .ptr 0 0 0), (4, .ptr 1 0 0), (5, .ptr 2 0 0), (8, .ptr 3 0 0), (9, .bool b), (10, .ptr 5 0 0), (11, .ptr 7 0 0), (12, .ptr 9 0 0), (13, .ptr 11 0 0), (14, .bool b), (103, .bool false)] ⟨rfl, rfl, rfl, rfl, rfl, rfl, rfl, rfl, rfl, rfl, rfl, trivial⟩ fun fr => ?_
    conv => whnf
    refine box_cutw hA 1 [(3, .ptr 0 0 0), (4, .ptr 1 0 0), (5, .ptr 2 0 0), (8, .ptr 3 0 0), (9, .bool b), (10, .ptr 5 0 0), (11, .ptr 7 0 0), (12, .ptr 9 0 0), (13, .ptr 11 0 0), (14, .bool b)] ⟨rfl, rfl, rfl, rfl, rfl, rfl, rfl, rfl, rfl, rfl, trivial⟩ fun K1 hK1 fr => ?_
    conv => whnf
    refine hK1 _ [⟨[[.int .i64 id, .str kind, .str text, .sl (T.rows kids)]], 4, true, true, true, .cell⟩, ⟨[[.int .i64 skind, .int .i64 sid, .int .i64 sat, .int .i64 nid, .str nk, .str nx, .sl (T.rows nks), .str stext]], 8, true, true, true, .cell⟩, ⟨[[.int .i64 ukind, .int .i64 uid, .int .i64 uat, .int .i64 mid, .str mk, .str mx, .sl (T.rows mks), .str utext]], 8, true, true, true, .cell⟩, ⟨[[.int .i64 wkind, .int .i64 wsid, .int .i64 wat, .int .i64 wid, .str wk, .str wt, .sl (T.rows wks), .str wtext]], 8, true, true, true, .cell⟩, poolO esx', ⟨[(LT.mk id kind text (some (xb, xc)) xks).cells], 4, true, true, true, .cell⟩, poolO ess', ⟨[stpC ⟨skind, sid, sat, .mk nid nk nx nks, stext⟩ (LT.mk nid nk nx (some (sb, sc)) sks)], 8, true, true, true, .cell⟩, poolO esu', ⟨[stpC ⟨ukind, uid, uat, .mk mid mk mx mks, utext⟩ (LT.mk mid mk mx (some (ub, uc)) uks)], 8, true, true, true, .cell⟩, poolO esg, ⟨[stpC ⟨wkind, wsid, wat, .mk wid wk wt wks, wtext⟩ (LT.mk gid gk gt (some (gb, gc)) gks)], 8, true, true, true, .cell⟩] ?_
    clear hK1 K1
    refine box_with hA [(3, .ptr 0 0 0), (4, .ptr 1 0 0), (5, .ptr 2 0 0), (8, .ptr 3 0 0), (9, .bool b), (10, .ptr 5 0 0), (11, .ptr 7 0 0), (12, .ptr 9 0 0), (13, .ptr 11 0 0), (14, .bool b), (16, .int .i64 1)] ⟨rfl, rfl, rfl, rfl, rfl, rfl, rfl, rfl, rfl, rfl, rfl, trivial⟩ fun fr => ?_
    conv => whnf
    refine box_cutw hA 4 [(3, .ptr 0 0 0), (4, .ptr 1 0 0), (5, .ptr 2 0 0), (8, .ptr 3 0 0), (9, .bool b), (10, .ptr 5 0 0), (11, .ptr 7 0 0), (12, .ptr 9 0 0), (13, .ptr 11 0 0), (14, .bool b), (16, .int .i64 1)] ⟨rfl, rfl, rfl, rfl, rfl, rfl, rfl, rfl, rfl, rfl, rfl, trivial⟩ fun K1 hK1 fr => ?_
    conv => whnf
    refine .inr (.inl ⟨[10], true, ?_⟩)
    conv => whnf
    refine hmg.mono ?_
    rintro o st' ⟨esg', rfl, rfl, hvg'⟩
    conv => whnf
    refine hK1 _ [⟨[[.int .i64 id, .str kind, .str text, .sl (T.rows kids)]], 4, true, true, true, .cell⟩, ⟨[[.int .i64 skind, .int .i64 sid, .int .i64 sat, .int .i64 nid, .str nk, .str nx, .sl (T.rows nks), .str stext]], 8, true, true, true, .cell⟩, ⟨[[.int .i64 ukind, .int .i64 uid, .int .i64 uat, .int .i64 mid, .str mk, .str mx, .sl (T.rows mks), .str utext]], 8, true, true, true, .cell⟩, ⟨[[.int .i64 wkind, .int .i64 wsid, .int .i64 wat, .int .i64 wid, .str wk, .str wt, .sl (T.rows wks), .str wtext]], 8, true, true, true, .cell⟩, poolO esx', ⟨[(LT.mk id kind text (some (xb, xc)) xks).cells], 4, true, true, true, .cell⟩, poolO ess', ⟨[stpC ⟨skind, sid, sat, .mk nid nk nx nks, stext⟩ (LT.mk nid nk nx (some (sb, sc)) sks)], 8, true, true, true, .cell⟩, poolO esu', ⟨[stpC ⟨ukind, uid, uat, .mk mid mk mx mks, utext⟩ (LT.mk mid mk mx (some (ub, uc)) uks)], 8, true, true, true, .cell⟩, poolO esg', ⟨[stpC ⟨wkind, wsid, wat, .mk wid wk wt wks, wtext⟩ (LT.mk gid gk gt (some (gb, gc)) gks)], 8, true, true, true, .cell⟩] ?_
    clear hK1 K1
    refine box_with hA [(3, .ptr 0 0 0), (4, .ptr 1 0 0), (5, .ptr 2 0 0), (8, .ptr 3 0 0), (9, .bool b), (10, .ptr 5 0 0), (11, .ptr 7 0 0), (12, .ptr 9 0 0), (13, .ptr 11 0 0), (14, .bool b), (16, .int .i64 kg)] ⟨rfl, rfl, rfl, rfl, rfl, rfl, rfl, rfl, rfl, rfl, rfl, trivial⟩ fun fr => ?_
    conv => whnf
    refine box_cutw hA 1 [(3, .ptr 0 0 0), (4, .ptr 1 0 0), (5, .ptr 2 0 0), (8, .ptr 3 0 0), (9, .bool b), (10, .ptr 5 0 0), (11, .ptr 7 0 0), (12, .ptr 9 0 0), (13, .ptr 11 0 0), (14, .bool b), (16, .int .i64 kg)] ⟨rfl, rfl, rfl, rfl, rfl, rfl, rfl, rfl, rfl, rfl, rfl, trivial⟩ fun K1 hK1 fr => ?_
    conv => whnf
    refine hK1 _ [⟨[[.int .i64 id, .str kind, .str text, .sl (T.rows kids)]], 4, true, true, true, .cell⟩, ⟨[[.int .i64 skind, .int .i64 sid, .int .i64 sat, .int .i64 nid, .str nk, .str nx, .sl (T.rows nks), .str stext]], 8, true, true, true, .cell⟩, ⟨[[.int .i64 ukind, .int .i64 uid, .int .i64 uat, .int .i64 mid, .str mk, .str mx, .sl (T.rows mks), .str utext]], 8, true, true, true, .cell⟩, ⟨[[.int .i64 wkind, .int .i64 wsid, .int .i64 wat, .int .i64 wid, .str wk, .str wt, .sl (T.rows wks), .str wtext]], 8, true, true, true, .cell⟩, poolO esx', ⟨[(LT.mk id kind text (some (xb, xc)) xks).cells], 4, true, true, true, .cell⟩, poolO ess', ⟨[stpC ⟨skind, sid, sat, .mk nid nk nx nks, stext⟩ (LT.mk nid nk nx (some (sb, sc)) sks)], 8, true, true, true, .cell⟩, poolO esu', ⟨[stpC ⟨ukind, uid, uat, .mk mid mk mx mks, utext⟩ (LT.mk mid mk mx (some (ub, uc)) uks)], 8, true, true, true, .cell⟩, poolO esg', ⟨[stpC ⟨wkind, wsid, wat, .mk wid wk wt wks, wtext⟩ (LT.mk gid gk gt (some (gb, gc)) gks)], 8, true, true, true, .cell⟩] ?_
    clear hK1 K1
    refine box_with hA [(3, .ptr 0 0 0), (4, .ptr 1 0 0), (5, .ptr 2 0 0), (8, .ptr 3 0 0), (9, .bool b), (10, .ptr 5 0 0), (11, .ptr 7 0 0), (12, .ptr 9 0 0), (13, .ptr 11 0 0), (14, .bool b), (16, .int .i64 kg), (17, .int .i64 1)] ⟨rfl, rfl, rfl, rfl, rfl, rfl, rfl, rfl, rfl, rfl, rfl, rfl, trivial⟩ fun fr => ?_
    conv => whnf
    refine box_cutw hA 4 [(3, .ptr 0 0 0), (4, .ptr 1 0 0), (5, .ptr 2 0 0), (8, .ptr 3 0 0), (9, .bool b), (10, .ptr 5 0 0), (11, .ptr 7 0 0), (12, .ptr 9 0 0), (13, .ptr 11 0 0), (14, .bool b), (16, .int .i64 kg), (17, .int .i64 1)] ⟨rfl, rfl, rfl, rfl, rfl, rfl, rfl, rfl, rfl, rfl, rfl, rfl, trivial⟩ fun K1 hK1 fr => ?_
    conv => whnf
    refine .inr (.inr ⟨esg', [_, .int .i64 1], fun e he => ⟨10, he⟩, viewL2 hvg' (.same _), hcw, hhg.mono ?_⟩)
    rintro r rfl
    refine ⟨rfl, ?_⟩
    conv => whnf
    refine hK1 _ [⟨[[.int .i64 id, .str kind, .str text, .sl (T.rows kids)]], 4, true, true, true, .cell⟩, ⟨[[.int .i64 skind, .int .i64 sid, .int .i64 sat, .int .i64 nid, .str nk, .str nx, .sl (T.rows nks), .str stext]], 8, true, true, true, .cell⟩, ⟨[[.int .i64 ukind, .int .i64 uid, .int .i64 uat, .int .i64 mid, .str mk, .str mx, .sl (T.rows mks), .str utext]], 8, true, true, true, .cell⟩, ⟨[[.int .i64 wkind, .int .i64 wsid, .int .i64 wat, .int .i64 wid, .str wk, .str wt, .sl (T.rows wks), .str wtext]], 8, true, true, true, .cell⟩, poolO esx', ⟨[(LT.mk id kind text (some (xb, xc)) xks).cells], 4, true, true, true, .cell⟩, poolO ess', ⟨[stpC ⟨skind, sid, sat, .mk nid nk nx nks, stext⟩ (LT.mk nid nk nx (some (sb, sc)) sks)], 8, true, true, true, .cell⟩, poolO esu', ⟨[stpC ⟨ukind, uid, uat, .mk mid mk mx mks, utext⟩ (LT.mk mid mk mx (some (ub, uc)) uks)], 8, true, true, true, .cell⟩, poolO esg', ⟨[stpC ⟨wkind, wsid, wat, .mk wid wk wt wks, wtext⟩ (LT.mk gid gk gt (some (gb, gc)) gks)], 8, true, true, true, .cell⟩] ?_
    clear hK1 K1
    refine box_with hA [(3, .ptr 0 0 0), (4, .ptr 1 0 0), (5, .ptr 2 0 0), (8, .ptr 3 0 0), (9, .bool b), (10, .ptr 5 0 0), (11, .ptr 7 0 0), (12, .ptr 9 0 0), (13, .ptr 11 0 0), (14, .bool b), (16, .int .i64 kg), (17, .int .i64 kg)] ⟨rfl, rfl, rfl, rfl, rfl, rfl, rfl, rfl, rfl, rfl, rfl, rfl, trivial⟩ fun fr => ?_
    conv => whnf
    refine box_cutw hA 2 [(3, .ptr 0 0 0), (4, .ptr 1 0 0), (5, .ptr 2 0 0), (8, .ptr 3 0 0), (9, .bool b), (10, .ptr 5 0 0), (11, .ptr 7 0 0), (12, .ptr 9 0 0), (13, .ptr 11 0 0), (14, .bool b), (16, .int .i64 kg), (17, .int .i64 kg)] ⟨rfl, rfl, rfl, rfl, rfl, rfl, rfl, rfl, rfl, rfl, rfl, rfl, trivial⟩ fun K1 hK1 fr => ?_
    conv => whnf
    skip
    refine hK1 _ [⟨[[.int .i64 id, .str kind, .str text, .sl (T.rows kids)]], 4, true, true, true, .cell⟩, ⟨[[.int .i64 skind, .int .i64 sid, .int .i64 sat, .int .i64 nid, .str nk, .str nx, .sl (T.rows nks), .str stext]], 8, true, true, true, .cell⟩, ⟨[[.int .i64 ukind, .int .i64 uid, .int .i64 uat, .int .i64 mid, .str mk, .str mx, .sl (T.rows mks), .str utext]], 8, true, true, true, .cell⟩, ⟨[[.int .i64 wkind, .int .i64 wsid, .int .i64 wat, .int .i64 wid, .str wk, .str wt, .sl (T.rows wks), .str wtext]], 8, true, true, true, .cell⟩, poolO esx', ⟨[(LT.mk id kind text (some (xb, xc)) xks).cells], 4, true, true, true, .cell⟩, poolO ess', ⟨[stpC ⟨skind, sid, sat, .mk nid nk nx nks, stext⟩ (LT.mk nid nk nx (some (sb, sc)) sks)], 8, true, true, true, .cell⟩, poolO esu', ⟨[stpC ⟨ukind, uid, uat, .mk mid mk mx mks, utext⟩ (LT.mk mid mk mx (some (ub, uc)) uks)], 8, true, true, true, .cell⟩, poolO esg', ⟨[stpC ⟨wkind, wsid, wat, .mk wid wk wt wks, wtext⟩ (LT.mk gid gk gt (some (gb, gc)) gks)], 8, true, true, true, .cell⟩] ?_
    clear hK1 K1
    refine box_with hA [(3, .ptr 0 0 0), (4, .ptr 1 0 0), (5, .ptr 2 0 0), (8, .ptr 3 0 0), (9, .bool b), (10, .ptr 5 0 0), (11, .ptr 7 0 0), (12, .ptr 9 0 0), (13, .ptr 11 0 0), (14, .bool b), (16, .int .i64 kg), (17, .int .i64 kg), (111, .bool (ltB kg 0))] ⟨rfl, rfl, rfl, rfl, rfl, rfl, rfl, rfl, rfl, rfl, rfl, rfl, rfl, trivial⟩ fun fr => ?_
    conv => whnf
    rw [ltB_f (by omega)]
    conv => whnf
    refine box_cutw hA 3 [(3, .ptr 0 0 0), (4, .ptr 1 0 0), (5, .ptr 2 0 0), (8, .ptr 3 0 0), (9, .bool b), (10, .ptr 5 0 0), (11, .ptr 7 0 0), (12, .ptr 9 0 0), (13, .ptr 11 0 0), (14, .bool b), (16, .int .i64 kg), (17, .int .i64 kg)] ⟨rfl, rfl, rfl, rfl, rfl, rfl, rfl, rfl, rfl, rfl, rfl, rfl, trivial⟩ fun K1 hK1 fr => ?_
    conv => whnf
    refine hK1 _ [⟨[[.int .i64 id, .str kind, .str text, .sl (T.rows kids)]], 4, true, true, true, .cell⟩, ⟨[[.int .i64 skind, .int .i64 sid, .int .i64 sat, .int .i64 nid, .str nk, .str nx, .sl (T.rows nks), .str stext]], 8, true, true, true, .cell⟩, ⟨[[.int .i64 ukind, .int .i64 uid, .int .i64 uat, .int .i64 mid, .str mk, .str mx, .sl (T.rows mks), .str utext]], 8, true, true, true, .cell⟩, ⟨[[.int .i64 wkind, .int .i64 wsid, .int .i64 wat, .int .i64 wid, .str wk, .str wt, .sl (T.rows wks), .str wtext]], 8, true, true, true, .cell⟩, poolO esx', ⟨[(LT.mk id kind text (some (xb, xc)) xks).cells], 4, true, true, true, .cell⟩, poolO ess', ⟨[stpC ⟨skind, sid, sat, .mk nid nk nx nks, stext⟩ (LT.mk nid nk nx (some (sb, sc)) sks)], 8, true, true, true, .cell⟩, poolO esu', ⟨[stpC ⟨ukind, uid, uat, .mk mid mk mx mks, utext⟩ (LT.mk mid mk mx (some (ub, uc)) uks)], 8, true, true, true, .cell⟩, poolO esg', ⟨[stpC ⟨wkind, wsid, wat, .mk wid wk wt wks, wtext⟩ (LT.mk gid gk gt (some (gb, gc)) gks)], 8, true, true, true, .cell⟩] ?_
    clear hK1 K1
    refine box_with hA [(3, .ptr 0 0 0), (4, .ptr 1 0 0), (5, .ptr 2 0 0), (8, .ptr 3 0 0), (9, .bool b), (10, .ptr 5 0 0), (11, .ptr 7 0 0), (12, .ptr 9 0 0), (13, .ptr 11 0 0), (14, .bool b), (16, .int .i64 kg), (17, .int .i64 kg), (114, .bool (negB (eqB kg kg)))] ⟨rfl, rfl, rfl, rfl, rfl, rfl, rfl, rfl, rfl, rfl, rfl, rfl, rfl, trivial⟩ fun fr => ?_
    conv => whnf
    rw [eqB_refl]
    conv => whnf
    refine ⟨_, .inl e1, ?_⟩
    conv => whnf
    refine ⟨_, .inl e1s, ?_⟩
    conv => whnf
    refine ⟨_, .inl e1u, ?_⟩
    conv => whnf
    refine ⟨_, .inl hI, ?_⟩
    conv => whnf
    repeat (refine And.intro (by
              (conv => whnf)
              first
                | rfl
                | exact ⟨_, .inl e1, rfl⟩
                | exact ⟨_, .inl e1s, rfl⟩
                | exact ⟨_, .inl e1u, rfl⟩
                | exact ⟨_, .inl hI, rfl⟩) ?_
            conv => whnf)
    refine box_cutw hA 9 [(3, .ptr 0 0 0), (4, .ptr 1 0 0), (5, .ptr 2 0 0), (8, .ptr 3 0 0), (9, .bool b), (10, .ptr 5 0 0), (11, .ptr 7 0 0), (12, .ptr 9 0 0), (13, .ptr 11 0 0), (14, .bool b), (16, .int .i64 kg), (18, .ptr 12 0 0), (19, .bool b)] ⟨rfl, rfl, rfl, rfl, rfl, rfl, rfl, rfl, rfl, rfl, rfl, rfl, rfl, trivial⟩ fun K1 hK1 fr => ?_
    conv => whnf
    refine .inl (ew.mono ?_)
    rintro r rfl
    conv => whnf
    rw [sneqb_refl]
    conv => whnf
    refine hK1 _ [⟨[[.int .i64 id, .str kind, .str text, .sl (T.rows kids)]], 4, true, true, true, .cell⟩, ⟨[[.int .i64 skind, .int .i64 sid, .int .i64 sat, .int .i64 nid, .str nk, .str nx, .sl (T.rows nks), .str stext]], 8, true, true, true, .cell⟩, ⟨[[.int .i64 ukind, .int .i64 uid, .int .i64 uat, .int .i64 mid, .str mk, .str mx, .sl (T.rows mks), .str utext]], 8, true, true, true, .cell⟩, ⟨[[.int .i64 wkind, .int .i64 wsid, .int .i64 wat, .int .i64 wid, .str wk, .str wt, .sl (T.rows wks), .str wtext]], 8, true, true, true, .cell⟩, poolO esx', ⟨[(LT.mk id kind text (some (xb, xc)) xks).cells], 4, true, true, true, .cell⟩, poolO ess', ⟨[stpC ⟨skind, sid, sat, .mk nid nk nx nks, stext⟩ (LT.mk nid nk nx (some (sb, sc)) sks)], 8, true, true, true, .cell⟩, poolO esu', ⟨[stpC ⟨ukind, uid, uat, .mk mid mk mx mks, utext⟩ (LT.mk mid mk mx (some (ub, uc)) uks)], 8, true, true, true, .cell⟩, poolO esg', ⟨[stpC ⟨wkind, wsid, wat, .mk wid wk wt wks, wtext⟩ (LT.mk gid gk gt (some (gb, gc)) gks)], 8, true, true, true, .cell⟩, ⟨[[.int .i64 wkind, .int .i64 wsid, .int .i64 wat, .int .i64 wid, .str wk, .str wt, .sl (T.rows wks), .str wtext]], 8, true, true, true, .cell⟩] ?_
    clear hK1 K1
    refine box_with hA [(3, .ptr 0 0 0), (4, .ptr 1 0 0), (5, .ptr 2 0 0), (8, .ptr 3 0 0), (9, .bool b), (10, .ptr 5 0 0), (11, .ptr 7 0 0), (12, .ptr 9 0 0), (13, .ptr 11 0 0), (14, .bool b), (16, .int .i64 kg), (18, .ptr 12 0 0), (19, .bool b), (133, .bool false)] ⟨rfl, rfl, rfl, rfl, rfl, rfl, rfl, rfl, rfl, rfl, rfl, rfl, rfl, rfl, trivial⟩ fun fr => ?_
    conv => whnf
    refine box_cutw hA 1 [(3, .ptr 0 0 0), (4, .ptr 1 0 0), (5, .ptr 2 0 0), (8, .ptr 3 0 0), (9, .bool b), (10, .ptr 5 0 0), (11, .ptr 7 0 0), (12, .ptr 9 0 0), (13, .ptr 11 0 0), (14, .bool b), (16, .int .i64 kg), (18, .ptr 12 0 0), (19, .bool b)] ⟨rfl, rfl, rfl, rfl, rfl, rfl, rfl, rfl, rfl, rfl, rfl, rfl, rfl, trivial⟩ fun K1 hK1 fr => ?_
    conv => whnf
    refine hK1 _ [⟨[[.int .i64 id, .str kind, .str text, .sl (T.rows kids)]], 4, true, true, true, .cell⟩, ⟨[[.int .i64 skind, .int .i64 sid, .int .i64 sat, .int .i64 nid, .str nk, .str nx, .sl (T.rows nks), .str stext]], 8, true, true, true, .cell⟩, ⟨[[.int .i64 ukind, .int .i64 uid, .int .i64 uat, .int .i64 mid, .str mk, .str mx, .sl (T.rows mks), .str utext]], 8, true, true, true, .cell⟩, ⟨[[.int .i64 wkind, .int .i64 wsid, .int .i64 wat, .int .i64 wid, .str wk, .str wt, .sl (T.rows wks), .str wtext]], 8, true, true, true, .cell⟩, poolO esx', ⟨[(LT.mk id kind text (some (xb, xc)) xks).cells], 4, true, true, true, .cell⟩, poolO ess', ⟨[stpC ⟨skind, sid, sat, .mk nid nk nx nks, stext⟩ (LT.mk nid nk nx (some (sb, sc)) sks)], 8, true, true, true, .cell⟩, poolO esu', ⟨[stpC ⟨ukind, uid, uat, .mk mid mk mx mks, utext⟩ (LT.mk mid mk mx (some (ub, uc)) uks)], 8, true, true, true, .cell⟩, poolO esg', ⟨[stpC ⟨wkind, wsid, wat, .mk wid wk wt wks, wtext⟩ (LT.mk gid gk gt (some (gb, gc)) gks)], 8, true, true, true, .cell⟩, ⟨[[.int .i64 wkind, .int .i64 wsid, .int .i64 wat, .int .i64 wid, .str wk, .str wt, .sl (T.rows wks), .str wtext]], 8, true, true, true, .cell⟩] ?_
    clear hK1 K1
    refine box_with hA [(3, .ptr 0 0 0), (4, .ptr 1 0 0), (5, .ptr 2 0 0), (8, .ptr 3 0 0), (9, .bool b), (10, .ptr 5 0 0), (11, .ptr 7 0 0), (12, .ptr 9 0 0), (13, .ptr 11 0 0), (14, .bool b), (16, .int .i64 kg), (17, .int .i64 1), (18, .ptr 12 0 0), (19, .bool b)] ⟨rfl, rfl, rfl, rfl, rfl, rfl, rfl, rfl, rfl, rfl, rfl, rfl, rfl, rfl, trivial⟩ fun fr => ?_
    conv => whnf
    refine box_cutw hA 4 [(3, .ptr 0 0 0), (4, .ptr 1 0 0), (5, .ptr 2 0 0), (8, .ptr 3 0 0), (9, .bool b), (10, .ptr 5 0 0), (11, .ptr 7 0 0), (12, .ptr 9 0 0), (13, .ptr 11 0 0), (14, .bool b), (16, .int .i64 kg), (17, .int .i64 1), (18, .ptr 12 0 0), (19, .bool b)] ⟨rfl, rfl, rfl, rfl, rfl, rfl, rfl, rfl, rfl, rfl, rfl, rfl, rfl, rfl, trivial⟩ fun K1 hK1 fr => ?_
    conv => whnf
    refine .inr (.inr ⟨esg', [_, .int .i64 1], fun e he => ⟨10, he⟩, viewL2 hvg' (.same _), hcw, hhg.mono ?_⟩)
    rintro r rfl
    refine ⟨rfl, ?_⟩
    conv => whnf
    refine hK1 _ [⟨[[.int .i64 id, .str kind, .str text, .sl (T.rows kids)]], 4, true, true, true, .cell⟩, ⟨[[.int .i64 skind, .int .i64 sid, .int .i64 sat, .int .i64 nid, .str nk, .str nx, .sl (T.rows nks), .str stext]], 8, true, true, true, .cell⟩, ⟨[[.int .i64 ukind, .int .i64 uid, .int .i64 uat, .int .i64 mid, .str mk, .str mx, .sl (T.rows mks), .str utext]], 8, true, true, true, .cell⟩, ⟨[[.int .i64 wkind, .int .i64 wsid, .int .i64 wat, .int .i64 wid, .str wk, .str wt, .sl (T.rows wks), .str wtext]], 8, true, true, true, .cell⟩, poolO esx', ⟨[(LT.mk id kind text (some (xb, xc)) xks).cells], 4, true, true, true, .cell⟩, poolO ess', ⟨[stpC ⟨skind, sid, sat, .mk nid nk nx nks, stext⟩ (LT.mk nid nk nx (some (sb, sc)) sks)], 8, true, true, true, .cell⟩, poolO esu', ⟨[stpC ⟨ukind, uid, uat, .mk mid mk mx mks, utext⟩ (LT.mk mid mk mx (some (ub, uc)) uks)], 8, true, true, true, .cell⟩, poolO esg', ⟨[stpC ⟨wkind, wsid, wat, .mk wid wk wt wks, wtext⟩ (LT.mk gid gk gt (some (gb, gc)) gks)], 8, true, true, true, .cell⟩, ⟨[[.int .i64 wkind, .int .i64 wsid, .int .i64 wat, .int .i64 wid, .str wk, .str wt, .sl (T.rows wks), .str wtext]], 8, true, true, true, .cell⟩] ?_
    clear hK1 K1
    refine box_with hA [(3, .ptr 0 0 0), (4, .ptr 1 0 0), (5, .ptr 2 0 0), (8, .ptr 3 0 0), (9, .bool b), (10, .ptr 5 0 0), (11, .ptr 7 0 0), (12, .ptr 9 0 0), (13, .ptr 11 0 0), (14, .bool b), (16, .int .i64 kg), (17, .int .i64 kg), (18, .ptr 12 0 0), (19, .bool b)] ⟨rfl, rfl, rfl, rfl, rfl, rfl, rfl, rfl, rfl, rfl, rfl, rfl, rfl, rfl, trivial⟩ fun fr => ?_
    conv => whnf
    refine box_cutw hA 2 [(3, .ptr 0 0 0), (4, .ptr 1 0 0), (5, .ptr 2 0 0), (8, .ptr 3 0 0), (9, .bool b), (10, .ptr 5 0 0), (11, .ptr 7 0 0), (12, .ptr 9 0 0), (13, .ptr 11 0 0), (14, .bool b), (16, .int .i64 kg), (17, .int .i64 kg), (18, .ptr 12 0 0), (19, .bool b)] ⟨rfl, rfl, rfl, rfl, rfl, rfl, rfl, rfl, rfl, rfl, rfl, rfl, rfl, rfl, trivial⟩ fun K1 hK1 fr => ?_
    conv => whnf
    refine hK1 _ [⟨[[.int .i64 id, .str kind, .str text, .sl (T.rows kids)]], 4, true, true, true, .cell⟩, ⟨[[.int .i64 skind, .int .i64 sid, .int .i64 sat, .int .i64 nid, .str nk, .str nx, .sl (T.rows nks), .str stext]], 8, true, true, true, .cell⟩, ⟨[[.int .i64 ukind, .int .i64 uid, .int .i64 uat, .int .i64 mid, .str mk, .str mx, .sl (T.rows mks), .str utext]], 8, true, true, true, .cell⟩, ⟨[[.int .i64 wkind, .int .i64 wsid, .int .i64 wat, .int .i64 wid, .str wk, .str wt, .sl (T.rows wks), .str wtext]], 8, true, true, true, .cell⟩, poolO esx', ⟨[(LT.mk id kind text (some (xb, xc)) xks).cells], 4, true, true, true, .cell⟩, poolO ess', ⟨[stpC ⟨skind, sid, sat, .mk nid nk nx nks, stext⟩ (LT.mk nid nk nx (some (sb, sc)) sks)], 8, true, true, true, .cell⟩, poolO esu', ⟨[stpC ⟨ukind, uid, uat, .mk mid mk mx mks, utext⟩ (LT.mk mid mk mx (some (ub, uc)) uks)], 8, true, true, true, .cell⟩, poolO esg', ⟨[stpC ⟨wkind, wsid, wat, .mk wid wk wt wks, wtext⟩ (LT.mk gid gk gt (some (gb, gc)) gks)], 8, true, true, true, .cell⟩, ⟨[[.int .i64 wkind, .int .i64 wsid, .int .i64 wat, .int .i64 wid, .str wk, .str wt, .sl (T.rows wks), .str wtext]], 8, true, true, true, .cell⟩] ?_
    clear hK1 K1
    refine box_with hA [(3, .ptr 0 0 0), (4, .ptr 1 0 0), (5, .ptr 2 0 0), (8, .ptr 3 0 0), (9, .bool b), (10, .ptr 5 0 0), (11, .ptr 7 0 0), (12, .ptr 9 0 0), (13, .ptr 11 0 0), (14, .bool b), (16, .int .i64 kg), (17, .int .i64 kg), (18, .ptr 12 0 0), (19, .bool b), (138, .bool (ltB kg 0))] ⟨rfl, rfl, rfl, rfl, rfl, rfl, rfl, rfl, rfl, rfl, rfl, rfl, rfl, rfl, rfl, trivial⟩ fun fr => ?_
    conv => whnf
    rw [ltB_f (by omega)]
    conv => whnf
    refine box_cutw hA 3 [(3, .ptr 0 0 0), (4, .ptr 1 0 0), (5, .ptr 2 0 0), (8, .ptr 3 0 0), (9, .bool b), (10, .ptr 5 0 0), (11, .ptr 7 0 0), (12, .ptr 9 0 0), (13, .ptr 11 0 0), (14, .bool b), (16, .int .i64 kg), (17, .int .i64 kg), (18, .ptr 12 0 0), (19, .bool b)] ⟨rfl, rfl, rfl, rfl, rfl, rfl, rfl, rfl, rfl, rfl, rfl, rfl, rfl, rfl, trivial⟩ fun K1 hK1 fr => ?_
    conv => whnf
    refine hK1 _ [⟨[[.int .i64 id, .str kind, .str text, .sl (T.rows kids)]], 4, true, true, true, .cell⟩, ⟨[[.int .i64 skind, .int .i64 sid, .int .i64 sat, .int .i64 nid, .str nk, .str nx, .sl (T.rows nks), .str stext]], 8, true, true, true, .cell⟩, ⟨[[.int .i64 ukind, .int .i64 uid, .int .i64 uat, .int .i64 mid, .str mk, .str mx, .sl (T.rows mks), .str utext]], 8, true, true, true, .cell⟩, ⟨[[.int .i64 wkind, .int .i64 wsid, .int .i64 wat, .int .i64 wid, .str wk, .str wt, .sl (T.rows wks), .str wtext]], 8, true, true, true, .cell⟩, poolO esx', ⟨[(LT.mk id kind text (some (xb, xc)) xks).cells], 4, true, true, true, .cell⟩, poolO ess', ⟨[stpC ⟨skind, sid, sat, .mk nid nk nx nks, stext⟩ (LT.mk nid nk nx (some (sb, sc)) sks)], 8, true, true, true, .cell⟩, poolO esu', ⟨[stpC ⟨ukind, uid, uat, .mk mid mk mx mks, utext⟩ (LT.mk mid mk mx (some (ub, uc)) uks)], 8, true, true, true, .cell⟩, poolO esg', ⟨[stpC ⟨wkind, wsid, wat, .mk wid wk wt wks, wtext⟩ (LT.mk gid gk gt (some (gb, gc)) gks)], 8, true, true, true, .cell⟩, ⟨[[.int .i64 wkind, .int .i64 wsid, .int .i64 wat, .int .i64 wid, .str wk, .str wt, .sl (T.rows wks), .str wtext]], 8, true, true, true, .cell⟩] ?_
    clear hK1 K1
    refine box_with hA [(3, .ptr 0 0 0), (4, .ptr 1 0 0), (5, .ptr 2 0 0), (8, .ptr 3 0 0), (9, .bool b), (10, .ptr 5 0 0), (11, .ptr 7 0 0), (12, .ptr 9 0 0), (13, .ptr 11 0 0), (14, .bool b), (16, .int .i64 kg), (17, .int .i64 kg), (18, .ptr 12 0 0), (19, .bool b), (141, .bool (negB (eqB kg kg)))] ⟨rfl, rfl, rfl, rfl, rfl, rfl, rfl, rfl, rfl, rfl, rfl, rfl, rfl, rfl, rfl, trivial⟩ fun fr => ?_
    conv => whnf
    rw [eqB_refl]
    conv => whnf
    refine box_go hA ?_
    conv => whnf
theorem lawFnExactStepOver (t : T) (ht : t.Ok) (s : Stp) (hs : s.Ok) (u : Stp) (hu : u.Ok) : Pure Try.prog 6 [.agg t.cells, .agg s.cells, .agg u.cells] (· = .bool true) := law_stepOverX t ht s hs u hu
theorem conFnExactStepOver (H : Type) (enc : TypeId × Value → H) (W : World) (base : Nat) (args : Array Value) (ds gs : List (DataW H)) (before : List MemPlace)
    (hval : ∀ (j : Nat) t v, Try.f6.params[j]? = some t → args[j]? = some v → Value.okWide Try.prog W .any base t v)
    (hW : DataW.Whole enc Try.prog Try.f6.params.toList Ytbmgokdfgkfmfaa.Rows.fnExactStepOverSpec.vars false W args.toList ds gs before) {fresh handsOn again : Bool} :
    Calls Try.prog 6 args W fun e W' => ∃ v, e = .returned v ∧ Ytbmgokdfgkfmfaa.Rows.fnExactStepOverSpec.post enc Try.prog Try.f6 false fresh handsOn again W args v W' := by
  refine law_calls kids full (tb := 4) rfl Try.underlying4 (by decide +kernel) rfl hW (fun ds h => by match ds, h with | [_, _, _], _ => exact ⟨rfl, rfl, rfl⟩) hval
    (Ss := [fun x => ∃ vs, x = .agg vs ∧ ∃ t : T, vs = t.cells ∧ t.Ok, fun x => ∃ vs, x = .agg vs ∧ ∃ s : Stp, vs = s.cells ∧ s.Ok, fun x => ∃ vs, x = .agg vs ∧ ∃ s : Stp, vs = s.cells ∧ s.Ok]) laid0 ?_ ?_
  · rw [Try.params6]
    exact ⟨argTree, argStep, argStep, trivial⟩
  · intro xs h
    obtain ⟨_, _, _, rfl, ⟨_, rfl, t0, rfl, h0⟩, ⟨_, rfl, t1, rfl, h1⟩, ⟨_, rfl, t2, rfl, h2⟩⟩ := hold3 h
    exact lawFnExactStepOver t0 h0 t1 h1 t2 h2

set_option maxRecDepth 100000 in
theorem overFnExactStepOver : Ytbmgokdfgkfmfaa.Rows.FnExactStepOverSaid :=
  OpenClaim.holds_of_wide 6 Try.f6 rfl rfl rfl rfl rfl rfl rfl ⟨rfl, rfl, rfl, rfl, rfl⟩ rfl rfl rfl rfl rfl (by kernel_rfl) Try.func6 (by kernel_rfl)
    (of_decide_eq_true (by kernel_rfl)) (by unfold Func.isWrapper; first | (rw [if_pos (by decide +kernel)]; kernel_rfl) | (rw [if_neg (by decide +kernel)]; exact ⟨rfl, rfl⟩))
    (fun os started H enc _ => returnsInHanded_of_change ownK started (by kernel_rfl) Try.func6
      (ChangeSpec.witness6 (enc := enc) (C := Try.checked) false ⟨#[], #[.agg #[.int .i64 0, .string "".toByteArray, .string "".toByteArray, .slice none 0 0], .agg #[.int .i64 0, .int .i64 0, .int .i64 0, .int .i64 0, .string "".toByteArray, .string "".toByteArray, .slice none 0 0, .string "".toByteArray], .agg #[.int .i64 0, .int .i64 0, .int .i64 0, .int .i64 0, .string "".toByteArray, .string "".toByteArray, .slice none 0 0, .string "".toByteArray]], []⟩ 8 (by kernel_rfl) (by kernel_rfl) (by kernel_rfl) (by kernel_rfl))
      (fun W base args ds gs before hval hW _ _ => conFnExactStepOver H enc W base args ds gs before hval hW))
end Go.Cod

