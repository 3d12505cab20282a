/- Own texts. -/
import Derived.WalkKit
import Derived.ProofKit
import Derived.Test.YtbmgokdfgkfmfaaCodF
namespace Go.Cod
open Go Go.Proofs Go.ChangeShapes Go.WideShapes Go.ChangeAt Go.RowKit
set_option maxRecDepth 10000

def DrawRM (r : V) : Prop := ∃ (t : T) (s u : Stp), t.Small ∧ t.size ≤ 600000 ∧ s.Dr ∧ u.Dr ∧ r = .tup [.agg t.cells, .agg s.cells, .agg u.cells]
def cb (w : Nat) (cs : List V) : O := ⟨[cs], w, true, true, true, .cell⟩
set_option maxHeartbeats 4000000 in
theorem drawStepsMeet_pure (bs : List UInt8) (hb : bs.length ≤ 1048576) : Pure Try.prog 7 [.sl (brows bs)] DrawRM := by
  have ho := l1Open_full bs hb
  refine pure_of_box good Try.func7 rfl (by kernel_rfl) (by decide) fun A hA => ?_
  conv => whnf
  refine box_go hA ?_
  conv => whnf
  refine box_go hA ?_
  conv => whnf
  refine .inr (.inl ⟨[], false, ?_⟩)
  conv => whnf
  refine ho.mono ?_
  rintro o st' ⟨rfl, bs', hb', rfl⟩
  conv => whnf
  refine box_with hA [(2, .ptr 0 0 0), (3, .ptr 1 0 0), (4, .ptr 2 0 0), (5, .ptr 3 0 0)] ⟨rfl, rfl, rfl, rfl, trivial⟩ fun fr => ?_
  conv => whnf
  refine ⟨[3], false, ?_⟩
  conv => whnf
  refine (l11Some_full bs' hb' 0 16 (by omega) (by omega)).mono ?_
  rintro o st' ⟨t, p, s1, s2, s3, s4, rfl, rfl⟩
  have hed := l11Edit_full bs' hb' p 100 (by omega) (by omega) (by omega) (by omega) t s1 s2
  have hed2 := fun q h1 h2 => l11Edit_full bs' hb' q 200 h1 h2 (by omega) (by omega) t s1 s2
  have hfd := l2Find_pure t s1
  have hkl : ∀ x s, fT t x = some s → s.kids.length ≤ 600000 := fun x s h => by
    have := fT_kids_len h; omega
  rcases t with ⟨ti, tk, tx, tks⟩
  conv => whnf
  refine box_go hA ?_
  conv => whnf
  refine box_go hA ?_
  conv => whnf
  refine box_with hA [(2, .ptr 0 0 0), (3, .ptr 1 0 0), (4, .ptr 2 0 0), (5, .ptr 3 0 0), (6, .ptr 4 0 0), (7, .ptr 5 0 0), (8, .ptr 6 0 0)] ⟨rfl, rfl, rfl, rfl, rfl, rfl, rfl, trivial⟩ fun fr => ?_
  conv => whnf
  refine ⟨[3, 5], false, ?_⟩
  conv => whnf
  refine hed.mono ?_
  rintro o st' ⟨⟨skind, sid, sat, snode, stext⟩, p', k', d1, d2, d3, d4, d5, rfl, rfl⟩
  rcases snode with ⟨ni, nk, nx, nks⟩
  conv => whnf
  refine box_with hA [(2, .ptr 0 0 0), (3, .ptr 1 0 0), (4, .ptr 2 0 0), (5, .ptr 3 0 0), (6, .ptr 4 0 0), (8, .ptr 6 0 0), (9, .ptr 7 0 0)] ⟨rfl, rfl, rfl, rfl, rfl, rfl, rfl, trivial⟩ fun fr => ?_
  conv => whnf
  refine ⟨[3, 6], false, ?_⟩
  conv => whnf
  refine (hed2 p' (by omega) (by omega)).mono ?_
  rintro o st' ⟨⟨ukind, uid, uat, unode, utext⟩, q, l', g1, g2, g3, g4, g5, rfl, rfl⟩
  have hspo := l11SpoilStep_full bs' hb' (q + 1) (by omega) (by omega) _ g1
  rcases unode with ⟨mi, mk, mx, mks⟩
  have hpk := pick_full bs' q 10 hb' (by omega) (by omega)
  have hpk2 := fun n => pick_full bs' (q + 1) n hb' (by omega) (by omega)
  have hfin : ∀ u : Stp, u.Dr → DrawRM (.tup [.agg (T.mk ti tk tx tks).cells, .agg (Stp.mk skind sid sat (.mk ni nk nx nks) stext).cells, .agg u.cells]) := fun u h => ⟨_, _, u, s1, s2, d1, h, rfl⟩
  conv => whnf
  refine box_cutw hA 2 [(2, .ptr 0 0 0), (3, .ptr 1 0 0), (4, .ptr 2 0 0), (5, .ptr 3 0 0), (6, .ptr 4 0 0), (9, .ptr 7 0 0), (10, .ptr 8 0 0)] ⟨rfl, rfl, rfl, rfl, rfl, rfl, rfl, trivial⟩ fun K1 hK1 fr => ?_
  conv => whnf
  refine ⟨[3], false, ?_⟩
  conv => whnf
  refine hpk.mono ?_
  rintro o st' ⟨c, c0, c1, rfl, rfl⟩
  conv => whnf
  refine hK1 _ [cb 4 [.int .i64 0, .str [], .str [], .nils], cb 8 [.int .i64 0, .int .i64 0, .int .i64 0, .int .i64 0, .str [], .str [], .nils, .str []], cb 8 [.int .i64 0, .int .i64 0, .int .i64 0, .int .i64 0, .str [], .str [], .nils, .str []], rdO bs' (q + 1), cb 4 [.int .i64 ti, .str tk, .str tx, .sl (T.rows tks)], nxO k', nxO l', cb 8 [.int .i64 skind, .int .i64 sid, .int .i64 sat, .int .i64 ni, .str nk, .str nx, .sl (T.rows nks), .str stext], cb 8 [.int .i64 ukind, .int .i64 uid, .int .i64 uat, .int .i64 mi, .str mk, .str mx, .sl (T.rows mks), .str utext]] ?_
  clear hK1 K1
  refine box_go hA ?_
  conv => whnf
  refine box_with hA [(2, .ptr 0 0 0), (3, .ptr 1 0 0), (4, .ptr 2 0 0), (5, .ptr 3 0 0), (6, .ptr 4 0 0), (9, .ptr 7 0 0), (10, .ptr 8 0 0), (24, .int .i64 c)] ⟨rfl, rfl, rfl, rfl, rfl, rfl, rfl, rfl, trivial⟩ fun fr => ?_
  conv => whnf
  by_cases hc : c = 0
  · rw [eqB_t hc]
    conv => whnf
    refine box_cutw hA 3 [(2, .ptr 0 0 0), (3, .ptr 1 0 0), (4, .ptr 2 0 0), (5, .ptr 3 0 0), (6, .ptr 4 0 0), (9, .ptr 7 0 0), (10, .ptr 8 0 0)] ⟨rfl, rfl, rfl, rfl, rfl, rfl, rfl, trivial⟩ fun K1 hK1 fr => ?_
    conv => whnf
    refine ⟨[3], false, ?_⟩
    conv => whnf
    refine hspo.mono ?_
    rintro o st' ⟨⟨ykind, yid, yat, ynode, ytext⟩, q', f1, f2, f3, rfl, rfl⟩
    rcases ynode with ⟨yi, yk, yx, yks⟩
    have hfin := hfin ⟨ykind, yid, yat, .mk yi yk yx yks, ytext⟩ f1
    conv => whnf
    refine hK1 _ [cb 4 [.int .i64 0, .str [], .str [], .nils], cb 8 [.int .i64 0, .int .i64 0, .int .i64 0, .int .i64 0, .str [], .str [], .nils, .str []], cb 8 [.int .i64 0, .int .i64 0, .int .i64 0, .int .i64 0, .str [], .str [], .nils, .str []], rdO bs' (q'), cb 4 [.int .i64 ti, .str tk, .str tx, .sl (T.rows tks)], nxO k', nxO l', cb 8 [.int .i64 skind, .int .i64 sid, .int .i64 sat, .int .i64 ni, .str nk, .str nx, .sl (T.rows nks), .str stext], cb 8 [.int .i64 ukind, .int .i64 uid, .int .i64 uat, .int .i64 mi, .str mk, .str mx, .sl (T.rows mks), .str utext]] ?_
    clear hK1 K1
    refine box_go hA ?_
    conv => whnf
    repeat (refine And.intro (by
              (conv => whnf)
              first
                | rfl
                | exact hfin) ?_
            conv => whnf)
    exact hfin
  rw [eqB_f hc]
  conv => whnf
  refine box_with hA [(2, .ptr 0 0 0), (3, .ptr 1 0 0), (4, .ptr 2 0 0), (5, .ptr 3 0 0), (6, .ptr 4 0 0), (9, .ptr 7 0 0), (10, .ptr 8 0 0), (24, .int .i64 c)] ⟨rfl, rfl, rfl, rfl, rfl, rfl, rfl, rfl, trivial⟩ fun fr => ?_
  conv => whnf
  by_cases hc1 : c = 1
  · rw [eqB_t hc1]
    have hfin := hfin _ d1
    conv => whnf
    refine box_go hA ?_
    conv => whnf
    repeat (refine And.intro (by
              (conv => whnf)
              first
                | rfl
                | exact hfin) ?_
            conv => whnf)
    exact hfin
  rw [eqB_f hc1]
  have hfind := hfd sid
  have hkl := fun s => hkl sid s
  generalize fT (T.mk ti tk tx tks) sid = fx at *
  have hfin0 := hfin _ g1
  conv => whnf
  refine box_with hA [(2, .ptr 0 0 0), (3, .ptr 1 0 0), (4, .ptr 2 0 0), (5, .ptr 3 0 0), (6, .ptr 4 0 0), (9, .ptr 7 0 0), (10, .ptr 8 0 0), (24, .int .i64 c)] ⟨rfl, rfl, rfl, rfl, rfl, rfl, rfl, rfl, trivial⟩ fun fr => ?_
  conv => whnf
  by_cases hc2 : c = 2
  rw [eqB_t hc2]
  rotate_left
  rw [eqB_f hc2]
  conv => whnf
  refine box_with hA [(2, .ptr 0 0 0), (3, .ptr 1 0 0), (4, .ptr 2 0 0), (5, .ptr 3 0 0), (6, .ptr 4 0 0), (9, .ptr 7 0 0), (10, .ptr 8 0 0), (24, .int .i64 c)] ⟨rfl, rfl, rfl, rfl, rfl, rfl, rfl, rfl, trivial⟩ fun fr => ?_
  conv => whnf
  by_cases hc3 : c = 3
  rw [eqB_t hc3]
  rotate_left
  · rw [eqB_f hc3]
    have hfin := hfin0
    conv => whnf
    repeat (refine And.intro (by
              (conv => whnf)
              first
                | rfl
                | exact hfin) ?_
            conv => whnf)
    exact hfin
  all_goals
    conv => whnf
    refine box_with hA [(2, .ptr 0 0 0), (3, .ptr 1 0 0), (4, .ptr 2 0 0), (5, .ptr 3 0 0), (6, .ptr 4 0 0), (9, .ptr 7 0 0), (10, .ptr 8 0 0)] ⟨rfl, rfl, rfl, rfl, rfl, rfl, rfl, trivial⟩ fun fr => ?_
    conv => whnf
    refine .inl (hfind.mono ?_)
    rintro r rfl
    rcases fx with _ | ⟨xi, xk, xx, xks⟩
    · have hfin := hfin0
      conv => whnf
      refine box_with hA [(2, .ptr 0 0 0), (3, .ptr 1 0 0), (4, .ptr 2 0 0), (5, .ptr 3 0 0), (6, .ptr 4 0 0), (9, .ptr 7 0 0), (10, .ptr 8 0 0), (11, .ptr 9 0 0), (12, .bool false)] ⟨rfl, rfl, rfl, rfl, rfl, rfl, rfl, rfl, rfl, trivial⟩ fun fr => ?_
      conv => whnf
      repeat (refine And.intro (by
                (conv => whnf)
                first
                  | rfl
                  | exact hfin) ?_
              conv => whnf)
      exact hfin
    · have hxl := hkl _ rfl
      conv => whnf
      refine box_with hA [(2, .ptr 0 0 0), (3, .ptr 1 0 0), (4, .ptr 2 0 0), (5, .ptr 3 0 0), (6, .ptr 4 0 0), (9, .ptr 7 0 0), (10, .ptr 8 0 0), (11, .ptr 9 0 0), (12, .bool true)] ⟨rfl, rfl, rfl, rfl, rfl, rfl, rfl, rfl, rfl, trivial⟩ fun fr => ?_
      conv => whnf
      by_cases hk : skind = 1
      · rw [eqB_t hk]
        conv => whnf
        refine ⟨[3], false, ?_⟩
        conv => whnf
        refine (hpk2 _).mono ?_
        rintro o st' ⟨m, m0, m1, rfl, rfl⟩
        have hfin := hfin ⟨1, sid, m, .mk 300 [112, 97, 114] [] [], []⟩ ⟨.mk (by decide) (by decide) (by decide) (by decide) (fun m hm => (by cases hm)), by simp [T.size, T.sizeL], by simp⟩
        conv => whnf
        repeat (refine And.intro (by
                  (conv => whnf)
                  first
                    | rfl
                    | exact hfin) ?_
                conv => whnf)
        exact hfin
      · rw [eqB_f hk]
        have hfin := hfin0
        conv => whnf
        repeat (refine And.intro (by
                  (conv => whnf)
                  first
                    | rfl
                    | exact hfin) ?_
                conv => whnf)
        exact hfin
end Go.Cod

namespace Go.Cod
open Go Go.Proofs Go.ChangeShapes Go.WideShapes Go.ChangeAt Go.RowKit
set_option maxRecDepth 10000

theorem ownK : ownKnob Try.prog.godebug = none := by kernel_rfl
def byteOf : List V → UInt8
  | [.int _ i] => UInt8.ofNat i.toNat
  | _ => 0
theorem argBytes {H : Type} {enc : TypeId × Value → H} {W : World} : ReadsA enc Try.prog W 22 fun x => ∃ bs : List UInt8, x = .sl (brows bs) := by
  intro base v d p hv h
  obtain ⟨x, ⟨es, hx, _, hr⟩, hrep⟩ := readsA_slice (S := fun vs => ∃ es, vs = [.sl es] ∧ es.length ≤ maxLen ∧ ∀ r ∈ es, (∃ i, r = [.int .u8 i] ∧ IntKind.u8.min ≤ i ∧ i ≤ IntKind.u8.max) ∧ r.length = Try.prog.cellsOf 5 ∧ (∀ v ∈ r, v.leaf = true) ∧ V.clean.cleanL 0 r = true)
    Try.underlying22 (fun n => reads_slice Try.underlying22 (by decide +kernel) fun m _ => reads_int Try.underlying5) base v d p hv h
  cases hx
  refine ⟨_, ⟨es.map byteOf, ?_⟩, hrep⟩
  congr 1
  rw [brows, List.map_map]
  refine (List.map_id es).symm.trans (List.map_congr_left fun r hr' => ?_)
  obtain ⟨⟨i, rfl, h1, h2⟩, _⟩ := hr r hr'
  have h1 : 0 ≤ i := h1
  have h2 : i ≤ 255 := h2
  simp only [id_eq, Function.comp, byteOf, cellB]
  congr 2
  simp only [UInt8.toNat_ofNat']
  omega
end Go.Cod

namespace Go.Cod
open Go Go.Proofs Go.ChangeShapes Go.WideShapes Go.ChangeAt Go.RowKit
set_option maxRecDepth 10000

theorem sameS_comm (s u : Stp) : sameS u s = sameS s u := by
  unfold sameS
  by_cases h : s.kind = u.kind
  · rw [if_pos h, if_pos h.symm]
    by_cases k : s.kind = 1
    · rw [if_pos k, if_pos (h ▸ k)]
      have e : decide (∃ x ∈ u.node.ids, x ∈ s.node.ids) = decide (∃ x ∈ s.node.ids, x ∈ u.node.ids) := decide_eq_decide.2 ⟨fun ⟨a, b, c⟩ => ⟨a, c, b⟩, fun ⟨a, b, c⟩ => ⟨a, c, b⟩⟩
      rw [e, decide_eq_decide.2 (eq_comm (a := u.id) (b := s.id)), decide_eq_decide.2 (eq_comm (a := u.at_) (b := s.at_))]
    · rw [if_neg k, if_neg (fun h' => k (h.trans h')), decide_eq_decide.2 (eq_comm (a := u.id) (b := s.id))]
  · rw [if_neg h, if_neg (Ne.symm h)]
theorem stepsMeetT_comm (t : T) (s u : Stp) : stepsMeetT t u s = stepsMeetT t s u := by
  unfold stepsMeetT meetT
  rw [sameS_comm s u]
  cases okT t <;> cases (doT t s).isSome <;> cases (doT t u).isSome <;> simp [Bool.or_comm]
theorem stepsMeetT_same (t : T) (s : Stp) : stepsMeetT t s s = true := by
  have : sameS s s = true := by
    unfold sameS
    by_cases k : s.kind = 1 <;> simp [k]
  unfold stepsMeetT meetT
  rw [this]
  cases okT t <;> cases (doT t s).isSome <;> simp
set_option maxHeartbeats 16000000 in
theorem law_fnStepsMeet (bs : List UInt8) : Pure Try.prog 3 [.sl (brows bs)] (· = .bool true) := by
  have hl := brows_len bs
  have hd := drawStepsMeet_pure bs
  refine pure_of_awp good Try.func3 rfl (by kernel_rfl) (by decide) ?_
  generalize brows bs = R at *
  conv => whnf
  by_cases a : 1048576 < R.length
  · rw [ltB_t (by omega)]
    conv => whnf
  rw [ltB_f (by omega)]
  conv => whnf
  refine .inl ((hd (by omega)).mono ?_)
  rintro r ⟨t, s, u, s1, s2, ⟨d1, d2, d3⟩, ⟨g1, g2, g3⟩, rfl⟩
  have hid := T.ids_size t
  have i1 := implStepsMeet_pure t s1 s u d1 g1 (by omega) (by omega)
  have i2 := specStepsMeet_pure t s1 (by omega) s u d1 g1 (by omega) (by omega) (by omega) (by omega)
  have i3 := implStepsMeet_pure t s1 u s g1 d1 (by omega) (by omega)
  have i4 := implStepsMeet_pure t s1 s s d1 d1 (by omega) (by omega)
  rw [stepsMeetT_comm] at i3
  rw [stepsMeetT_same] at i4
  generalize stepsMeetT t s u = m at *
  obtain ⟨skind, sid, sat, snode, stext⟩ := s
  obtain ⟨ukind, uid, uat, unode, utext⟩ := u
  rcases snode with ⟨ni, nk, nx, nks⟩
  rcases unode with ⟨mi, mk, mx, mks⟩
  rcases t with ⟨ti, tk, tx, tks⟩
  clear s2 d2 d3 g2 g3 hid
  conv => whnf
  refine .inl (i1.mono ?_)
  rintro r rfl
  conv => whnf
  refine .inl (i2.mono ?_)
  rintro r rfl
  cases m
  all_goals
    conv => whnf
    refine .inl (i3.mono ?_)
    rintro r rfl
    conv => whnf
    refine .inl (i4.mono ?_)
    rintro r rfl
    conv => whnf
theorem lawFnStepsMeet (bs : List UInt8) : Pure Try.prog 3 [.sl (brows bs)] (· = .bool true) := law_fnStepsMeet bs
theorem conFnStepsMeet (H : Type) (enc : TypeId × Value → H) (W : World) (base : Nat) (args : Array Value) (ds gs : List (DataW H)) (before : List MemPlace)
    (hval : ∀ (j : Nat) t v, Try.f3.params[j]? = some t → args[j]? = some v → Value.okWide Try.prog W .any base t v)
    (hW : DataW.Whole enc Try.prog Try.f3.params.toList Ytbmgokdfgkfmfaa.Rows.fnStepsMeetSpec.vars false W args.toList ds gs before) {fresh handsOn again : Bool} :
    Calls Try.prog 3 args W fun e W' => ∃ v, e = .returned v ∧ Ytbmgokdfgkfmfaa.Rows.fnStepsMeetSpec.post enc Try.prog Try.f3 false fresh handsOn again W args v W' := by
  refine law_calls kids full (tb := 4) rfl Try.underlying4 (by decide +kernel) rfl hW (fun ds h => by match ds, h with | [_], _ => exact ⟨rfl, rfl, rfl⟩) hval
    (Ss := [fun x => ∃ bs : List UInt8, x = .sl (brows bs)]) laid0 ?_ ?_
  · rw [Try.params3]
    exact ⟨argBytes, trivial⟩
  · intro xs h
    obtain ⟨_, rfl, ⟨t0, rfl⟩⟩ := hold1 h
    exact lawFnStepsMeet t0

set_option maxRecDepth 100000 in
theorem overFnStepsMeet : Ytbmgokdfgkfmfaa.Rows.FnStepsMeetSaid :=
  OpenClaim.holds_of_wide 3 Try.f3 rfl rfl rfl rfl rfl rfl rfl ⟨rfl, rfl, rfl, rfl, rfl⟩ rfl rfl rfl rfl rfl (by kernel_rfl) Try.func3 (by kernel_rfl)
    (of_decide_eq_true (by kernel_rfl)) (by unfold Func.isWrapper; first | (rw [if_pos (by decide +kernel)]; kernel_rfl) | (rw [if_neg (by decide +kernel)]; exact ⟨rfl, rfl⟩))
    (fun os started H enc _ => returnsInHanded_of_change ownK started (by kernel_rfl) Try.func3
      (ChangeSpec.witness6 (enc := enc) (C := Try.checked) false ⟨#[], #[.slice none 0 0], []⟩ 8 (by kernel_rfl) (by kernel_rfl) (by kernel_rfl) (by kernel_rfl))
      (fun W base args ds gs before hval hW _ _ => conFnStepsMeet H enc W base args ds gs before hval hW))
end Go.Cod

