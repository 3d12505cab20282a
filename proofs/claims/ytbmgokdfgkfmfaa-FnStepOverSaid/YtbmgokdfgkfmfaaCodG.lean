/- Own texts. -/
import Derived.WalkKit
import Derived.ProofKit
import Derived.Test.YtbmgokdfgkfmfaaCodF
namespace Go.Cod
open Go Go.Proofs
set_option maxRecDepth 10000

/- slices.Contains of ints. -/
theorem indexI_pure (ns : List Int) (x : Int) (hl : ns.length ≤ 1048577) : Pure Try.prog 97 [.sl (irows ns), .int .i64 x] (fun r => ∃ k : Int, r = .int .i64 k ∧ (0 ≤ k ↔ x ∈ ns)) := by
  have hlr := irows_len ns
  have hgr := irows_get ns
  generalize irows ns = rows at *
  refine pure_of_awp good Try.func97 rfl (by kernel_rfl) (by decide) ?_
  conv => whnf
  refine loop_intro (fun n fr st => st = [] ∧ ∃ i : Nat, n + i = ns.length ∧ x ∉ ns.take i ∧ Holds fr [(0, .sl rows), (1, .int .i64 x), (7, .int .i64 ns.length), (8, .int .i64 i)]) ns.length ⟨rfl, 0, rfl, by simp, rfl, rfl, by rw [← hlr]; rfl, rfl, trivial⟩ ?_
  rintro n fr st ⟨rfl, i, hi, hx, hh⟩
  obtain ⟨fr, rfl⟩ := hh.split
  clear hh
  conv => whnf
  by_cases hlt : i < ns.length
  · rw [ltB_t (by omega)]
    conv => whnf
    have hg := hgr i hlt
    have hmem : ns[i] ∈ ns := List.getElem_mem _
    have htk : ns.take (i + 1) = ns.take i ++ [ns[i]] := List.take_succ_eq_append_getElem hlt
    generalize ns[i] = y at *
    refine ⟨by omega, rows, _, 1, rfl, hg, rfl, rfl, ?_⟩
    conv => whnf
    by_cases hxy : x = y
    · rw [eqB_t hxy]
      conv => whnf
      exact ⟨i, rfl, ⟨fun _ => hxy ▸ hmem, fun _ => by omega⟩⟩
    · rw [eqB_f hxy]
      conv => whnf
      refine ⟨n - 1, by omega, rfl, i + 1, by omega, ?_, rfl, rfl, rfl, ?_, trivial⟩
      · rw [htk]
        intro h
        rcases List.mem_append.1 h with h | h
        · exact hx h
        · exact hxy (List.mem_singleton.1 h)
      · show V.int .i64 (IntKind.i64.wrap (i + 1)) = _
        rw [wrap64 (by omega) (by omega)]; simp
  · rw [ltB_f (by omega)]
    conv => whnf
    rw [List.take_of_length_le (by omega)] at hx
    exact ⟨-1, rfl, ⟨fun h => absurd h (by omega), fun h => absurd h hx⟩⟩
theorem containsI_pure (ns : List Int) (x : Int) (hl : ns.length ≤ 1048577) : Pure Try.prog 84 [.sl (irows ns), .int .i64 x] (· = .bool (decide (x ∈ ns))) := by
  have f1 := indexI_pure ns x hl
  generalize irows ns = rows at *
  refine pure_of_awp good Try.func84 rfl (by kernel_rfl) (by decide) ?_
  conv => whnf
  refine .inl (f1.mono ?_)
  rintro r ⟨k, rfl, hk⟩
  conv => whnf
  congr 1
  rw [leB_def]
  by_cases h : x ∈ ns
  · rw [decide_eq_true (hk.2 h), decide_eq_true h]
  · rw [decide_eq_false h, decide_eq_false (fun q => h (hk.1 q))]

/- .. and the numbers that one of two lists has in the other. -/
def takO (ns : List Int) : O := ⟨[[.sl (irows ns)]], 1, true, true, true, .cell⟩
theorem clash1_full (ns : List Int) (x : Int) (hl : ns.length ≤ 1048577) : Full Try.prog noY 83 [.int .i64 x, .ptr 0 0 0] [takO ns] fun o st' => o = .ret (.bool (decide (x ∈ ns))) ∧ st' = [takO ns] := by
  have f1 := containsI_pure ns x hl
  unfold takO
  generalize irows ns = rows at *
  refine full_of_awp good Try.func83 rfl (by kernel_rfl) (by decide) ?_
  conv => whnf
  refine .inl (f1.mono ?_)
  rintro r rfl
  conv => whnf
  refine ⟨[], false, ?_⟩
  conv => whnf
  exact ⟨rfl, rfl⟩
theorem indexC_full (ms ns : List Int) (hl : ms.length ≤ 1048577) (hn : ns.length ≤ 1048577) : Full Try.prog noY 96 [.sl (irows ms), .fn 83 [.ptr 0 0 0]] [takO ns]
    fun o st' => (∃ k : Int, o = .ret (.int .i64 k) ∧ (0 ≤ k ↔ ∃ x ∈ ms, x ∈ ns)) ∧ st' = [takO ns] := by
  have hlr := irows_len ms
  have hgr := irows_get ms
  have hc := fun x => clash1_full ns x hn
  unfold takO at *
  generalize irows ns = rn at *
  generalize irows ms = rows at *
  refine full_of_awp good Try.func96 rfl (by kernel_rfl) (by decide) ?_
  conv => whnf
  refine loop_drop (fun n fr st => ∃ (i : Nat), n + i = ms.length ∧ st = [⟨[[.sl rn]], 1, true, true, true, .cell⟩] ∧ (¬ ∃ x ∈ ms.take i, x ∈ ns) ∧ Holds fr [(0, .sl rows), (1, .fn 83 [.ptr 0 0 0]), (7, .int .i64 ms.length), (8, .int .i64 i)]) ms.length none
    ⟨0, rfl, rfl, by simp, rfl, rfl, by rw [← hlr]; rfl, rfl, trivial⟩ ?_
  rintro n fr st ⟨i, hi, rfl, hx, hh⟩
  obtain ⟨fr, rfl⟩ := hh.split
  clear hh
  conv => whnf
  by_cases hlt : i < ms.length
  · rw [ltB_t (by omega)]
    conv => whnf
    have hg := hgr i hlt
    have hmem : ms[i] ∈ ms := List.getElem_mem _
    have htk : ms.take (i + 1) = ms.take i ++ [ms[i]] := List.take_succ_eq_append_getElem hlt
    generalize ms[i] = y at *
    have hc := hc y
    have w1 : IntKind.i64.wrap ((i : Int) + 1) = ((i + 1 : Nat) : Int) := by rw [wrap64 (by omega) (by omega)]; simp
    refine ⟨by omega, rows, _, 1, rfl, hg, rfl, rfl, ?_⟩
    conv => whnf
    refine ⟨[0], false, ?_⟩
    conv => whnf
    refine hc.mono ?_
    rintro o st' ⟨rfl, rfl⟩
    by_cases hid : y ∈ ns
    · rw [decide_eq_true hid]
      conv => whnf
      refine ⟨[], false, ?_⟩
      conv => whnf
      exact ⟨⟨i, rfl, ⟨fun _ => ⟨y, hmem, hid⟩, fun _ => by omega⟩⟩, rfl⟩
    · rw [decide_eq_false hid]
      conv => whnf
      refine ⟨n - 1, by omega, none, i + 1, by omega, rfl, ?_, ⟨rfl, rfl, rfl, ?_, trivial⟩⟩
      · rw [htk]
        rintro ⟨z, h1, h2⟩
        rcases List.mem_append.1 h1 with h | h
        · exact hx ⟨z, h, h2⟩
        · rw [List.mem_singleton.1 h] at h2; exact hid h2
      · show V.int .i64 (IntKind.i64.wrap (i + 1)) = _
        rw [w1]
  · rw [ltB_f (by omega)]
    conv => whnf
    refine ⟨[], false, ?_⟩
    conv => whnf
    rw [List.take_of_length_le (by omega)] at hx
    exact ⟨⟨-1, rfl, ⟨fun h => absurd h (by omega), fun h => absurd h hx⟩⟩, rfl⟩
theorem containsC_full (ms ns : List Int) (hl : ms.length ≤ 1048577) (hn : ns.length ≤ 1048577) : Full Try.prog noY 82 [.sl (irows ms), .fn 83 [.ptr 0 0 0]] [takO ns]
    fun o st' => o = .ret (.bool (decide (∃ x ∈ ms, x ∈ ns))) ∧ st' = [takO ns] := by
  have hc := indexC_full ms ns hl hn
  unfold takO at *
  generalize irows ns = rn at *
  generalize irows ms = rows at *
  refine full_of_awp good Try.func82 rfl (by kernel_rfl) (by decide) ?_
  conv => whnf
  refine ⟨[0], false, ?_⟩
  conv => whnf
  refine hc.mono ?_
  rintro o st' ⟨⟨k, rfl, hk⟩, rfl⟩
  conv => whnf
  refine ⟨[], false, ?_⟩
  conv => whnf
  refine ⟨?_, rfl⟩
  rw [leB_def]
  by_cases h : ∃ x ∈ ms, x ∈ ns
  · rw [decide_eq_true (hk.2 h), decide_eq_true h]
  · rw [decide_eq_false h, decide_eq_false (fun q => h (hk.1 q))]
end Go.Cod

namespace Go.Cod
open Go Go.Proofs
set_option maxRecDepth 10000

/-- Whether something is, or is in, what has a number. -/
def underT (t : T) (id over : Int) : Bool := match fT t over with
  | none => false
  | some x => decide (id ∈ x.ids)
def oneT (t : T) (s u : Stp) : Bool := decide (s.kind = 2) && underT t u.id s.id
def sameS (s u : Stp) : Bool := if s.kind = u.kind then (if s.kind = 1 then (decide (s.id = u.id) && decide (s.at_ = u.at_)) || decide (∃ x ∈ s.node.ids, x ∈ u.node.ids) else decide (s.id = u.id)) else false
def meetT (t : T) (s u : Stp) : Bool := oneT t s u || oneT t u s || sameS s u
def pairC (t : T) (s u : Stp) : List V := t.cells ++ s.cells ++ u.cells

theorem firstCuts_pure (t : T) (hs : t.Small) (s u : Stp) (x : T) (hx : findT t s.id = some x) (hz : x.ids.length ≤ 1048577) :
    Pure Try.prog 57 [.agg (pairC t s u)] (· = .bool (decide (u.id ∈ x.ids))) := by
  have f1 := implTreeFind_pure t hs s.id
  rw [hx] at f1
  have f2 := implTreeIds_pure x (findT_small hs hx)
  rw [(findT_spec hx).2.2.2.2.1] at f2
  have f3 := containsI_pure x.ids u.id hz
  generalize irows x.ids = rows at *
  generalize decide (u.id ∈ x.ids) = b at *
  clear hx hz hs
  obtain ⟨skind, sid, sat, ⟨nid, nk, nx, nks⟩, stext⟩ := s
  obtain ⟨ukind, uid, uat, ⟨mid, mk, mx, mks⟩, utext⟩ := u
  cases t with
  | mk id kind text kids =>
  cases x with
  | mk xid xk xx xks =>
  refine pure_of_awp good Try.func57 rfl (by kernel_rfl) (by decide) ?_
  conv => whnf
  refine .inl (f1.mono ?_)
  rintro r rfl
  conv => whnf
  refine ⟨_, .inl f2, ?_⟩
  conv => whnf
  refine ⟨_, .inl f3, ?_⟩
  conv => whnf
theorem atOne_pure (t : T) (s u : Stp) : Pure Try.prog 59 [.agg (pairC t s u)] (· = .bool (decide (s.id = u.id))) := by
  obtain ⟨skind, sid, sat, ⟨nid, nk, nx, nks⟩, stext⟩ := s
  obtain ⟨ukind, uid, uat, ⟨mid, mk, mx, mks⟩, utext⟩ := u
  cases t with
  | mk id kind text kids =>
  refine pure_of_awp good Try.func59 rfl (by kernel_rfl) (by decide) ?_
  conv => whnf
  rw [eqB_def]
theorem secondCuts_pure (t : T) (hs : t.Small) (s u : Stp) (x : T) (hx : findT t u.id = some x) (hz : x.ids.length ≤ 1048577) :
    Pure Try.prog 56 [.agg (pairC t s u)] (· = .bool (decide (s.id ∈ x.ids))) := by
  have f1 := firstCuts_pure t hs u s x hx hz
  generalize decide (s.id ∈ x.ids) = b at *
  clear hx hz hs
  obtain ⟨skind, sid, sat, ⟨nid, nk, nx, nks⟩, stext⟩ := s
  obtain ⟨ukind, uid, uat, ⟨mid, mk, mx, mks⟩, utext⟩ := u
  cases t with
  | mk id kind text kids =>
  refine pure_of_awp good Try.func56 rfl (by kernel_rfl) (by decide) ?_
  conv => whnf
  refine .inl (f1.mono ?_)
  rintro r rfl
  conv => whnf
theorem oneCuts_pure (t : T) (hs : t.Small) (s u : Stp) (x y : T) (hx : findT t s.id = some x) (hy : findT t u.id = some y) (hz : x.ids.length ≤ 1048577) (hw : y.ids.length ≤ 1048577) :
    Pure Try.prog 58 [.agg (pairC t s u)] (· = .bool (decide (u.id ∈ x.ids) || decide (s.id ∈ y.ids))) := by
  have f1 := firstCuts_pure t hs s u x hx hz
  have f2 := secondCuts_pure t hs s u y hy hw
  generalize decide (s.id ∈ y.ids) = b at *
  generalize decide (u.id ∈ x.ids) = a at *
  clear hx hz hs hy hw
  obtain ⟨skind, sid, sat, ⟨nid, nk, nx, nks⟩, stext⟩ := s
  obtain ⟨ukind, uid, uat, ⟨mid, mk, mx, mks⟩, utext⟩ := u
  cases t with
  | mk id kind text kids =>
  refine pure_of_awp good Try.func58 rfl (by kernel_rfl) (by decide) ?_
  conv => whnf
  refine .inl (f1.mono ?_)
  rintro r rfl
  conv => whnf
  cases a with
  | true => conv => whnf
            rfl
  | false =>
    conv => whnf
    refine .inl (f2.mono ?_)
    rintro r rfl
    conv => whnf
    rfl
theorem clash_pure (t : T) (s u : Stp) (hs : s.node.Small) (hu : u.node.Small) (h1 : idsOf s.node = s.node.ids) (h2 : idsOf u.node = u.node.ids) (hz : s.node.ids.length ≤ 1048577) (hw : u.node.ids.length ≤ 1048577) :
    Pure Try.prog 55 [.agg (pairC t s u)] (· = .bool ((decide (s.id = u.id) && decide (s.at_ = u.at_)) || decide (∃ x ∈ u.node.ids, x ∈ s.node.ids))) := by
  have f0 := atOne_pure t s u
  have f1 := implTreeIds_pure s.node hs
  have f2 := implTreeIds_pure u.node hu
  have f3 := containsC_full u.node.ids s.node.ids hw hz
  rw [h1] at f1
  rw [h2] at f2
  unfold takO at f3
  generalize decide (∃ x ∈ u.node.ids, x ∈ s.node.ids) = c at *
  generalize irows u.node.ids = ru at *
  generalize irows s.node.ids = rs at *
  clear h1 h2 hz hw hs hu
  obtain ⟨skind, sid, sat, ⟨nid, nk, nx, nks⟩, stext⟩ := s
  obtain ⟨ukind, uid, uat, ⟨mid, mk, mx, mks⟩, utext⟩ := u
  cases t with
  | mk id kind text kids =>
  simp only at f0 f1 f2 f3 ⊢
  generalize hb : decide (sid = uid) = b at *
  refine pure_of_awp good Try.func55 rfl (by kernel_rfl) (by decide) ?_
  conv => whnf
  refine .inl (f1.mono ?_)
  rintro r rfl
  conv => whnf
  refine .inl (f0.mono ?_)
  rintro r rfl
  conv => whnf
  cases b with
  | true =>
    conv => whnf
    by_cases ha : sat = uat
    · rw [eqB_t ha]
      conv => whnf
      rw [decide_eq_true ha]
      rfl
    · rw [eqB_f ha, decide_eq_false ha]
      conv => whnf
      refine .inl (f2.mono ?_)
      rintro r rfl
      conv => whnf
      refine ⟨[1], false, ?_⟩
      conv => whnf
      refine f3.mono ?_
      rintro o st' ⟨rfl, rfl⟩
      conv => whnf
      rfl
  | false =>
    conv => whnf
    refine .inl (f2.mono ?_)
    rintro r rfl
    conv => whnf
    refine ⟨[1], false, ?_⟩
    conv => whnf
    refine f3.mono ?_
    rintro o st' ⟨rfl, rfl⟩
    conv => whnf
    rfl
end Go.Cod

namespace Go.Cod
open Go Go.Proofs
set_option maxRecDepth 10000

theorem doT_kind {t : T} {s : Stp} {y : T} (h : doT t s = some y) : (s.kind = 1 ∨ s.kind = 2 ∨ s.kind = 3 ∨ s.kind = 4) ∧ (∃ x, fT t s.id = some x) ∧ (s.kind = 1 → okT s.node = true) := by
  unfold doT editT at h
  cases hx : fT t s.id with
  | none => rw [hx] at h; simp at h
  | some x =>
    rw [hx] at h
    simp only at h
    refine ⟨?_, ⟨x, rfl⟩, fun hk => ?_⟩
    · by_cases k1 : s.kind = 1
      · exact .inl k1
      by_cases k2 : s.kind = 2
      · exact .inr (.inl k2)
      by_cases k3 : s.kind = 3
      · exact .inr (.inr (.inl k3))
      by_cases k4 : s.kind = 4
      · exact .inr (.inr (.inr k4))
      simp [k1, k2, k3, k4] at h
    · by_cases ho : okT s.node = true
      · exact ho
      · simp [hk, ho] at h
theorem fT_len {t : T} (h : okT t = true) {x : Int} {s : T} (hs : findT t x = some s) : s.ids.length ≤ 1048577 := by
  have := ((okT_iff' s).1 (findT_spec hs).2.2.2.1).2.2
  omega
theorem meet_found (t : T) (hsm : t.Small) (hok : okT t = true) (s u : Stp) (hs : s.node.Small) (hu : u.node.Small) {w1 w2 : T} (h1 : doT t s = some w1) (h2 : doT t u = some w2) :
    (∃ g, meetMap s.kind u.kind = some (.fn g []) ∧ Pure Try.prog g [.agg (pairC t s u)] (· = .bool (meetT t s u))) ∨ (meetMap s.kind u.kind = none ∧ meetT t s u = false) := by
  obtain ⟨ks, ⟨x, hx⟩, os⟩ := doT_kind h1
  obtain ⟨ku, ⟨y, hy⟩, ou⟩ := doT_kind h2
  have fx : findT t s.id = some x := by unfold findT; rw [if_pos hok, hx]
  have fy : findT t u.id = some y := by unfold findT; rw [if_pos hok, hy]
  have f1 := firstCuts_pure t hsm s u x fx (fT_len hok fx)
  have f2 := secondCuts_pure t hsm s u y fy (fT_len hok fy)
  have f3 := oneCuts_pure t hsm s u x y fx fy (fT_len hok fx) (fT_len hok fy)
  have f4 := atOne_pure t s u
  have f5 := fun h1 h2 h3 h4 => clash_pure t s u hs hu h1 h2 h3 h4
  have hxid := (findT_spec fx).2.2.1
  have e1 : underT t u.id s.id = decide (u.id ∈ x.ids) := by unfold underT; rw [hx]
  have e2 : underT t s.id u.id = decide (s.id ∈ y.ids) := by unfold underT; rw [hy]
  have hm : s.id = u.id → u.id ∈ x.ids := fun h => by rw [← h, ← hxid]; exact T.id_mem x
  unfold meetT oneT sameS
  rw [e1, e2]
  rcases ks with k | k | k | k <;> rcases ku with k' | k' | k' | k' <;> rw [k, k']
  case inl.inl =>
    refine .inl ⟨_, rfl, ?_⟩
    have i1 : idsOf s.node = s.node.ids := by unfold idsOf; rw [if_pos (os k)]
    have i2 : idsOf u.node = u.node.ids := by unfold idsOf; rw [if_pos (ou k')]
    have l1 := ((okT_iff' s.node).1 (os k)).2.2
    have l2 := ((okT_iff' u.node).1 (ou k')).2.2
    refine (f5 i1 i2 (by omega) (by omega)).mono ?_
    rintro r rfl
    have : (∃ x ∈ u.node.ids, x ∈ s.node.ids) ↔ (∃ x ∈ s.node.ids, x ∈ u.node.ids) := ⟨fun ⟨a, b, c⟩ => ⟨a, c, b⟩, fun ⟨a, b, c⟩ => ⟨a, c, b⟩⟩
    rw [show decide (∃ x ∈ u.node.ids, x ∈ s.node.ids) = decide (∃ x ∈ s.node.ids, x ∈ u.node.ids) from decide_eq_decide.2 this]
    simp
  case inr.inl.inr.inl =>
    refine .inl ⟨_, rfl, f3.mono ?_⟩
    rintro r rfl
    by_cases h : s.id = u.id
    · have := hm h
      simp [this]
    · simp [h]
  all_goals first
    | (refine .inr ⟨rfl, ?_⟩; simp; done)
    | (refine .inl ⟨_, rfl, f1.mono ?_⟩; rintro r rfl; simp; done)
    | (refine .inl ⟨_, rfl, f2.mono ?_⟩; rintro r rfl; simp; done)
    | (refine .inl ⟨_, rfl, f4.mono ?_⟩; rintro r rfl; simp; done)
def stepsMeetT (t : T) (s u : Stp) : Bool := if okT t = true then !(doT t s).isSome || !(doT t u).isSome || meetT t s u else true
theorem stepT_false {t : T} {s : Stp} {w : T} (h : stepT t s = (w, false)) : okT t = false ∨ doT t s = none := by
  unfold stepT at h
  by_cases ho : okT t = true
  · rw [if_pos ho] at h
    cases hd : doT t s with
    | none => exact .inr rfl
    | some y => rw [hd] at h; simp at h
  · exact .inl (by simpa using ho)
theorem stepT_true {t : T} {s : Stp} {w : T} (h : stepT t s = (w, true)) : okT t = true ∧ doT t s = some w := by
  unfold stepT at h
  by_cases ho : okT t = true
  · rw [if_pos ho] at h
    cases hd : doT t s with
    | none => rw [hd] at h; simp at h
    | some y => rw [hd] at h; simp at h; exact ⟨ho, by rw [h]⟩
  · rw [if_neg ho] at h; simp at h
set_option maxHeartbeats 4000000 in
theorem implStepsMeet_pure (t : T) (ht : t.Small) (s u : Stp) (hs : s.node.Small) (hu : u.node.Small) (hx : s.text.length ≤ 1048576) (hy : u.text.length ≤ 1048576) :
    Pure Try.prog 8 [.agg t.cells, .agg s.cells, .agg u.cells] (· = .bool (stepsMeetT t s u)) := by
  have f1 := implStepDo_pure t s ht hs hx
  have f2 := implStepDo_pure t u ht hu hy
  have hm := stepMeetings_full
  have hF : ∀ w1 w2, stepT t s = (w1, true) → stepT t u = (w2, true) → ((∃ g, meetMap s.kind u.kind = some (.fn g []) ∧ Pure Try.prog g [.agg (pairC t s u)] (· = .bool (stepsMeetT t s u))) ∨ (meetMap s.kind u.kind = none ∧ stepsMeetT t s u = false)) := by
    intro w1 w2 a b
    obtain ⟨o, d1⟩ := stepT_true a
    obtain ⟨_, d2⟩ := stepT_true b
    have e : stepsMeetT t s u = meetT t s u := by unfold stepsMeetT; rw [if_pos o, d1, d2]; simp
    rw [e]
    exact meet_found t ht o s u hs hu d1 d2
  have hN1 : ∀ w, stepT t s = (w, false) → stepsMeetT t s u = true := fun w a => by
    unfold stepsMeetT; rcases stepT_false a with h | h <;> simp [h]
  have hN2 : ∀ w, stepT t u = (w, false) → stepsMeetT t s u = true := fun w a => by
    unfold stepsMeetT; rcases stepT_false a with h | h <;> simp [h]
  generalize stepsMeetT t s u = R at *
  generalize h1 : stepT t s = r1 at *
  generalize h2 : stepT t u = r2 at *
  obtain ⟨w1, b1⟩ := r1
  obtain ⟨w2, b2⟩ := r2
  simp only at f1 f2
  have hF := hF w1 w2
  have hN1 := hN1 w1
  have hN2 := hN2 w2
  clear h1 h2
  obtain ⟨skind, sid, sat, ⟨nid, nk, nx, nks⟩, stext⟩ := s
  obtain ⟨ukind, uid, uat, ⟨mid, mk, mx, mks⟩, utext⟩ := u
  cases t with
  | mk id kind text kids =>
  cases w1 with
  | mk aid ak ax aks =>
  cases w2 with
  | mk cid ck cx cks =>
  refine pure_of_awp good Try.func8 rfl (by kernel_rfl) (by decide) ?_
  conv => whnf
  refine .inl (f1.mono ?_)
  rintro r rfl
  conv => whnf
  refine .inl (f2.mono ?_)
  rintro r rfl
  conv => whnf
  cases b1 with
  | false =>
    rw [hN1 rfl]
    conv => whnf
  | true =>
    conv => whnf
    cases b2 with
    | false =>
      rw [hN2 rfl]
      conv => whnf
    | true =>
      have hF := hF rfl rfl
      clear f1 f2 hN1 hN2
      simp only at hF
      conv => whnf
      refine .inr (.inl ⟨[], false, ?_⟩)
      conv => whnf
      refine hm.mono ?_
      rintro o st' ⟨rows, rfl, rfl, hr⟩
      unfold mapMeet
      conv => whnf
      repeat (refine And.intro (by
                (conv => whnf)
                first
                  | rfl) ?_
              conv => whnf)
      rcases hF with ⟨g, e, hc⟩ | ⟨e, e2⟩
      · refine AtKey_intro _ ((hr skind ukind).trans e) ?_
        conv => whnf
        repeat' (first
          | (refine And.intro ?_ ?_ <;> (conv => whnf))
          | (refine .inl (hc.mono ?_)
             rintro r rfl
             conv => whnf))
      · refine AtKey_intro _ ((hr skind ukind).trans e) ?_
        rw [e2]
        conv => whnf
        repeat' (refine And.intro ?_ ?_ <;> (conv => whnf))
end Go.Cod

namespace Go.Cod
open Go Go.Proofs
set_option maxRecDepth 10000

theorem l13Under_pure (t : T) (ht : t.Small) (hn : t.ids.length ≤ 1048577) (id over : Int) : Pure Try.prog 88 [.agg t.cells, .int .i64 id, .int .i64 over] (· = .bool (underT t id over)) := by
  have f1 := l2Find_pure t ht over
  have f2 : ∀ x, fT t over = some x → Pure Try.prog 49 [.agg x.cells] (· = .sl (irows x.ids)) ∧ Pure Try.prog 61 [.sl (irows x.ids), .int .i64 id] (· = .bool (decide (id ∈ x.ids))) := fun x h => by
    have hl : x.ids.length ≤ 1048577 := by have := (fT_spec t over x h).2.1.length_le; omega
    exact ⟨l2Ids_pure x (fT_small t over ht x h) hl, l2Has_pure x.ids id (by omega)⟩
  unfold underT
  generalize fT t over = r at *
  cases t with
  | mk tid tk tx tks =>
  clear ht hn
  refine pure_of_awp good Try.func88 rfl (by kernel_rfl) (by decide) ?_
  conv => whnf
  refine .inl (f1.mono ?_)
  rintro r' rfl
  cases r with
  | none => conv => whnf
  | some x =>
    obtain ⟨g1, g2⟩ := f2 x rfl
    simp only
    generalize irows x.ids = rows at *
    generalize decide (id ∈ x.ids) = b at *
    clear f1 f2
    cases x with
    | mk xid xk xx xks =>
    conv => whnf
    refine .inl (g1.mono ?_)
    rintro r' rfl
    conv => whnf
    refine .inl (g2.mono ?_)
    rintro r' rfl
    conv => whnf
theorem l13One_pure (t : T) (ht : t.Small) (hn : t.ids.length ≤ 1048577) (s u : Stp) : Pure Try.prog 67 [.agg t.cells, .agg s.cells, .agg u.cells] (· = .bool (oneT t s u)) := by
  have f1 := l13Under_pure t ht hn u.id s.id
  unfold oneT
  obtain ⟨skind, sid, sat, ⟨nid, nk, nx, nks⟩, stext⟩ := s
  obtain ⟨ukind, uid, uat, ⟨mid, mk, mx, mks⟩, utext⟩ := u
  simp only at f1 ⊢
  generalize underT t uid sid = b at *
  clear ht hn
  cases t with
  | mk tid tk tx tks =>
  refine pure_of_awp good Try.func67 rfl (by kernel_rfl) (by decide) ?_
  conv => whnf
  by_cases hk : skind = 2
  · rw [eqB_t hk, decide_eq_true hk]
    conv => whnf
    refine .inl (f1.mono ?_)
    rintro r' rfl
    conv => whnf
    rfl
  · rw [eqB_f hk, decide_eq_false hk]
    conv => whnf
    rfl
theorem l13Same_pure (s u : Stp) (hs : s.node.Small) (hu : u.node.Small) (hz : s.node.ids.length ≤ 1048577) (hw : u.node.ids.length ≤ 1048577) : Pure Try.prog 68 [.agg s.cells, .agg u.cells] (· = .bool (sameS s u)) := by
  have f1 := l2Ids_pure s.node hs hz
  have f2 := l2Ids_pure u.node hu hw
  have f3 := fun x => l2Has_pure u.node.ids x (by omega)
  unfold sameS
  have hlr := irows_len s.node.ids
  have hgr := irows_get s.node.ids
  obtain ⟨skind, sid, sat, ⟨nid, nk, nx, nks⟩, stext⟩ := s
  obtain ⟨ukind, uid, uat, ⟨mid, mk, mx, mks⟩, utext⟩ := u
  simp only at f1 f2 f3 hlr hgr hz hw ⊢
  generalize (T.mk nid nk nx nks).ids = ns at *
  generalize (T.mk mid mk mx mks).ids = ms at *
  generalize irows ns = rows at *
  generalize irows ms = rm at *
  refine pure_of_awp good Try.func68 rfl (by kernel_rfl) (by decide) ?_
  conv => whnf
  by_cases hk : skind = ukind
  · rw [eqB_t hk, if_pos hk]
    conv => whnf
    by_cases h1 : skind = 1
    · rw [eqB_t h1, if_pos h1]
      conv => whnf
      by_cases hq : sid = uid ∧ sat = uat
      · rw [eqB_t hq.1]
        conv => whnf
        rw [eqB_t hq.2]
        conv => whnf
        rw [decide_eq_true hq.1, decide_eq_true hq.2]
        rfl
      have e : (decide (sid = uid) && decide (sat = uat)) = false := by
        rw [Bool.and_eq_false_iff]
        by_cases hi : sid = uid
        · exact .inr (decide_eq_false fun h => hq ⟨hi, h⟩)
        · exact .inl (decide_eq_false hi)
      rw [e, Bool.false_or]
      by_cases hi : sid = uid
      rw [eqB_t hi]
      conv => whnf
      rw [eqB_f (fun h => hq ⟨hi, h⟩)]
      rotate_left
      rw [eqB_f hi]
      all_goals
        conv => whnf
        refine .inl (f1.mono ?_)
        rintro r' rfl
        conv => whnf
        refine loop_intro (fun n fr st => ∃ i : Nat, n + i = ns.length ∧ st = [⟨[[.int .i64 skind, .int .i64 sid, .int .i64 sat, .int .i64 nid, .str nk, .str nx, .sl (T.rows nks), .str stext]], 8, true, true, true, .cell⟩, ⟨[[.int .i64 ukind, .int .i64 uid, .int .i64 uat, .int .i64 mid, .str mk, .str mx, .sl (T.rows mks), .str utext]], 8, true, true, true, .cell⟩] ∧ (¬ ∃ x ∈ ns.take i, x ∈ ms) ∧ Holds fr [(3, .ptr 1 0 0), (5, .sl rows), (6, .int .i64 i)]) ns.length
          ⟨0, rfl, rfl, by simp, rfl, rfl, rfl, trivial⟩ ?_
        rintro n fr st ⟨i, hn, rfl, hx, hh⟩
        obtain ⟨fr, rfl⟩ := hh.split
        clear hh
        conv => whnf
        rw [hlr]
        by_cases hlt : i < ns.length
        · rw [ltB_t (by omega)]
          conv => whnf
          have hg := hgr i hlt
          have hmem : ns[i] ∈ ns := List.getElem_mem _
          have htk : ns.take (i + 1) = ns.take i ++ [ns[i]] := List.take_succ_eq_append_getElem hlt
          generalize ns[i] = y at *
          have f3 := f3 y
          refine ⟨_, .inl f2, ?_⟩
          conv => whnf
          refine ⟨by omega, rows, _, 1, rfl, hg, rfl, rfl, ?_⟩
          conv => whnf
          refine ⟨_, .inl f3, ?_⟩
          conv => whnf
          by_cases hy : y ∈ ms
          · rw [decide_eq_true hy]
            conv => whnf
            rw [decide_eq_true ⟨y, hmem, hy⟩]
          · rw [decide_eq_false hy]
            conv => whnf
            refine ⟨n - 1, by omega, i + 1, by omega, rfl, ?_, rfl, rfl, ?_, trivial⟩
            · rw [htk]
              rintro ⟨z, h1, h2⟩
              rcases List.mem_append.1 h1 with h | h
              · exact hx ⟨z, h, h2⟩
              · rw [List.mem_singleton.1 h] at h2; exact hy h2
            · show V.int .i64 (IntKind.i64.wrap (i + 1)) = _
              rw [wrap64 (by omega) (by omega)]; simp
        · rw [ltB_f (by omega)]
          conv => whnf
          rw [List.take_of_length_le (by omega)] at hx
          rw [decide_eq_false hx]
    · rw [eqB_f h1, if_neg h1]
      conv => whnf
      rw [eqB_def]
  · rw [eqB_f hk, if_neg hk]
    conv => whnf
theorem l13Meet_pure (t : T) (ht : t.Small) (hn : t.ids.length ≤ 1048577) (s u : Stp) (hs : s.node.Small) (hu : u.node.Small) (hz : s.node.ids.length ≤ 1048577) (hw : u.node.ids.length ≤ 1048577) :
    Pure Try.prog 35 [.agg t.cells, .agg s.cells, .agg u.cells] (· = .bool (meetT t s u)) := by
  have f1 := l13One_pure t ht hn s u
  have f2 := l13One_pure t ht hn u s
  have f3 := l13Same_pure s u hs hu hz hw
  unfold meetT
  generalize oneT t s u = a at *
  generalize oneT t u s = b at *
  generalize sameS s u = c at *
  clear ht hn hs hu hz hw
  obtain ⟨skind, sid, sat, ⟨nid, nk, nx, nks⟩, stext⟩ := s
  obtain ⟨ukind, uid, uat, ⟨mid, mk, mx, mks⟩, utext⟩ := u
  cases t with
  | mk tid tk tx tks =>
  refine pure_of_awp good Try.func35 rfl (by kernel_rfl) (by decide) ?_
  conv => whnf
  refine .inl (f1.mono ?_)
  rintro r' rfl
  cases a with
  | true =>
    conv => whnf
    rfl
  | false =>
    conv => whnf
    refine .inl (f2.mono ?_)
    rintro r' rfl
    cases b with
    | true =>
      conv => whnf
      rfl
    | false =>
      conv => whnf
      refine .inl (f3.mono ?_)
      rintro r' rfl
      conv => whnf
      rfl
theorem specStepsMeet_pure (t : T) (ht : t.Small) (hn : t.ids.length ≤ 1048577) (s u : Stp) (hs : s.node.Small) (hu : u.node.Small) (hz : s.node.size ≤ 1048577) (hw : u.node.size ≤ 1048577) (hx : s.text.length ≤ 1048576) (hy : u.text.length ≤ 1048576) :
    Pure Try.prog 9 [.agg t.cells, .agg s.cells, .agg u.cells] (· = .bool (stepsMeetT t s u)) := by
  have f0 := specTreeOk_pure t ht hn
  have f1 : okT t = true → Pure Try.prog 34 [.agg t.cells, .agg s.cells] (· = doR t (doT t s)) := fun h => l4Do_pure t s ht (by have := okT_size h; omega) ((okT_iff' t).1 h).2.1 hs hz hx
  have f2 : okT t = true → Pure Try.prog 34 [.agg t.cells, .agg u.cells] (· = doR t (doT t u)) := fun h => l4Do_pure t u ht (by have := okT_size h; omega) ((okT_iff' t).1 h).2.1 hu hw hy
  have f3 := l13Meet_pure t ht hn s u hs hu (by rw [T.ids_size]; exact hz) (by rw [T.ids_size]; exact hw)
  unfold stepsMeetT
  generalize meetT t s u = c at *
  generalize okT t = ok at *
  generalize doT t s = a at *
  generalize doT t u = b at *
  clear ht hn hs hu hz hw hx hy
  obtain ⟨skind, sid, sat, ⟨nid, nk, nx, nks⟩, stext⟩ := s
  obtain ⟨ukind, uid, uat, ⟨mid, mk, mx, mks⟩, utext⟩ := u
  cases t with
  | mk tid tk tx tks =>
  refine pure_of_awp good Try.func9 rfl (by kernel_rfl) (by decide) ?_
  conv => whnf
  refine .inl (f0.mono ?_)
  rintro r' rfl
  cases ok with
  | false =>
    conv => whnf
    rfl
  | true =>
    have f1 := f1 rfl
    have f2 := f2 rfl
    conv => whnf
    refine .inl (f1.mono ?_)
    rintro r' rfl
    rcases a with _ | ⟨aid, ak, ax, aks⟩
    all_goals
      conv => whnf
      refine .inl (f2.mono ?_)
      rintro r' rfl
      rcases b with _ | ⟨bid, bk, bx, bks⟩
      all_goals
        conv => whnf
        first
          | rfl
          | (refine .inl (f3.mono ?_)
             rintro r' rfl
             conv => whnf
             rfl)
end Go.Cod

namespace Go.Cod
open Go Go.Proofs Go.ChangeShapes Go.WideShapes Go.ChangeAt Go.RowKit
set_option maxRecDepth 10000

def DrawRM (r : V) : Prop := ∃ (t : T) (s u : Stp), t.Small ∧ t.size ≤ 600000 ∧ s.Dr ∧ u.Dr ∧ r = .tup [.agg t.cells, .agg s.cells, .agg u.cells]
def cb (w : Nat) (cs : List V) : O := ⟨[cs], w, true, true, true, .cell⟩
set_option maxHeartbeats 4000000 in
theorem drawStepsMeet_pure (bs : List UInt8) (hb : bs.length ≤ 1048576) : Pure Try.prog 7 [.sl (brows bs)] DrawRM := by
  have ho := l1Open_full bs hb
  refine pure_of_box good Try.func7 rfl (by kernel_rfl) (by decide) fun A hA => ?_
  conv => whnf
  refine box_go hA ?_
  conv => whnf
  refine box_go hA ?_
  conv => whnf
  refine .inr (.inl ⟨[], false, ?_⟩)
  conv => whnf
  refine ho.mono ?_
  rintro o st' ⟨rfl, bs', hb', rfl⟩
  conv => whnf
  refine box_with hA [(2, .ptr 0 0 0), (3, .ptr 1 0 0), (4, .ptr 2 0 0), (5, .ptr 3 0 0)] ⟨rfl, rfl, rfl, rfl, trivial⟩ fun fr => ?_
  conv => whnf
  refine ⟨[3], false, ?_⟩
  conv => whnf
  refine (l11Some_full bs' hb' 0 16 (by omega) (by omega)).mono ?_
  rintro o st' ⟨t, p, s1, s2, s3, s4, rfl, rfl⟩
  have hed := l11Edit_full bs' hb' p 100 (by omega) (by omega) (by omega) (by omega) t s1 s2
  have hed2 := fun q h1 h2 => l11Edit_full bs' hb' q 200 h1 h2 (by omega) (by omega) t s1 s2
  have hfd := l2Find_pure t s1
  have hkl : ∀ x s, fT t x = some s → s.kids.length ≤ 600000 := fun x s h => by
    have := fT_kids_len h; omega
  rcases t with ⟨ti, tk, tx, tks⟩
  conv => whnf
  refine box_go hA ?_
  conv => whnf
  refine box_go hA ?_
  conv => whnf
  refine box_with hA [(2, .ptr 0 0 0), (3, .ptr 1 0 0), (4, .ptr 2 0 0), (5, .ptr 3 0 0), (6, .ptr 4 0 0), (7, .ptr 5 0 0), (8, .ptr 6 0 0)] ⟨rfl, rfl, rfl, rfl, rfl, rfl, rfl, trivial⟩ fun fr => ?_
  conv => whnf
  refine ⟨[3, 5], false, ?_⟩
  conv => whnf
  refine hed.mono ?_
  rintro o st' ⟨⟨skind, sid, sat, snode, stext⟩, p', k', d1, d2, d3, d4, d5, rfl, rfl⟩
  rcases snode with ⟨ni, nk, nx, nks⟩
  conv => whnf
  refine box_with hA [(2, .ptr 0 0 0), (3, .ptr 1 0 0), (4, .ptr 2 0 0), (5, .ptr 3 0 0), (6, .ptr 4 0 0), (8, .ptr 6 0 0), (9, .ptr 7 0 0)] ⟨rfl, rfl, rfl, rfl, rfl, rfl, rfl, trivial⟩ fun fr => ?_
  conv => whnf
  refine ⟨[3, 6], false, ?_⟩
  conv => whnf
  refine (hed2 p' (by omega) (by omega)).mono ?_
  rintro o st' ⟨⟨ukind, uid, uat, unode, utext⟩, q, l', g1, g2, g3, g4, g5, rfl, rfl⟩
  have hspo := l11SpoilStep_full bs' hb' (q + 1) (by omega) (by omega) _ g1
  rcases unode with ⟨mi, mk, mx, mks⟩
  have hpk := pick_full bs' q 10 hb' (by omega) (by omega)
  have hpk2 := fun n => pick_full bs' (q + 1) n hb' (by omega) (by omega)
  have hfin : ∀ u : Stp, u.Dr → DrawRM (.tup [.agg (T.mk ti tk tx tks).cells, .agg (Stp.mk skind sid sat (.mk ni nk nx nks) stext).cells, .agg u.cells]) := fun u h => ⟨_, _, u, s1, s2, d1, h, rfl⟩
  conv => whnf
  refine box_cutw hA 2 [(2, .ptr 0 0 0), (3, .ptr 1 0 0), (4, .ptr 2 0 0), (5, .ptr 3 0 0), (6, .ptr 4 0 0), (9, .ptr 7 0 0), (10, .ptr 8 0 0)] ⟨rfl, rfl, rfl, rfl, rfl, rfl, rfl, trivial⟩ fun K1 hK1 fr => ?_
  conv => whnf
  refine ⟨[3], false, ?_⟩
  conv => whnf
  refine hpk.mono ?_
  rintro o st' ⟨c, c0, c1, rfl, rfl⟩
  conv => whnf
  refine hK1 _ [cb 4 [.int .i64 0, .str [], .str [], .nils], cb 8 [.int .i64 0, .int .i64 0, .int .i64 0, .int .i64 0, .str [], .str [], .nils, .str []], cb 8 [.int .i64 0, .int .i64 0, .int .i64 0, .int .i64 0, .str [], .str [], .nils, .str []], rdO bs' (q + 1), cb 4 [.int .i64 ti, .str tk, .str tx, .sl (T.rows tks)], nxO k', nxO l', cb 8 [.int .i64 skind, .int .i64 sid, .int .i64 sat, .int .i64 ni, .str nk, .str nx, .sl (T.rows nks), .str stext], cb 8 [.int .i64 ukind, .int .i64 uid, .int .i64 uat, .int .i64 mi, .str mk, .str mx, .sl (T.rows mks), .str utext]] ?_
  clear hK1 K1
  refine box_go hA ?_
  conv => whnf
  refine box_with hA [(2, .ptr 0 0 0), (3, .ptr 1 0 0), (4, .ptr 2 0 0), (5, .ptr 3 0 0), (6, .ptr 4 0 0), (9, .ptr 7 0 0), (10, .ptr 8 0 0), (24, .int .i64 c)] ⟨rfl, rfl, rfl, rfl, rfl, rfl, rfl, rfl, trivial⟩ fun fr => ?_
  conv => whnf
  by_cases hc : c = 0
  · rw [eqB_t hc]
    conv => whnf
    refine box_cutw hA 3 [(2, .ptr 0 0 0), (3, .ptr 1 0 0), (4, .ptr 2 0 0), (5, .ptr 3 0 0), (6, .ptr 4 0 0), (9, .ptr 7 0 0), (10, .ptr 8 0 0)] ⟨rfl, rfl, rfl, rfl, rfl, rfl, rfl, trivial⟩ fun K1 hK1 fr => ?_
    conv => whnf
    refine ⟨[3], false, ?_⟩
    conv => whnf
    refine hspo.mono ?_
    rintro o st' ⟨⟨ykind, yid, yat, ynode, ytext⟩, q', f1, f2, f3, rfl, rfl⟩
    rcases ynode with ⟨yi, yk, yx, yks⟩
    have hfin := hfin ⟨ykind, yid, yat, .mk yi yk yx yks, ytext⟩ f1
    conv => whnf
    refine hK1 _ [cb 4 [.int .i64 0, .str [], .str [], .nils], cb 8 [.int .i64 0, .int .i64 0, .int .i64 0, .int .i64 0, .str [], .str [], .nils, .str []], cb 8 [.int .i64 0, .int .i64 0, .int .i64 0, .int .i64 0, .str [], .str [], .nils, .str []], rdO bs' (q'), cb 4 [.int .i64 ti, .str tk, .str tx, .sl (T.rows tks)], nxO k', nxO l', cb 8 [.int .i64 skind, .int .i64 sid, .int .i64 sat, .int .i64 ni, .str nk, .str nx, .sl (T.rows nks), .str stext], cb 8 [.int .i64 ukind, .int .i64 uid, .int .i64 uat, .int .i64 mi, .str mk, .str mx, .sl (T.rows mks), .str utext]] ?_
    clear hK1 K1
    refine box_go hA ?_
    conv => whnf
    repeat (refine And.intro (by
              (conv => whnf)
              first
                | rfl
                | exact hfin) ?_
            conv => whnf)
    exact hfin
  rw [eqB_f hc]
  conv => whnf
  refine box_with hA [(2, .ptr 0 0 0), (3, .ptr 1 0 0), (4, .ptr 2 0 0), (5, .ptr 3 0 0), (6, .ptr 4 0 0), (9, .ptr 7 0 0), (10, .ptr 8 0 0), (24, .int .i64 c)] ⟨rfl, rfl, rfl, rfl, rfl, rfl, rfl, rfl, trivial⟩ fun fr => ?_
  conv => whnf
  by_cases hc1 : c = 1
  · rw [eqB_t hc1]
    have hfin := hfin _ d1
    conv => whnf
    refine box_go hA ?_
    conv => whnf
    repeat (refine And.intro (by
              (conv => whnf)
              first
                | rfl
                | exact hfin) ?_
            conv => whnf)
    exact hfin
  rw [eqB_f hc1]
  have hfind := hfd sid
  have hkl := fun s => hkl sid s
  generalize fT (T.mk ti tk tx tks) sid = fx at *
  have hfin0 := hfin _ g1
  conv => whnf
  refine box_with hA [(2, .ptr 0 0 0), (3, .ptr 1 0 0), (4, .ptr 2 0 0), (5, .ptr 3 0 0), (6, .ptr 4 0 0), (9, .ptr 7 0 0), (10, .ptr 8 0 0), (24, .int .i64 c)] ⟨rfl, rfl, rfl, rfl, rfl, rfl, rfl, rfl, trivial⟩ fun fr => ?_
  conv => whnf
  by_cases hc2 : c = 2
  rw [eqB_t hc2]
  rotate_left
  rw [eqB_f hc2]
  conv => whnf
  refine box_with hA [(2, .ptr 0 0 0), (3, .ptr 1 0 0), (4, .ptr 2 0 0), (5, .ptr 3 0 0), (6, .ptr 4 0 0), (9, .ptr 7 0 0), (10, .ptr 8 0 0), (24, .int .i64 c)] ⟨rfl, rfl, rfl, rfl, rfl, rfl, rfl, rfl, trivial⟩ fun fr => ?_
  conv => whnf
  by_cases hc3 : c = 3
  rw [eqB_t hc3]
  rotate_left
  · rw [eqB_f hc3]
    have hfin := hfin0
    conv => whnf
    repeat (refine And.intro (by
              (conv => whnf)
              first
                | rfl
                | exact hfin) ?_
            conv => whnf)
    exact hfin
  all_goals
    conv => whnf
    refine box_with hA [(2, .ptr 0 0 0), (3, .ptr 1 0 0), (4, .ptr 2 0 0), (5, .ptr 3 0 0), (6, .ptr 4 0 0), (9, .ptr 7 0 0), (10, .ptr 8 0 0)] ⟨rfl, rfl, rfl, rfl, rfl, rfl, rfl, trivial⟩ fun fr => ?_
    conv => whnf
    refine .inl (hfind.mono ?_)
    rintro r rfl
    rcases fx with _ | ⟨xi, xk, xx, xks⟩
    · have hfin := hfin0
      conv => whnf
      refine box_with hA [(2, .ptr 0 0 0), (3, .ptr 1 0 0), (4, .ptr 2 0 0), (5, .ptr 3 0 0), (6, .ptr 4 0 0), (9, .ptr 7 0 0), (10, .ptr 8 0 0), (11, .ptr 9 0 0), (12, .bool false)] ⟨rfl, rfl, rfl, rfl, rfl, rfl, rfl, rfl, rfl, trivial⟩ fun fr => ?_
      conv => whnf
      repeat (refine And.intro (by
                (conv => whnf)
                first
                  | rfl
                  | exact hfin) ?_
              conv => whnf)
      exact hfin
    · have hxl := hkl _ rfl
      conv => whnf
      refine box_with hA [(2, .ptr 0 0 0), (3, .ptr 1 0 0), (4, .ptr 2 0 0), (5, .ptr 3 0 0), (6, .ptr 4 0 0), (9, .ptr 7 0 0), (10, .ptr 8 0 0), (11, .ptr 9 0 0), (12, .bool true)] ⟨rfl, rfl, rfl, rfl, rfl, rfl, rfl, rfl, rfl, trivial⟩ fun fr => ?_
      conv => whnf
      by_cases hk : skind = 1
      · rw [eqB_t hk]
        conv => whnf
        refine ⟨[3], false, ?_⟩
        conv => whnf
        refine (hpk2 _).mono ?_
        rintro o st' ⟨m, m0, m1, rfl, rfl⟩
        have hfin := hfin ⟨1, sid, m, .mk 300 [112, 97, 114] [] [], []⟩ ⟨.mk (by decide) (by decide) (by decide) (by decide) (fun m hm => (by cases hm)), by simp [T.size, T.sizeL], by simp⟩
        conv => whnf
        repeat (refine And.intro (by
                  (conv => whnf)
                  first
                    | rfl
                    | exact hfin) ?_
                conv => whnf)
        exact hfin
      · rw [eqB_f hk]
        have hfin := hfin0
        conv => whnf
        repeat (refine And.intro (by
                  (conv => whnf)
                  first
                    | rfl
                    | exact hfin) ?_
                conv => whnf)
        exact hfin
end Go.Cod

namespace Go.Cod
open Go Go.Proofs
set_option maxRecDepth 10000

theorem sameS_comm (s u : Stp) : sameS u s = sameS s u := by
  unfold sameS
  by_cases h : s.kind = u.kind
  · rw [if_pos h, if_pos h.symm]
    by_cases k : s.kind = 1
    · rw [if_pos k, if_pos (h ▸ k)]
      have e : decide (∃ x ∈ u.node.ids, x ∈ s.node.ids) = decide (∃ x ∈ s.node.ids, x ∈ u.node.ids) := decide_eq_decide.2 ⟨fun ⟨a, b, c⟩ => ⟨a, c, b⟩, fun ⟨a, b, c⟩ => ⟨a, c, b⟩⟩
      rw [e, decide_eq_decide.2 (eq_comm (a := u.id) (b := s.id)), decide_eq_decide.2 (eq_comm (a := u.at_) (b := s.at_))]
    · rw [if_neg k, if_neg (fun h' => k (h.trans h')), decide_eq_decide.2 (eq_comm (a := u.id) (b := s.id))]
  · rw [if_neg h, if_neg (Ne.symm h)]
theorem stepsMeetT_comm (t : T) (s u : Stp) : stepsMeetT t u s = stepsMeetT t s u := by
  unfold stepsMeetT meetT
  rw [sameS_comm s u]
  cases okT t <;> cases (doT t s).isSome <;> cases (doT t u).isSome <;> simp [Bool.or_comm]
end Go.Cod

namespace Go.Cod
open Go Go.Proofs
set_option maxRecDepth 10000

/- What a kid is in. -/
theorem overL_direct : ∀ (ts : List T) (x ov : Int), (T.idsL ts).Nodup → 0 ≤ ov → x ∈ ts.map T.id → overL ts x ov = ov
  | [], _, _, _, _, h => by simp at h
  | t :: ts, x, ov, hn, h0, hx => by
    simp only [T.idsL, List.nodup_append] at hn
    simp only [overL]
    by_cases he : t.id = x
    · have h1 : overT t x ov = ov := by
        cases t with
        | mk id kind text kids =>
        have he : id = x := he
        simp only [overT, if_pos he]
      rw [h1, if_pos h0]
    · have hx' : x ∈ ts.map T.id := by
        simp only [List.map_cons, List.mem_cons] at hx
        exact hx.resolve_left fun e => he e.symm
      have hxi : x ∈ T.idsL ts := by
        clear hn he hx
        induction ts with
        | nil => simp at hx'
        | cons a bs ih =>
          simp only [List.map_cons, List.mem_cons] at hx'
          simp only [T.idsL, List.mem_append]
          rcases hx' with e | e
          · exact .inl (e ▸ T.id_mem a)
          · exact .inr (ih e)
      have hno : x ∉ t.ids := fun h => hn.2.2 x h x hxi rfl
      rw [overT_no t x ov hno, if_neg (by omega)]
      exact overL_direct ts x ov hn.2.1 h0 hx'
mutual
theorem overT_up : ∀ (t : T) (p x ov : Int) (s : T), t.ids.Nodup → (∀ i ∈ t.ids, 0 ≤ i) → fT t p = some s → x ∈ s.kids.map T.id → overT t x ov = p
  | .mk id kind text kids, p, x, ov, s, hn, h0, hf, hx => by
    have hk := fT_kid _ p x s hf hx
    have hk : x ∈ T.idsL kids := hk
    simp only [T.ids, List.nodup_cons] at hn
    have hne : ¬ id = x := fun e => hn.1 (e ▸ hk)
    simp only [overT, if_neg hne]
    by_cases hp : id = p
    · simp only [fT, if_pos hp, Option.some.injEq] at hf
      subst hf
      rw [← hp]
      exact overL_direct kids x id hn.2 (h0 id (by simp [T.ids])) hx
    · simp only [fT, if_neg hp] at hf
      exact overL_up kids p x id s hn.2 (fun i h => h0 i (by simp [T.ids, h])) hf hx
theorem overL_up : ∀ (ts : List T) (p x ov : Int) (s : T), (T.idsL ts).Nodup → (∀ i ∈ T.idsL ts, 0 ≤ i) → fL ts p = some s → x ∈ s.kids.map T.id → overL ts x ov = p
  | [], _, _, _, _, _, _, h, _ => by simp [fL] at h
  | t :: ts, p, x, ov, s, hn, h0, hf, hx => by
    simp only [T.idsL, List.nodup_append] at hn
    have hp1 : ∀ i ∈ t.ids, 0 ≤ i := fun i h => h0 i (by simp [T.idsL, h])
    have hp2 : ∀ i ∈ T.idsL ts, 0 ≤ i := fun i h => h0 i (by simp [T.idsL, h])
    simp only [overL]
    simp only [fL] at hf
    cases hft : fT t p with
    | some s' =>
      rw [hft] at hf
      simp only [Option.some.injEq] at hf
      subst hf
      rw [overT_up t p x ov s' hn.1 hp1 hft hx]
      have : 0 ≤ p := hp1 p (fT_mem hft)
      rw [if_pos this]
    | none =>
      rw [hft] at hf
      simp only at hf
      have hxi : x ∈ T.idsL ts := by
        obtain ⟨h1, h2, h3⟩ := fL_spec ts p s hf
        refine h2.subset ?_
        clear h3
        cases s with
        | mk si sk sx sks =>
        simp only [T.ids, List.mem_cons]
        right
        simp only [T.kids] at hx
        clear hf h1 h2
        induction sks with
        | nil => simp at hx
        | cons a bs ih =>
          simp only [List.map_cons, List.mem_cons] at hx
          simp only [T.idsL, List.mem_append]
          rcases hx with e | e
          · exact .inl (e ▸ T.id_mem a)
          · exact .inr (ih e)
      have hno : x ∉ t.ids := fun h => hn.2.2 x h x hxi rfl
      rw [overT_no t x ov hno, if_neg (by omega)]
      exact overL_up ts p x ov s hn.2.1 hp2 hf hx
end
/-- By how much a place moves. -/
def shiftI (t : T) (s u : Stp) : Int :=
  if u.kind = 1 then (if s.kind = 1 then (if s.id = u.id ∧ s.at_ < u.at_ then 1 else 0) else if s.kind = 2 then (if 0 ≤ placeGo s.id 0 (kidOf t u.id).kids ∧ placeGo s.id 0 (kidOf t u.id).kids < u.at_ then -1 else 0) else 0) else 0
def overP (t : T) (s u : Stp) : Stp × Bool := if stepsMeetT t s u = true then (SZ, false) else (⟨u.kind, u.id, u.at_ + shiftI t s u, u.node, u.text⟩, true)
theorem doT_at {t : T} {s : Stp} {y : T} (hok : okT t = true) (h : doT t s = some y) : 0 ≤ s.at_ ∧ s.at_ ≤ 20 := by
  unfold doT editT at h
  cases hx : fT t s.id with
  | none => rw [hx] at h; simp at h
  | some x =>
    rw [hx] at h
    simp only at h
    have hlen := fT_kids_len hx
    have := okT_size hok
    cases hb : bareT s with
    | false => simp [hb] at h
    | true =>
      by_cases k1 : s.kind = 1
      · by_cases hc : 0 ≤ s.at_ ∧ s.at_ ≤ x.kids.length ∧ okT s.node = true
        · omega
        · simp [hb, k1, hc] at h
      · have : s.at_ = 0 := by
          unfold bareT at hb
          rw [if_neg k1] at hb
          split at hb <;> simp at hb
          · exact hb.2
          · exact hb.2
        omega
theorem meet_no {t : T} {s u : Stp} (h : stepsMeetT t s u = false) : okT t = true ∧ (∃ y, doT t s = some y) ∧ (∃ y, doT t u = some y) ∧ meetT t s u = false := by
  unfold stepsMeetT at h
  by_cases ho : okT t = true
  · rw [if_pos ho] at h
    simp only [Bool.or_eq_false_iff, Bool.not_eq_false', Option.isSome_iff_exists] at h
    exact ⟨ho, h.1.1, h.1.2, h.2⟩
  · rw [if_neg ho] at h; cases h
theorem placeGo_ng (x : Int) (ts : List T) : (placeGo x 0 ts < 0) ↔ x ∉ ts.map T.id := by
  have key : ∀ (ts : List T) (i : Nat), (x ∈ ts.map T.id → 0 ≤ placeGo x i ts) ∧ (x ∉ ts.map T.id → placeGo x i ts = -1) := by
    intro ts
    induction ts with
    | nil => intro i; simp [placeGo]
    | cons t ts ih =>
      intro i
      obtain ⟨h1, h2⟩ := ih (i + 1)
      by_cases e : t.id = x
      · simp only [placeGo, if_pos e]
        refine ⟨fun _ => by omega, fun h => absurd (by simp [e]) h⟩
      · simp only [placeGo, if_neg e, List.map_cons, List.mem_cons, Ne.symm e, false_or]
        exact ⟨h1, h2⟩
  obtain ⟨h1, h2⟩ := key ts 0
  by_cases h : x ∈ ts.map T.id
  · have := h1 h
    exact ⟨fun h' => by omega, fun h' => absurd h h'⟩
  · rw [h2 h]; simp [h]
theorem place_mem (x : Int) (ts : List T) : (0 ≤ placeGo x 0 ts) ↔ x ∈ ts.map T.id := by
  have := placeGo_ng x ts
  constructor
  · intro h; exact Decidable.byContradiction fun hc => by have := this.2 hc; omega
  · intro h; have : ¬ placeGo x 0 ts < 0 := fun hc => (this.1 hc) h; omega
/-- .. as the model says it. -/
theorem shift_spec {t : T} {s u : Stp} (h : stepsMeetT t s u = false) (hs : s.kind = 2) :
    (overT t s.id 0 = u.id ∧ place0 s.id (kidOf t (overT t s.id 0)).kids < u.at_) ↔ (0 ≤ placeGo s.id 0 (kidOf t u.id).kids ∧ placeGo s.id 0 (kidOf t u.id).kids < u.at_) := by
  obtain ⟨ho, ⟨y1, d1⟩, ⟨y2, d2⟩, _⟩ := meet_no h
  obtain ⟨_, ⟨x, hx⟩, _⟩ := doT_kind d2
  have hn := ((okT_iff' t).1 ho).2.1
  have hp := okT_ids ho
  have hkd : kidOf t u.id = x := by unfold kidOf; rw [hx]; rfl
  have hat := doT_at ho d2
  rw [hkd]
  constructor
  · rintro ⟨e, h2⟩
    rw [e, hkd] at h2
    have h0 : 0 ≤ u.id := hp _ (fT_mem hx)
    have hm : s.id ∈ x.kids.map T.id := by
      rcases overT_in t s.id 0 u.id hn e h0 with ⟨e1, e2⟩ | ⟨z, hz, hm⟩
      · exfalso
        have : s.id ≠ t.id := by
          intro e3
          unfold doT editT at d1
          obtain ⟨_, ⟨x', hx'⟩, _⟩ := doT_kind (show doT t s = some y1 by unfold doT editT; exact d1)
          rw [hx'] at d1
          simp only [hs] at d1
          simp [e3] at d1
        exact this e1.symm
      · rw [hx] at hz; cases hz; exact hm
    have h3 := (place_mem s.id x.kids).2 hm
    refine ⟨h3, ?_⟩
    unfold place0 at h2
    rw [if_neg (by omega)] at h2
    exact h2
  · rintro ⟨h3, h4⟩
    have hm := (place_mem s.id x.kids).1 h3
    have e := overT_up t u.id s.id 0 x hn hp hx hm
    rw [e, hkd]
    refine ⟨rfl, ?_⟩
    unfold place0
    rw [if_neg (by omega)]
    exact h4
set_option maxHeartbeats 4000000 in
theorem shift_pure (t : T) (ht : t.Small) (s u : Stp) (x : T) (hx : fT t u.id = some x) (hl : x.kids.length ≤ 1048576) : Pure Try.prog 37 [.agg (u.cells ++ s.cells), .agg t.cells] (· = .int .i64 (shiftI t s u)) := by
  have f1 := treeIn_box t ht u.id
  have f2 := treePlace_pure x s.id hl
  have hkd : kidOf t u.id = x := by unfold kidOf; rw [hx]; rfl
  unfold shiftI
  rw [hkd]
  generalize placeGo s.id 0 x.kids = j at *
  have h1 : ptB t u.id = if t.id = u.id then .ptr 0 0 0 else .rptr x.cells := by unfold ptB; rw [hx]; rfl
  have hxt : t.id = u.id → t = x := fun h => by
    obtain ⟨a, b, c, d⟩ := t
    simp only [T.id] at h
    simp only [fT, if_pos h, Option.some.injEq] at hx
    exact hx
  clear hx hl hkd ht
  generalize ptB t u.id = pb at *
  obtain ⟨skind, sid, sat, ⟨nid, nk, nx, nks⟩, stext⟩ := s
  obtain ⟨ukind, uid, uat, ⟨mid, mk, mx, mks⟩, utext⟩ := u
  obtain ⟨ti, tk, tx, tks⟩ := t
  obtain ⟨xi, xk, xx, xks⟩ := x
  simp only at f1 f2 h1 hxt ⊢
  refine pure_of_awp good Try.func37 rfl (by kernel_rfl) (by decide) ?_
  conv => whnf
  by_cases k1 : ukind = 1
  · rw [eqB_t k1, if_pos k1]
    conv => whnf
    by_cases k2 : skind = 1
    · rw [eqB_t k2, if_pos k2]
      conv => whnf
      by_cases k3 : sid = uid
      · rw [eqB_t k3]
        conv => whnf
        by_cases k4 : sat < uat
        · rw [ltB_t k4, if_pos (show sid = uid ∧ sat < uat from ⟨k3, k4⟩)]
          conv => whnf
        · rw [ltB_f (show uat ≤ sat by omega), if_neg (show ¬ (sid = uid ∧ sat < uat) from fun h => k4 h.2)]
          conv => whnf
      · rw [eqB_f k3, if_neg (show ¬ (sid = uid ∧ sat < uat) from fun h => k3 h.1)]
        conv => whnf
    · rw [eqB_f k2, if_neg k2]
      conv => whnf
      by_cases k3 : skind = 2
      · rw [eqB_t k3, if_pos k3]
        conv => whnf
        by_cases hid : ti = uid
        case' pos =>
          rw [if_pos (show (T.mk ti tk tx tks).id = uid from hid)] at h1
          cases hxt hid
        case' neg => rw [if_neg (show ¬ (T.mk ti tk tx tks).id = uid from hid)] at h1
        all_goals
          subst h1
          refine ⟨[1], false, ?_⟩
          conv => whnf
          refine f1.mono ?_
          rintro o st' ⟨rfl, rfl⟩
          conv => whnf
          repeat (refine And.intro (by
                    (conv => whnf)
                    rfl) ?_
                  conv => whnf)
          refine .inl (f2.mono ?_)
          rintro r rfl
          conv => whnf
          repeat (refine And.intro (by
                    (conv => whnf)
                    rfl) ?_
                  conv => whnf)
          by_cases j0 : 0 ≤ j
          · rw [leB_t j0]
            conv => whnf
            by_cases j1 : j < uat
            · rw [ltB_t j1, if_pos (show 0 ≤ j ∧ j < uat from ⟨j0, j1⟩)]
              conv => whnf
            · rw [ltB_f (show uat ≤ j by omega), if_neg (show ¬ (0 ≤ j ∧ j < uat) from fun h => j1 h.2)]
              conv => whnf
          · rw [show leB 0 j = false from by rw [leB_def]; simpa using j0, if_neg (show ¬ (0 ≤ j ∧ j < uat) from fun h => j0 h.1)]
            conv => whnf
      · rw [eqB_f k3, if_neg k3]
        conv => whnf
  · rw [eqB_f k1, if_neg k1]
    conv => whnf
end Go.Cod

namespace Go.Cod
open Go Go.Proofs Go.ChangeShapes Go.WideShapes Go.ChangeAt Go.RowKit
set_option maxRecDepth 10000

def cb8 (w : Nat) (cs : List V) : O := ⟨[cs], w, true, true, true, .cell⟩
def OverR (r : Stp × Bool) (o : Out) (st' : St) : Prop := ∃ l : LT, l.erase = r.1.node ∧ l.Wf ∧ o = .ret (.tup [.agg (stpC r.1 l), .bool r.2]) ∧ st' = [poolO l.ents]
def NewOv (r : Stp × Bool) (o : Out) (st' : St) : Prop := ∃ l : LT, l.erase = r.1.node ∧ l.Wf ∧ (l.ents.map labOf).Nodup ∧ o = .ret (.tup [.agg (stpC r.1 l), .bool r.2]) ∧ st' = [poolO l.ents]
theorem view_app {es : List (List V)} {a b c : List V} (h : View es (.agg a) (.agg b)) : View es (.agg (a ++ c)) (.agg (b ++ c)) := by
  cases h with
  | same => exact .same _
  | agg hl h =>
    refine .agg (by simp [hl]) fun i x y h1 h2 => ?_
    by_cases hi : i < a.length
    · rw [List.getElem?_append_left hi] at h1
      rw [List.getElem?_append_left (by omega)] at h2
      exact h i x y h1 h2
    · rw [List.getElem?_append_right (by omega)] at h1 h2
      rw [← hl] at h2
      rw [h1] at h2
      cases h2
      exact .same _
set_option maxHeartbeats 8000000 in
theorem implStepOver_acc (t : T) (ht : t.Small) (s u : Stp) (hs : s.node.Small) (hu : u.node.Small) (hx : s.text.length ≤ 1048576) (hy : u.text.length ≤ 1048576) :
    Full Try.prog noY 11 [.agg t.cells, .agg s.cells, .agg u.cells] [poolO []] (OverR (overP t s u)) := by
  have f0 := implStepsMeet_pure t ht s u hs hu hx hy
  have f1 := treeCopy_acc u.node hu []
  have f2 : stepsMeetT t s u = false → Pure Try.prog 37 [.agg (u.cells ++ s.cells), .agg t.cells] (· = .int .i64 (shiftI t s u)) := fun h => by
    obtain ⟨ho, _, ⟨y, d⟩, _⟩ := meet_no h
    obtain ⟨_, ⟨x, hx⟩, _⟩ := doT_kind d
    have := fT_kids_len hx
    have := okT_size ho
    exact shift_pure t ht s u x hx (by omega)
  have hw : stepsMeetT t s u = false → IntKind.i64.wrap (u.at_ + shiftI t s u) = u.at_ + shiftI t s u := fun h => by
    obtain ⟨ho, _, ⟨y, d⟩, _⟩ := meet_no h
    have := doT_at ho d
    have : -1 ≤ shiftI t s u ∧ shiftI t s u ≤ 1 := by
      unfold shiftI
      repeat' split
      all_goals omega
    exact wrap64 (by omega) (by omega)
  have hv := fun l es h1 h2 h3 => view_app (c := s.cells) (stp_view u l h1 h2 (es := es) h3)
  unfold overP
  generalize stepsMeetT t s u = m at *
  generalize shiftI t s u = j at *
  obtain ⟨skind, sid, sat, ⟨nid, nk, nx, nks⟩, stext⟩ := s
  obtain ⟨ukind, uid, uat, ⟨mid, mk, mx, mks⟩, utext⟩ := u
  obtain ⟨ti, tk, tx, tks⟩ := t
  simp only at hw hv f1
  refine full_of_awp good Try.func11 rfl (by kernel_rfl) (by decide) ?_
  conv => whnf
  refine .inl (f0.mono ?_)
  rintro r rfl
  cases m with
  | true =>
    conv => whnf
    refine ⟨[], true, ?_⟩
    conv => whnf
    exact ⟨.mk 0 [] [] none [], rfl, by simp [LT.Wf, LT.WfL], rfl, rfl⟩
  | false =>
    have f2 := f2 rfl
    have hw := hw rfl
    conv => whnf
    refine .inr (.inl ⟨[0], true, ?_⟩)
    conv => whnf
    refine f1.mono ?_
    rintro o st' ⟨l, l1, l2, rfl, rfl⟩
    have hv := hv l ([] ++ l.ents) l1 l2 (fun e he => by simpa using he)
    obtain ⟨li, lk, lx, lh, lks⟩ := l
    rcases lh with _ | ⟨lb, lc⟩
    all_goals
      conv => whnf
      refine ⟨.int .i64 j, .inr ⟨_, [.agg _, .agg _], fun e he => ⟨0, he⟩, viewL2 hv (.same _), rfl, f2.mono fun r hr => ⟨by rw [hr]; rfl, hr⟩⟩, ?_⟩
      conv => whnf
      rw [hw]
      refine ⟨[], true, ?_⟩
      conv => whnf
      exact ⟨_, l1, l2, rfl, rfl⟩
theorem implStepOver_new (t : T) (ht : t.Small) (s u : Stp) (hs : s.node.Small) (hu : u.node.Small) (hx : s.text.length ≤ 1048576) (hy : u.text.length ≤ 1048576) :
    Full Try.prog noY 11 [.agg t.cells, .agg s.cells, .agg u.cells] [] (NewOv (overP t s u)) := by
  refine (Full.givenEnd (Full.start (implStepOver_acc t ht s u hs hu hx hy))).mono ?_
  rintro o st' ⟨⟨l, h1, h2, rfl, rfl⟩, hl⟩
  exact ⟨l, h1, h2, hl.nodup (k := 0) rfl, rfl, rfl⟩
theorem implStepOver_pure (t : T) (ht : t.Small) (s u : Stp) (hs : s.node.Small) (hu : u.node.Small) (hx : s.text.length ≤ 1048576) (hy : u.text.length ≤ 1048576) :
    Pure Try.prog 11 [.agg t.cells, .agg s.cells, .agg u.cells] (· = .tup [.agg (overP t s u).1.cells, .bool (overP t s u).2]) := by
  refine Full.freeze (implStepOver_new t ht s u hs hu hx hy) ?_
  rintro o st' ⟨l, h1, h2, h3, rfl, rfl⟩
  have hv := viewL2 (y' := .bool (overP t s u).2) (stp_view (overP t s u).1 l h1 h2 (es := l.ents) (fun _ h => h)) (.same _)
  refine ⟨_, _, .tup [.agg (overP t s u).1.cells, .bool (overP t s u).2], rfl, rfl, .tup hv.1 hv.2, ?_, rfl⟩
  cases l with
  | mk id kind text h kids => rcases h with _ | ⟨b, c⟩ <;> rfl
set_option maxHeartbeats 8000000 in
theorem specStepOver_pure (t : T) (ht : t.Small) (hn : t.ids.length ≤ 1048577) (s u : Stp) (hs : s.node.Small) (hu : u.node.Small) (hz : s.node.size ≤ 1048577) (hw : u.node.size ≤ 1048577) (hx : s.text.length ≤ 1048576) (hy : u.text.length ≤ 1048576) :
    Pure Try.prog 12 [.agg t.cells, .agg s.cells, .agg u.cells] (· = .tup [.agg (overP t s u).1.cells, .bool (overP t s u).2]) := by
  have f0 := specStepsMeet_pure t ht hn s u hs hu hz hw hx hy
  have f1 := l2Copy_pure u.node hu
  have f2 := l2Over_pure t ht s.id 0
  have f3 := l4Place_pure t ht s.id
  have hat : stepsMeetT t s u = false → 0 ≤ u.at_ ∧ u.at_ ≤ 20 := fun h => by
    obtain ⟨ho, _, ⟨y, d⟩, _⟩ := meet_no h
    exact doT_at ho d
  have hsp := fun h => shift_spec (t := t) (s := s) (u := u) h
  unfold overP shiftI
  generalize stepsMeetT t s u = m at *
  generalize placeGo s.id 0 (kidOf t u.id).kids = j at *
  generalize place0 s.id (kidOf t (overT t s.id 0)).kids = j' at *
  generalize overT t s.id 0 = ov at *
  obtain ⟨skind, sid, sat, ⟨nid, nk, nx, nks⟩, stext⟩ := s
  obtain ⟨ukind, uid, uat, ⟨mid, mk, mx, mks⟩, utext⟩ := u
  obtain ⟨ti, tk, tx, tks⟩ := t
  simp only at f0 f1 f2 f3 hat hsp ⊢
  refine pure_of_box good Try.func12 rfl (by kernel_rfl) (by decide) fun A hA => ?_
  conv => whnf
  refine box_go hA ?_
  conv => whnf
  refine box_with hA [(3, .ptr 0 0 0), (4, .ptr 1 0 0), (5, .ptr 2 0 0), (6, .ptr 3 0 0)] ⟨rfl, rfl, rfl, rfl, trivial⟩ fun fr => ?_
  conv => whnf
  refine .inl (f0.mono ?_)
  rintro r rfl
  cases m with
  | true =>
    conv => whnf
    refine box_go hA ?_
    conv => whnf
    rfl
  | false =>
    obtain ⟨at0, at1⟩ := hat rfl
    have hsp := hsp rfl
    have w1 : IntKind.i64.wrap (uat + 1) = uat + 1 := wrap64 (by omega) (by omega)
    have w2 : IntKind.i64.wrap (uat - 1) = uat + -1 := wrap64 (by omega) (by omega)
    conv => whnf
    refine box_with hA [(3, .ptr 0 0 0), (4, .ptr 1 0 0), (5, .ptr 2 0 0), (6, .ptr 3 0 0)] ⟨rfl, rfl, rfl, rfl, trivial⟩ fun fr => ?_
    conv => whnf
    refine box_cutw hA 5 [(3, .ptr 0 0 0), (4, .ptr 1 0 0), (5, .ptr 2 0 0), (6, .ptr 3 0 0), (8, .ptr 4 0 0)] ⟨rfl, rfl, rfl, rfl, rfl, trivial⟩ fun K1 hK1 fr => ?_
    conv => whnf
    refine .inl (f1.mono ?_)
    rintro r rfl
    conv => whnf
    refine hK1 _ [cb8 4 [.int .i64 ti, .str tk, .str tx, .sl (T.rows tks)], cb8 8 [.int .i64 skind, .int .i64 sid, .int .i64 sat, .int .i64 nid, .str nk, .str nx, .sl (T.rows nks), .str stext], cb8 8 [.int .i64 ukind, .int .i64 uid, .int .i64 uat, .int .i64 mid, .str mk, .str mx, .sl (T.rows mks), .str utext], cb8 8 [.int .i64 0, .int .i64 0, .int .i64 0, .int .i64 0, .str [], .str [], .nils, .str []], cb8 8 [.int .i64 ukind, .int .i64 uid, .int .i64 uat, .int .i64 mid, .str mk, .str mx, .sl (T.rows mks), .str utext]] ?_
    clear hK1 K1
    refine box_go hA ?_
    conv => whnf
    refine box_with hA [(3, .ptr 0 0 0), (4, .ptr 1 0 0), (5, .ptr 2 0 0), (6, .ptr 3 0 0), (8, .ptr 4 0 0)] ⟨rfl, rfl, rfl, rfl, rfl, trivial⟩ fun fr => ?_
    conv => whnf
    have z0 : uat + 0 = uat := by omega
    by_cases k1 : ukind = 1
    · rw [eqB_t k1, if_pos k1]
      conv => whnf
      by_cases k2 : skind = 1
      · rw [eqB_t k2, if_pos k2]
        have k2' : ¬ skind = 2 := by omega
        conv => whnf
        by_cases k3 : sid = uid
        · rw [eqB_t k3]
          conv => whnf
          by_cases k4 : sat < uat
          · rw [ltB_t k4, if_pos (show sid = uid ∧ sat < uat from ⟨k3, k4⟩)]
            conv => whnf
            refine box_with hA [(3, .ptr 0 0 0), (4, .ptr 1 0 0), (5, .ptr 2 0 0), (6, .ptr 3 0 0), (8, .ptr 4 0 0)] ⟨rfl, rfl, rfl, rfl, rfl, trivial⟩ fun fr => ?_
            conv => whnf
            rw [w1, eqB_t k1]
            conv => whnf
            rw [eqB_f k2']
            conv => whnf
            refine box_go hA ?_
            conv => whnf
            rfl
          · rw [ltB_f (show uat ≤ sat by omega), if_neg (show ¬ (sid = uid ∧ sat < uat) from fun h => k4 h.2), z0]
            conv => whnf
            rw [eqB_t k1]
            conv => whnf
            rw [eqB_f k2']
            conv => whnf
            refine box_go hA ?_
            conv => whnf
            rfl
        · rw [eqB_f k3, if_neg (show ¬ (sid = uid ∧ sat < uat) from fun h => k3 h.1), z0]
          conv => whnf
          rw [eqB_t k1]
          conv => whnf
          rw [eqB_f k2']
          conv => whnf
          refine box_go hA ?_
          conv => whnf
          rfl
      · rw [eqB_f k2, if_neg k2]
        conv => whnf
        rw [eqB_t k1]
        conv => whnf
        by_cases k3 : skind = 2
        · have hsp := hsp k3
          rw [eqB_t k3, if_pos k3]
          conv => whnf
          refine ⟨_, .inl f2, ?_⟩
          conv => whnf
          by_cases k5 : ov = uid
          · rw [eqB_t k5]
            conv => whnf
            refine ⟨_, .inl f3, ?_⟩
            conv => whnf
            by_cases k6 : j' < uat
            · rw [ltB_t k6, if_pos (hsp.1 ⟨k5, k6⟩)]
              conv => whnf
              refine box_go hA ?_
              conv => whnf
              rw [w2]
              refine box_go hA ?_
              conv => whnf
              rfl
            · rw [ltB_f (show uat ≤ j' by omega), if_neg (show ¬ (0 ≤ j ∧ j < uat) from fun h => k6 (hsp.2 h).2), z0]
              conv => whnf
              refine box_go hA ?_
              conv => whnf
              rfl
          · rw [eqB_f k5, if_neg (show ¬ (0 ≤ j ∧ j < uat) from fun h => k5 (hsp.2 h).1), z0]
            conv => whnf
            refine box_go hA ?_
            conv => whnf
            rfl
        · rw [eqB_f k3, if_neg k3, z0]
          conv => whnf
          refine box_go hA ?_
          conv => whnf
          rfl
    · rw [eqB_f k1, if_neg k1, z0]
      conv => whnf
      rw [eqB_f k1]
      conv => whnf
      refine box_go hA ?_
      conv => whnf
      rfl
end Go.Cod

namespace Go.Cod
open Go Go.Proofs
set_option maxRecDepth 10000

/- Changes in either order. -/
mutual
theorem cut_sub (x : Int) : ∀ t : T, (t.cut x).ids.Sublist t.ids
  | .mk id kind text kids => by
    simp only [T.cut, T.ids]
    exact (cut_subL x kids).cons_cons id
theorem cut_subL (x : Int) : ∀ ts : List T, (T.idsL (T.cutL x ts)).Sublist (T.idsL ts)
  | [] => List.Sublist.refl _
  | t :: ts => by
    simp only [T.cutL, T.idsL]
    split
    · exact (cut_subL x ts).trans (List.sublist_append_right _ _)
    · simp only [T.idsL]
      exact (cut_sub x t).append (cut_subL x ts)
end
mutual
theorem cut_plain (x : Int) : ∀ (t : T) (lv : Int), plainT t lv = true → plainT (t.cut x) lv = true
  | .mk id kind text kids, lv, h => by
    simp only [T.cut, plainT, Bool.and_eq_true] at h ⊢
    exact ⟨h.1, cut_plainL x kids (lv + 1) h.2⟩
theorem cut_plainL (x : Int) : ∀ (ts : List T) (lv : Int), plainL ts lv = true → plainL (T.cutL x ts) lv = true
  | [], _, _ => rfl
  | t :: ts, lv, h => by
    simp only [plainL, Bool.and_eq_true] at h
    simp only [T.cutL]
    split
    · exact cut_plainL x ts lv h.2
    · simp only [plainL, Bool.and_eq_true]
      exact ⟨cut_plain x t lv h.1, cut_plainL x ts lv h.2⟩
end
theorem okT_cut {t : T} (h : okT t = true) (x : Int) : okT (t.cut x) = true := by
  obtain ⟨h1, h2, h3⟩ := (okT_iff' t).1 h
  exact (okT_iff' _).2 ⟨cut_plain x t 1 h1, (cut_sub x t).nodup h2, Nat.le_trans (cut_sub x t).length_le h3⟩
theorem cut_id (x : Int) (t : T) : (t.cut x).id = t.id := by cases t; rfl
mutual
theorem cut_cut (i j : Int) : ∀ t : T, (t.cut i).cut j = (t.cut j).cut i
  | .mk id kind text kids => by simp only [T.cut, cut_cutL i j kids]
theorem cut_cutL (i j : Int) : ∀ ts : List T, T.cutL j (T.cutL i ts) = T.cutL i (T.cutL j ts)
  | [] => rfl
  | t :: ts => by
    simp only [T.cutL]
    by_cases h1 : t.id = i <;> by_cases h2 : t.id = j
    · rw [if_pos h1, if_pos h2]; exact cut_cutL i j ts
    · rw [if_pos h1, if_neg h2]; simp only [T.cutL]; rw [cut_id, if_pos h1]; exact cut_cutL i j ts
    · rw [if_neg h1, if_pos h2]; simp only [T.cutL]; rw [cut_id, if_pos h2]; exact cut_cutL i j ts
    · rw [if_neg h1, if_neg h2]; simp only [T.cutL]; rw [cut_id, cut_id, if_neg h1, if_neg h2, cut_cut i j t, cut_cutL i j ts]
end
/-- What is changed at one place lets what is below it be changed elsewhere. -/
def Lets (f : T → T) (j : Int) (g : T → T) : Prop := ∀ id k x ks, id ≠ j → (f (.mk id k x ks)).mapAt j g = f (.mk id k x (T.mapAtL j g ks))
mutual
theorem mapAt_turn (i j : Int) (f g : T → T) (hne : i ≠ j) (hf : Lets f j g) (hg : Lets g i f) : ∀ t : T, (t.mapAt i f).mapAt j g = (t.mapAt j g).mapAt i f
  | .mk id kind text kids => by
    by_cases h1 : id = i
    · have h2 : id ≠ j := fun e => hne (h1.symm.trans e)
      simp only [T.mapAt, if_pos h1, if_neg h2]
      exact hf id kind text kids h2
    · by_cases h2 : id = j
      · simp only [T.mapAt, if_neg h1, if_pos h2]
        exact (hg id kind text kids h1).symm
      · simp only [T.mapAt, if_neg h1, if_neg h2, mapAt_turnL i j f g hne hf hg kids]
theorem mapAt_turnL (i j : Int) (f g : T → T) (hne : i ≠ j) (hf : Lets f j g) (hg : Lets g i f) : ∀ ts : List T, T.mapAtL j g (T.mapAtL i f ts) = T.mapAtL i f (T.mapAtL j g ts)
  | [] => rfl
  | t :: ts => by simp only [T.mapAtL, mapAt_turn i j f g hne hf hg t, mapAt_turnL i j f g hne hf hg ts]
end
theorem mapAtL_eq (i : Int) (f : T → T) (ts : List T) : T.mapAtL i f ts = ts.map (T.mapAt i f) := by
  induction ts with
  | nil => rfl
  | cons t ts ih => simp only [T.mapAtL, ih, List.map_cons]
theorem lets_word (p : Bool) (w : List UInt8) (j : Int) (g : T → T) : Lets (cT p w) j g := by
  intro id k x ks h
  cases p <;> simp only [cT, T.mapAt, if_neg h]
theorem lets_put (n : Nat) (y : T) (j : Int) (g : T → T) (hy : j ∉ y.ids) : Lets (putKidT n y) j g := by
  intro id k x ks h
  simp only [putKidT, T.mapAt, if_neg h, mapAtL_eq, List.map_append, List.map_cons, List.map_take, List.map_drop, T.mapAt_none j g y hy]
theorem mapAt_id (i : Int) (f : T → T) (hf : ∀ t : T, (f t).id = t.id) (t : T) : (t.mapAt i f).id = t.id := by
  cases t with
  | mk id kind text kids =>
  simp only [T.mapAt]
  split
  · exact hf _
  · rfl
theorem cT_id (p : Bool) (w : List UInt8) (t : T) : (cT p w t).id = t.id := by cases t; cases p <;> rfl
theorem putKidT_id (n : Nat) (y t : T) : (putKidT n y t).id = t.id := by cases t; rfl
mutual
theorem mapAt_cut (i j : Int) (f f' : T → T) (hf : ∀ t : T, (f t).id = t.id) : ∀ (t z : T), t.ids.Nodup → fT t i = some z → (f z).cut j = f' (z.cut j) → (t.mapAt i f).cut j = (t.cut j).mapAt i f'
  | .mk id kind text kids, z, hn, hz, hc => by
    simp only [T.ids, List.nodup_cons] at hn
    simp only [fT] at hz
    by_cases hid : id = i
    · rw [if_pos hid, Option.some.injEq] at hz
      subst hz
      simp only [T.mapAt, if_pos hid, T.cut] at hc ⊢
      exact hc
    · rw [if_neg hid] at hz
      simp only [T.mapAt, if_neg hid, T.cut, mapAt_cutL i j f f' hf kids z hn.2 hz hc]
theorem mapAt_cutL (i j : Int) (f f' : T → T) (hf : ∀ t : T, (f t).id = t.id) : ∀ (ts : List T) (z : T), (T.idsL ts).Nodup → fL ts i = some z → (f z).cut j = f' (z.cut j) → T.cutL j (T.mapAtL i f ts) = T.mapAtL i f' (T.cutL j ts)
  | [], _, _, h, _ => by simp [fL] at h
  | t :: ts, z, hn, hz, hc => by
    simp only [T.idsL, List.nodup_append] at hn
    simp only [fL] at hz
    simp only [T.mapAtL, T.cutL]
    rw [mapAt_id i f hf t]
    cases h1 : fT t i with
    | some y =>
      rw [h1, Option.some.injEq] at hz
      subst hz
      have hx : i ∈ t.ids := fT_mem h1
      have hx2 : i ∉ T.idsL ts := fun h2 => hn.2.2 i hx i h2 rfl
      have hx3 : i ∉ T.idsL (T.cutL j ts) := fun h2 => hx2 ((cut_subL j ts).subset h2)
      rw [T.mapAtL_none i f ts hx2]
      by_cases hj : t.id = j
      · rw [if_pos hj, if_pos hj, T.mapAtL_none i f' _ hx3]
      · rw [if_neg hj, if_neg hj]
        simp only [T.mapAtL]
        rw [T.mapAtL_none i f' _ hx3, mapAt_cut i j f f' hf t y hn.1 h1 hc]
    | none =>
      rw [h1] at hz
      simp only at hz
      have hx : i ∉ t.ids := (fT_none t i).1 h1
      have hx3 : i ∉ (t.cut j).ids := fun h2 => hx ((cut_sub j t).subset h2)
      rw [T.mapAt_none i f t hx]
      have ih := mapAt_cutL i j f f' hf ts z hn.2.1 hz hc
      by_cases hj : t.id = j
      · rw [if_pos hj, if_pos hj]; exact ih
      · rw [if_neg hj, if_neg hj]
        simp only [T.mapAtL]
        rw [T.mapAt_none i f' _ hx3, ih]
end
theorem cT_cut (p : Bool) (w : List UInt8) (j : Int) (z : T) : (cT p w z).cut j = cT p w (z.cut j) := by
  cases z; cases p <;> rfl
theorem put_cut (n n' : Nat) (y z : T) (j : Int) (hy : j ∉ y.ids) (hn : n' = (T.cutL j (z.kids.take n)).length) : (putKidT n y z).cut j = putKidT n' y (z.cut j) := by
  cases z with
  | mk id k x ks =>
  have hyi : ¬ y.id = j := fun e => hy (e ▸ T.id_mem y)
  have e : T.cutL j ks = T.cutL j (ks.take n) ++ T.cutL j (ks.drop n) := by rw [← T.cutL_append, List.take_append_drop]
  simp only [T.kids] at hn
  simp only [putKidT, T.cut, T.cutL_append, T.cutL, if_neg hyi, T.cut_none j y hy]
  rw [e, hn, List.take_left, List.drop_left]
end Go.Cod

namespace Go.Cod
open Go Go.Proofs
set_option maxRecDepth 10000

/-- What a step makes, at a place of one's own. -/
def edT (s : Stp) (a : Int) (t : T) : T := if s.kind = 1 then t.mapAt s.id (putKidT a.toNat s.node) else if s.kind = 2 then t.cut s.id else t.mapAt s.id (cT (decide (s.kind = 3)) s.text)
theorem doT_ed {t : T} {s : Stp} {y : T} (hok : okT t = true) (h : doT t s = some y) : y = edT s s.at_ t ∧ okT y = true := by
  obtain ⟨hk, ⟨x, hx⟩, _⟩ := doT_kind h
  have hn := ((okT_iff' t).1 hok).2.1
  unfold doT at h
  cases he : editT t s with
  | none => rw [he] at h; cases h
  | some y' =>
    rw [he] at h
    simp only at h
    by_cases ho : okT y' = true
    · rw [if_pos ho] at h
      simp only [Option.some.injEq] at h
      subst h
      refine ⟨?_, ho⟩
      unfold edT
      by_cases h3 : s.kind < 3
      · unfold editT at he
        rw [hx] at he
        simp only at he
        cases hb : bareT s with
        | false => simp [hb] at he
        | true =>
          by_cases k1 : s.kind = 1
          · by_cases hc : 0 ≤ s.at_ ∧ s.at_ ≤ x.kids.length ∧ okT s.node = true
            · rw [if_pos k1]
              simp only [hb, k1, hc, and_self, if_true, Bool.true_eq_false, if_false, Option.some.injEq] at he
              exact he.symm
            · simp [hb, k1, hc] at he
          · have k2 : s.kind = 2 := by omega
            rw [if_neg k1, if_pos k2]
            by_cases hr : s.id = t.id
            · simp [hb, k2, hr] at he
            · rw [hb] at he
              rw [if_neg (by decide), if_neg k1, if_pos k2, if_neg hr] at he
              exact (Option.some.inj he).symm
      · rw [edit_set t s hn h3] at he
        rw [if_neg (by omega), if_neg (by omega)]
        split at he
        · exact (Option.some.inj he).symm
        · cases he
    · rw [if_neg ho] at h; cases h
theorem put_new {t z y : T} {p : Int} {n : Nat} (hn : t.ids.Nodup) (hz : fT t p = some z) (h : okT (t.mapAt p (putKidT n y)) = true) : ∀ i ∈ t.ids, i ∉ y.ids := by
  intro i h1 h2
  have hc := put_count p n y i t z hn hz
  have hn2 := ((okT_iff' _).1 h).2.1
  have := List.nodup_iff_count.1 hn2 i
  have c1 := List.count_pos_iff.2 h1
  have c2 := List.count_pos_iff.2 h2
  omega
theorem two_puts (a b : Nat) (p q z : T) (ha : a ≤ z.kids.length) (hab : a < b) : putKidT (b + 1) q (putKidT a p z) = putKidT a p (putKidT b q z) := by
  cases z with
  | mk id k x ks =>
  simp only [T.kids] at ha
  simp only [putKidT]
  congr 1
  obtain ⟨A, B, rfl, rfl⟩ : ∃ A B : List T, ks = A ++ B ∧ a = A.length := ⟨ks.take a, ks.drop a, (List.take_append_drop a ks).symm, by rw [List.length_take]; omega⟩
  obtain ⟨d, rfl⟩ : ∃ d, b = A.length + d := ⟨b - A.length, by omega⟩
  rw [List.take_left, List.drop_left]
  rw [show A.length + d + 1 = A.length + (d + 1) by omega]
  simp only [List.take_length_add_append, List.drop_length_add_append, List.take_succ_cons, List.drop_succ_cons]
  simp
theorem cutL_take_mem (j : Int) : ∀ (ks : List T) (a : Nat), a ≤ ks.length → (T.idsL ks).Nodup → ((T.cutL j (ks.take a)).length : Int) = a + (if j ∈ (ks.take a).map T.id then -1 else 0)
  | ks, 0, _, _ => by simp [T.cutL]
  | [], a + 1, h, _ => by simp at h
  | t :: ts, a + 1, h, hn => by
    simp only [T.idsL, List.nodup_append] at hn
    have ih := cutL_take_mem j ts a (by simpa using h) hn.2.1
    simp only [List.take_succ_cons, T.cutL, List.map_cons, List.mem_cons]
    by_cases e : t.id = j
    · have hno : j ∉ (ts.take a).map T.id := by
        intro hm
        obtain ⟨k, hk, hk2⟩ := List.mem_map.1 hm
        have hk3 : k.id ∈ T.idsL ts := by
          replace hk := List.mem_of_mem_take hk
          clear ih hn hm hk2 h
          induction ts with
          | nil => cases hk
          | cons b bs ih =>
            simp only [T.idsL, List.mem_append]
            rcases List.mem_cons.1 hk with e | e
            · exact .inl (e ▸ T.id_mem b)
            · exact .inr (ih e)
        exact hn.2.2 t.id (T.id_mem t) k.id hk3 (e.trans hk2.symm)
      rw [if_pos e, if_pos (.inl e.symm), ih, if_neg hno]
      omega
    · rw [if_neg e, List.length_cons]
      have hne : ¬ j = t.id := fun h => e h.symm
      simp only [hne, false_or]
      omega
theorem placeGo_take (j : Int) : ∀ (ks : List T) (a i : Nat), (0 ≤ placeGo j i ks ∧ placeGo j i ks < (i : Int) + a) ↔ j ∈ (ks.take a).map T.id
  | [], a, i => by simp [placeGo]
  | t :: ts, 0, i => by
    have : ∀ (l : List T) (i : Nat), placeGo j i l = -1 ∨ (i : Int) ≤ placeGo j i l := by
      intro l
      induction l with
      | nil => intro i; exact .inl rfl
      | cons t l ih =>
        intro i
        simp only [placeGo]
        split
        · exact .inr (by omega)
        · rcases ih (i + 1) with h | h
          · exact .inl h
          · exact .inr (by omega)
    have := this (t :: ts) i
    simp only [List.take_zero, List.map_nil, List.not_mem_nil, iff_false]
    omega
  | t :: ts, a + 1, i => by
    have ih := placeGo_take j ts a (i + 1)
    simp only [placeGo, List.take_succ_cons, List.map_cons, List.mem_cons]
    by_cases e : t.id = j
    · rw [if_pos e]
      exact ⟨fun _ => .inl e.symm, fun _ => by omega⟩
    · rw [if_neg e]
      have hne : ¬ j = t.id := fun h => e h.symm
      simp only [hne, false_or]
      rw [← ih]
      constructor <;> (intro h; omega)
theorem cutL_take_len (j : Int) (ks : List T) (a : Nat) (ha : a ≤ ks.length) (hn : (T.idsL ks).Nodup) :
    ((T.cutL j (ks.take a)).length : Int) = a + (if 0 ≤ placeGo j 0 ks ∧ placeGo j 0 ks < a then -1 else 0) := by
  rw [cutL_take_mem j ks a ha hn]
  have := placeGo_take j ks a 0
  rw [show ((0 : Nat) : Int) + (a : Int) = a by omega] at this
  congr 1
  simp only [this]
theorem put_cut_turn {t : T} {s u : Stp} (ho : okT t = true) {y1 : T} (d1 : doT t s = some y1) (ks : s.kind = 1) (ku : u.kind = 2) (hu : u.id ∈ t.ids) :
    edT u u.at_ (edT s s.at_ t) = edT s (s.at_ + shiftI t u s) (edT u u.at_ t) := by
  obtain ⟨e1, o1⟩ := doT_ed ho d1
  obtain ⟨_, ⟨z, hz⟩, _⟩ := doT_kind d1
  have hn := ((okT_iff' t).1 ho).2.1
  have hat : 0 ≤ s.at_ ∧ s.at_ ≤ z.kids.length := by
    unfold doT editT at d1
    rw [hz] at d1
    simp only at d1
    cases hb : bareT s with
    | false => simp [hb] at d1
    | true =>
      by_cases hc : 0 ≤ s.at_ ∧ s.at_ ≤ z.kids.length ∧ okT s.node = true
      · exact ⟨hc.1, hc.2.1⟩
      · simp [hb, ks, hc] at d1
  have hd : u.id ∉ s.node.ids := by
    subst e1
    unfold edT at o1
    rw [if_pos ks] at o1
    exact put_new hn hz o1 u.id hu
  have hkd : kidOf t s.id = z := by unfold kidOf; rw [hz]; rfl
  have hzn : (T.idsL z.kids).Nodup := by
    have := (fT_spec t s.id z hz).2.1.nodup hn
    cases z
    simp only [T.ids, List.nodup_cons] at this
    exact this.2
  unfold edT
  rw [if_pos ks, if_pos ks, if_neg (show ¬ u.kind = 1 by omega), if_neg (show ¬ u.kind = 1 by omega), if_pos ku, if_pos ku]
  refine mapAt_cut s.id u.id _ _ (putKidT_id _ _) t z hn hz (put_cut _ _ _ z u.id hd ?_)
  have := cutL_take_len u.id z.kids s.at_.toNat (by omega) hzn
  unfold shiftI
  rw [if_pos ks, if_neg (show ¬ u.kind = 1 by omega), if_pos ku, hkd]
  rw [show ((s.at_.toNat : Nat) : Int) = s.at_ by omega] at this
  rw [← this]
  omega
theorem doT_len {t : T} {s : Stp} {y z : T} (d : doT t s = some y) (ks : s.kind = 1) (hz : fT t s.id = some z) : s.at_ ≤ z.kids.length := by
  unfold doT editT at d
  rw [hz] at d
  simp only at d
  cases hb : bareT s with
  | false => simp [hb] at d
  | true =>
    by_cases hc : 0 ≤ s.at_ ∧ s.at_ ≤ z.kids.length ∧ okT s.node = true
    · exact hc.2.1
    · simp [hb, ks, hc] at d
theorem put_word {t : T} {i j : Int} {n : Nat} {y : T} {p : Bool} {w : List UInt8} (hn : t.ids.Nodup) (hy : j ∉ y.ids) : (t.mapAt i (putKidT n y)).mapAt j (cT p w) = (t.mapAt j (cT p w)).mapAt i (putKidT n y) := by
  by_cases h : i = j
  · subst h
    rw [T.mapAt_comp i _ _ (fun z hz => by rw [putKidT_id]; exact hz) t, T.mapAt_comp i _ _ (fun z hz => by rw [cT_id]; exact hz) t]
    congr 1
    funext z
    cases z; cases p <;> rfl
  · exact mapAt_turn i j _ _ h (lets_put _ _ _ _ hy) (lets_word _ _ _ _) t
theorem over_edit {t : T} {s u : Stp} (h : stepsMeetT t s u = false) : edT u (u.at_ + shiftI t s u) (edT s s.at_ t) = edT s (s.at_ + shiftI t u s) (edT u u.at_ t) := by
  obtain ⟨ho, ⟨y1, d1⟩, ⟨y2, d2⟩, hm⟩ := meet_no h
  obtain ⟨e1, o1⟩ := doT_ed ho d1
  obtain ⟨e2, o2⟩ := doT_ed ho d2
  obtain ⟨k1, ⟨z1, hz1⟩, _⟩ := doT_kind d1
  obtain ⟨k2, ⟨z2, hz2⟩, _⟩ := doT_kind d2
  have hn := ((okT_iff' t).1 ho).2.1
  have i1 := fT_mem hz1
  have i2 := fT_mem hz2
  have n1 : s.kind = 1 → ∀ i ∈ t.ids, i ∉ s.node.ids := fun k => by
    subst e1; unfold edT at o1; rw [if_pos k] at o1; exact put_new hn hz1 o1
  have n2 : u.kind = 1 → ∀ i ∈ t.ids, i ∉ u.node.ids := fun k => by
    subst e2; unfold edT at o2; rw [if_pos k] at o2; exact put_new hn hz2 o2
  have hS : sameS s u = false := by unfold meetT at hm; simp only [Bool.or_eq_false_iff] at hm; exact hm.2
  have a1 := doT_at ho d1
  have a2 := doT_at ho d2
  rcases Decidable.em (s.kind = 1) with ks | ks
  · rcases Decidable.em (u.kind = 1) with ku | ku
    · have hsh : ∀ a b : Stp, a.kind = 1 → b.kind = 1 → shiftI t a b = if a.id = b.id ∧ a.at_ < b.at_ then 1 else 0 := fun a b ha hb => by
        unfold shiftI; rw [if_pos hb, if_pos ha]
      unfold edT
      rw [if_pos ks, if_pos ks, if_pos ku, if_pos ku, hsh s u ks ku, hsh u s ku ks]
      by_cases hid : s.id = u.id
      · have hat : s.at_ ≠ u.at_ := by
          intro e
          unfold sameS at hS
          rw [if_pos (ks.trans ku.symm), if_pos ks] at hS
          simp [hid, e] at hS
        have hz : z1 = z2 := by rw [hid, hz2] at hz1; exact (Option.some.inj hz1).symm
        rw [hid]
        rw [T.mapAt_comp u.id _ _ (fun w hw => by rw [putKidT_id]; exact hw) t, T.mapAt_comp u.id _ _ (fun w hw => by rw [putKidT_id]; exact hw) t]
        refine T.mapAt_at u.id _ _ t z2 hn hz2 ?_
        have b1 : s.at_ ≤ z2.kids.length := by rw [← hz]; exact doT_len d1 ks hz1
        have b2 : u.at_ ≤ z2.kids.length := doT_len d2 ku hz2
        rcases Int.lt_or_gt_of_ne hat with hlt | hlt
        · rw [if_pos ⟨rfl, hlt⟩, if_neg (fun h => by omega)]
          have := two_puts s.at_.toNat u.at_.toNat s.node u.node z2 (by omega) (by omega)
          rw [show (u.at_ + 1).toNat = u.at_.toNat + 1 by omega, show s.at_ + 0 = s.at_ by omega]
          exact this
        · rw [if_neg (fun h => by omega), if_pos ⟨rfl, hlt⟩]
          have := two_puts u.at_.toNat s.at_.toNat u.node s.node z2 (by omega) (by omega)
          rw [show (s.at_ + 1).toNat = s.at_.toNat + 1 by omega, show u.at_ + 0 = u.at_ by omega]
          exact this.symm
      · rw [if_neg (fun h => hid h.1), if_neg (fun h => hid h.1.symm), Int.add_zero, Int.add_zero]
        exact mapAt_turn s.id u.id _ _ hid (lets_put _ _ _ _ (n1 ks _ i2)) (lets_put _ _ _ _ (n2 ku _ i1)) t
    · rcases Decidable.em (u.kind = 2) with kc | kc
      · have e0 : shiftI t s u = 0 := by unfold shiftI; rw [if_neg ku]
        rw [e0, Int.add_zero]
        exact put_cut_turn ho d1 ks kc i2
      · have e0 : shiftI t s u = 0 := by unfold shiftI; rw [if_neg ku]
        have e3 : shiftI t u s = 0 := by unfold shiftI; rw [if_pos ks, if_neg ku, if_neg kc]
        rw [e0, e3, Int.add_zero, Int.add_zero]
        unfold edT
        rw [if_pos ks, if_pos ks, if_neg ku, if_neg ku, if_neg kc, if_neg kc]
        exact put_word hn (n1 ks _ i2)
  · rcases Decidable.em (u.kind = 1) with ku | ku
    · rcases Decidable.em (s.kind = 2) with kc | kc
      · have e0 : shiftI t u s = 0 := by unfold shiftI; rw [if_neg ks]
        rw [e0, Int.add_zero]
        exact (put_cut_turn ho d2 ku kc i1).symm
      · have e0 : shiftI t u s = 0 := by unfold shiftI; rw [if_neg ks]
        have e3 : shiftI t s u = 0 := by unfold shiftI; rw [if_pos ku, if_neg ks, if_neg kc]
        rw [e0, e3, Int.add_zero, Int.add_zero]
        unfold edT
        rw [if_neg ks, if_neg ks, if_pos ku, if_pos ku, if_neg kc, if_neg kc]
        exact (put_word hn (n2 ku _ i1)).symm
    · have e0 : shiftI t u s = 0 := by unfold shiftI; rw [if_neg ks]
      have e3 : shiftI t s u = 0 := by unfold shiftI; rw [if_neg ku]
      rw [e0, e3, Int.add_zero, Int.add_zero]
      unfold edT
      rw [if_neg ks, if_neg ks, if_neg ku, if_neg ku]
      rcases Decidable.em (s.kind = 2) with kc | kc
      · rcases Decidable.em (u.kind = 2) with kd | kd
        · rw [if_pos kc, if_pos kc, if_pos kd, if_pos kd]
          exact cut_cut s.id u.id t
        · rw [if_pos kc, if_pos kc, if_neg kd, if_neg kd]
          exact (mapAt_cut u.id s.id _ _ (cT_id _ _) t z2 hn hz2 (cT_cut _ _ _ _)).symm
      · rcases Decidable.em (u.kind = 2) with kd | kd
        · rw [if_neg kc, if_neg kc, if_pos kd, if_pos kd]
          exact mapAt_cut s.id u.id _ _ (cT_id _ _) t z1 hn hz1 (cT_cut _ _ _ _)
        · rw [if_neg kc, if_neg kc, if_neg kd, if_neg kd]
          refine set_turn s.id u.id _ _ _ _ ?_ t
          rintro ⟨q1, q2⟩
          have hkk : s.kind = u.kind := by
            have := decide_eq_decide.1 q2
            omega
          unfold sameS at hS
          rw [if_pos hkk, if_neg ks] at hS
          simp [q1] at hS
def lat (t : T) (s u : Stp) : Stp := ⟨u.kind, u.id, u.at_ + shiftI t s u, u.node, u.text⟩
theorem under_no {t g : T} {s u : Stp} (h : stepsMeetT t s u = false) (ks : s.kind = 2) (hg : fT t s.id = some g) : u.id ∉ g.ids := by
  obtain ⟨_, _, _, hm⟩ := meet_no h
  unfold meetT oneT underT at hm
  simp only [Bool.or_eq_false_iff] at hm
  have := hm.1.1
  rw [ks, hg] at this
  simpa using this
theorem over_done {t : T} {s u : Stp} (h : stepsMeetT t s u = false) (ks : ¬ s.kind = 1) (ku : ¬ u.kind = 1) {y1 : T} (d1 : doT t s = some y1) : ∃ y, doT y1 (lat t s u) = some y := by
  obtain ⟨ho, _, ⟨y2, d2⟩, _⟩ := meet_no h
  have hl : lat t s u = u := by
    have e3 : shiftI t s u = 0 := by unfold shiftI; rw [if_neg ku]
    unfold lat
    rw [e3, Int.add_zero]
  rw [hl]
  obtain ⟨e1, o1⟩ := doT_ed ho d1
  obtain ⟨k1, ⟨z1, hz1⟩, _⟩ := doT_kind d1
  obtain ⟨k2, ⟨z2, hz2⟩, _⟩ := doT_kind d2
  have hn := ((okT_iff' t).1 ho).2.1
  have i2 := fT_mem hz2
  have root : ∀ {s : Stp} {y : T}, doT t s = some y → s.kind = 2 → ¬ s.id = t.id := fun {s y} d k e => by
    obtain ⟨_, ⟨z, hz⟩, _⟩ := doT_kind d
    unfold doT editT at d
    rw [hz] at d
    simp [k, e] at d
  have hid : y1.id = t.id := by
    rw [e1]; unfold edT; rw [if_neg ks]
    split
    · exact cut_id _ _
    · exact mapAt_id _ _ (cT_id _ _) _
  have hin : u.id ∈ y1.ids := by
    rw [e1]; unfold edT; rw [if_neg ks]
    by_cases kc : s.kind = 2
    · rw [if_pos kc]
      obtain ⟨k, x, hk⟩ := T.mem_hd i2
      have := (cut_hd s.id t z1 hn (fun e => root d1 kc e.symm) hz1).1 _ hk (under_no h kc hz1)
      exact T.hd_mem this
    · rw [if_neg kc, set_ids]; exact i2
  by_cases kd : u.kind = 2
  · obtain ⟨z, hz⟩ := fT_of_mem hin
    have hb : bareT u = true := by
      cases hb : bareT u with
      | true => rfl
      | false => unfold doT editT at d2; rw [hz2] at d2; simp [hb] at d2
    refine ⟨y1.cut u.id, ?_⟩
    unfold doT editT
    rw [hz]
    simp only [hb]
    rw [if_neg (by decide), if_neg ku, if_pos kd, hid, if_neg (root d2 kd)]
    simp only
    rw [if_pos (okT_cut o1 _)]
  · have h3 : ¬ u.kind < 3 := by omega
    obtain ⟨a1, a2, a3, a4, a5⟩ := (do_set ho h3).1 d2
    exact ⟨_, (do_set o1 h3).2 ⟨hin, a2, a3, a4, rfl⟩⟩
theorem over_both {t : T} {s u : Stp} (h : stepsMeetT t s u = false) {A B : T} {a b : Bool} (hA : stepsT t [s, lat t s u] = (A, a)) (hB : stepsT t [u, lat t u s] = (B, b)) :
    (¬ s.kind = 1 → ¬ u.kind = 1 → a = true ∧ b = true) ∧ (a = true → b = true → A = B) := by
  obtain ⟨ho, ⟨y1, d1⟩, ⟨y2, d2⟩, _⟩ := meet_no h
  have h' : stepsMeetT t u s = false := by rw [stepsMeetT_comm]; exact h
  obtain ⟨e1, o1⟩ := doT_ed ho d1
  obtain ⟨e2, o2⟩ := doT_ed ho d2
  unfold stepsT at hA hB
  rw [if_pos ho] at hA hB
  simp only [goT, d1, d2] at hA hB
  refine ⟨fun ks ku => ⟨?_, ?_⟩, fun ha hb => ?_⟩
  · obtain ⟨y, hy⟩ := over_done h ks ku d1
    rw [hy] at hA
    simp at hA
    exact hA.2
  · obtain ⟨y, hy⟩ := over_done h' ku ks d2
    rw [hy] at hB
    simp at hB
    exact hB.2
  · subst ha; subst hb
    cases hx : doT y1 (lat t s u) with
    | none => rw [hx] at hA; simp at hA
    | some a =>
      cases hy : doT y2 (lat t u s) with
      | none => rw [hy] at hB; simp at hB
      | some b =>
        rw [hx] at hA
        rw [hy] at hB
        simp only [Prod.mk.injEq, and_true] at hA hB
        have q1 := (doT_ed o1 hx).1
        have q2 := (doT_ed o2 hy).1
        rw [← hA, ← hB, q1, q2, e1, e2]
        exact over_edit h
end Go.Cod

namespace Go.Cod
open Go Go.Proofs Go.ChangeShapes Go.WideShapes Go.ChangeAt Go.RowKit
set_option maxRecDepth 10000

theorem ownK : ownKnob Try.prog.godebug = none := by kernel_rfl
def byteOf : List V → UInt8
  | [.int _ i] => UInt8.ofNat i.toNat
  | _ => 0
theorem argBytes {H : Type} {enc : TypeId × Value → H} {W : World} : ReadsA enc Try.prog W 22 fun x => ∃ bs : List UInt8, x = .sl (brows bs) := by
  intro base v d p hv h
  obtain ⟨x, ⟨es, hx, _, hr⟩, hrep⟩ := readsA_slice (S := fun vs => ∃ es, vs = [.sl es] ∧ es.length ≤ maxLen ∧ ∀ r ∈ es, (∃ i, r = [.int .u8 i] ∧ IntKind.u8.min ≤ i ∧ i ≤ IntKind.u8.max) ∧ r.length = Try.prog.cellsOf 5 ∧ (∀ v ∈ r, v.leaf = true) ∧ V.clean.cleanL 0 r = true)
    Try.underlying22 (fun n => reads_slice Try.underlying22 (by decide +kernel) fun m _ => reads_int Try.underlying5) base v d p hv h
  cases hx
  refine ⟨_, ⟨es.map byteOf, ?_⟩, hrep⟩
  congr 1
  rw [brows, List.map_map]
  refine (List.map_id es).symm.trans (List.map_congr_left fun r hr' => ?_)
  obtain ⟨⟨i, rfl, h1, h2⟩, _⟩ := hr r hr'
  have h1 : 0 ≤ i := h1
  have h2 : i ≤ 255 := h2
  simp only [id_eq, Function.comp, byteOf, cellB]
  congr 2
  simp only [UInt8.toNat_ofNat']
  omega
end Go.Cod

namespace Go.Cod
open Go Go.Proofs Go.ChangeShapes Go.WideShapes Go.ChangeAt Go.RowKit
set_option maxRecDepth 10000

theorem overP_no {t : T} {s u : Stp} (h : stepsMeetT t s u = false) : overP t s u = (lat t s u, true) := by
  unfold overP lat
  rw [if_neg (by rw [h]; decide)]
theorem overP_yes {t : T} {s u : Stp} (h : stepsMeetT t s u = true) : overP t s u = (SZ, false) := by
  unfold overP
  rw [if_pos h]
theorem drawStepOver_pure (bs : List UInt8) (hb : bs.length ≤ 1048576) : Pure Try.prog 10 [.sl (brows bs)] DrawRM := by
  have f1 := drawStepsMeet_pure bs hb
  generalize brows bs = R at *
  refine pure_of_awp good Try.func10 rfl (by kernel_rfl) (by decide) ?_
  conv => whnf
  refine .inl (f1.mono ?_)
  rintro r ⟨t, s, u, h1, h2, h3, h4, rfl⟩
  have hf : DrawRM (.tup [.agg t.cells, .agg s.cells, .agg u.cells]) := ⟨t, s, u, h1, h2, h3, h4, rfl⟩
  obtain ⟨ti, tk, tx, tks⟩ := t
  obtain ⟨skind, sid, sat, ⟨ni, nk, nx, nks⟩, stext⟩ := s
  obtain ⟨ukind, uid, uat, ⟨mi, mk, mx, mks⟩, utext⟩ := u
  conv => whnf
  exact hf
theorem wcStep_refl (s : Stp) (hs : s.node.Small) : Pure Try.prog 13 [.agg s.cells, .agg s.cells] (· = .bool true) := by
  have f1 := wcTree_refl s.node hs
  simp only [Stp.cells]
  obtain ⟨kind, sid, at_, ⟨ni, nk, nx, nks⟩, text⟩ := s
  show Pure Try.prog _ [.agg [.int .i64 kind, .int .i64 sid, .int .i64 at_, .int .i64 ni, .str nk, .str nx, .sl (T.rows nks), .str text], .agg [.int .i64 kind, .int .i64 sid, .int .i64 at_, .int .i64 ni, .str nk, .str nx, .sl (T.rows nks), .str text]] _
  refine pure_of_awp good Try.func13 rfl (by kernel_rfl) (by decide) ?_
  conv => whnf
  rw [eqB_refl]
  conv => whnf
  rw [eqB_refl]
  conv => whnf
  rw [eqB_refl]
  conv => whnf
  rw [eqS_refl]
  conv => whnf
  refine .inl (f1.mono ?_)
  rintro r rfl
  conv => whnf
theorem SZ_small : SZ.node.Small := TZ_small
set_option maxHeartbeats 16000000 in
theorem law_fnStepOver (bs : List UInt8) : Pure Try.prog 4 [.sl (brows bs)] (· = .bool true) := by
  have hl := brows_len bs
  have hd := drawStepOver_pure bs
  refine pure_of_box good Try.func4 rfl (by kernel_rfl) (by decide) fun A hA => ?_
  generalize brows bs = R at *
  conv => whnf
  refine box_go hA ?_
  conv => whnf
  refine box_go hA ?_
  conv => whnf
  by_cases a : 1048576 < R.length
  · rw [ltB_t (by omega)]
    conv => whnf
    refine box_go hA ?_
    conv => whnf
  rw [ltB_f (by omega)]
  conv => whnf
  refine box_with hA [(0, .sl R)] ⟨rfl, trivial⟩ fun fr => ?_
  conv => whnf
  refine .inl ((hd (by omega)).mono ?_)
  rintro r ⟨t, s, u, s1, s2, ⟨d1, d2, d3⟩, ⟨g1, g2, g3⟩, rfl⟩
  have hid := T.ids_size t
  have i1 := implStepOver_pure t s1 s u d1 g1 (by omega) (by omega)
  have i2 := specStepOver_pure t s1 (by omega) s u d1 g1 (by omega) (by omega) (by omega) (by omega)
  have i3 := implStepsMeet_pure t s1 s u d1 g1 (by omega) (by omega)
  have i4 := implStepOver_pure t s1 u s g1 d1 (by omega) (by omega)
  have heq : ∀ b : Bool, (!(b == b)) = false := by decide
  clear hd hl a
  cases hm : stepsMeetT t s u with
  | true =>
    rw [overP_yes hm] at i1 i2
    rw [hm] at i3
    have w1 := wcStep_refl SZ SZ_small
    clear i4
    obtain ⟨skind, sid, sat, ⟨ni, nk, nx, nks⟩, stext⟩ := s
    obtain ⟨ukind, uid, uat, ⟨mi, mk, mx, mks⟩, utext⟩ := u
    obtain ⟨ti, tk, tx, tks⟩ := t
    clear hm hid s1 s2 d1 d2 d3 g1 g2 g3
    conv => whnf
    refine box_with hA [(3, .ptr 0 0 0), (4, .ptr 1 0 0), (5, .ptr 2 0 0)] ⟨rfl, rfl, rfl, trivial⟩ fun fr => ?_
    conv => whnf
    refine .inl (i1.mono ?_)
    rintro r rfl
    conv => whnf
    refine box_with hA [(3, .ptr 0 0 0), (4, .ptr 1 0 0), (5, .ptr 2 0 0), (6, .ptr 3 0 0), (7, .bool false)] ⟨rfl, rfl, rfl, rfl, rfl, trivial⟩ fun fr => ?_
    conv => whnf
    refine .inl (i2.mono ?_)
    rintro r rfl
    conv => whnf
    refine box_with hA [(3, .ptr 0 0 0), (4, .ptr 1 0 0), (5, .ptr 2 0 0), (6, .ptr 3 0 0), (7, .bool false), (8, .ptr 4 0 0), (9, .bool false)] ⟨rfl, rfl, rfl, rfl, rfl, rfl, rfl, trivial⟩ fun fr => ?_
    conv => whnf
    refine .inl (w1.mono ?_)
    rintro r rfl
    conv => whnf
    refine .inl (i3.mono ?_)
    rintro r rfl
    conv => whnf
    refine box_go hA ?_
    conv => whnf
    refine box_go hA ?_
    conv => whnf
  | false =>
    have hm' : stepsMeetT t u s = false := by rw [stepsMeetT_comm]; exact hm
    rw [overP_no hm] at i1 i2
    rw [overP_no hm'] at i4
    rw [hm] at i3
    have w1 := wcStep_refl (lat t s u) (show (lat t s u).node.Small from g1)
    have hS : ∀ x ∈ [s, lat t s u], x.Sm := by
      intro x hx
      simp only [List.mem_cons, List.not_mem_nil, or_false] at hx
      rcases hx with rfl | rfl
      · exact ⟨d1, by omega, by omega⟩
      · exact ⟨g1, show u.node.size ≤ _ by omega, show u.text.length ≤ _ by omega⟩
    have hU : ∀ x ∈ [u, lat t u s], x.Sm := by
      intro x hx
      simp only [List.mem_cons, List.not_mem_nil, or_false] at hx
      rcases hx with rfl | rfl
      · exact ⟨g1, by omega, by omega⟩
      · exact ⟨d1, show s.node.size ≤ _ by omega, show s.text.length ≤ _ by omega⟩
    have i5 := implStepsDo_pure _ _ s1 hS (by simp)
    have i6 := implStepsDo_pure _ _ s1 hU (by simp)
    have z5 := stepsT_small s1 hS
    have hb := fun {A B a b} => over_both (A := A) (B := B) (a := a) (b := b) hm
    generalize hA1 : stepsT t [s, lat t s u] = ra at *
    generalize hB1 : stepsT t [u, lat t u s] = rb at *
    obtain ⟨A1, pa⟩ := ra
    obtain ⟨B1, pb⟩ := rb
    have hb := hb rfl rfl
    have wy := wcTree_refl A1 z5
    simp only at i5 i6
    generalize lat t s u = xs at *
    generalize lat t u s = ys at *
    clear hA1 hB1 hS hU hm hm' z5
    obtain ⟨xkind, xid, xat, ⟨xni, xnk, xnx, xnks⟩, xtext⟩ := xs
    obtain ⟨ykind, yid, yat, ⟨yni, ynk, ynx, ynks⟩, ytext⟩ := ys
    obtain ⟨skind, sid, sat, ⟨ni, nk, nx, nks⟩, stext⟩ := s
    obtain ⟨ukind, uid, uat, ⟨mi, mk, mx, mks⟩, utext⟩ := u
    obtain ⟨ti, tk, tx, tks⟩ := t
    obtain ⟨ai, ak, ax, aks⟩ := A1
    obtain ⟨bi, bk, bx, bks⟩ := B1
    clear hid s1 s2 d1 d2 d3 g1 g2 g3
    conv => whnf
    refine box_with hA [(3, .ptr 0 0 0), (4, .ptr 1 0 0), (5, .ptr 2 0 0)] ⟨rfl, rfl, rfl, trivial⟩ fun fr => ?_
    conv => whnf
    refine .inl (i1.mono ?_)
    rintro r rfl
    conv => whnf
    refine box_with hA [(3, .ptr 0 0 0), (4, .ptr 1 0 0), (5, .ptr 2 0 0), (6, .ptr 3 0 0), (7, .bool true)] ⟨rfl, rfl, rfl, rfl, rfl, trivial⟩ fun fr => ?_
    conv => whnf
    refine .inl (i2.mono ?_)
    rintro r rfl
    conv => whnf
    refine box_with hA [(3, .ptr 0 0 0), (4, .ptr 1 0 0), (5, .ptr 2 0 0), (6, .ptr 3 0 0), (7, .bool true), (8, .ptr 4 0 0), (9, .bool true)] ⟨rfl, rfl, rfl, rfl, rfl, rfl, rfl, trivial⟩ fun fr => ?_
    conv => whnf
    refine .inl (w1.mono ?_)
    rintro r rfl
    conv => whnf
    refine .inl (i3.mono ?_)
    rintro r rfl
    conv => whnf
    refine box_with hA [(3, .ptr 0 0 0), (4, .ptr 1 0 0), (5, .ptr 2 0 0), (6, .ptr 3 0 0), (7, .bool true)] ⟨rfl, rfl, rfl, rfl, rfl, trivial⟩ fun fr => ?_
    conv => whnf
    refine box_with hA [(3, .ptr 0 0 0), (4, .ptr 1 0 0), (5, .ptr 2 0 0), (6, .ptr 3 0 0), (7, .bool true)] ⟨rfl, rfl, rfl, rfl, rfl, trivial⟩ fun fr => ?_
    conv => whnf
    refine .inl (i4.mono ?_)
    rintro r rfl
    conv => whnf
    refine box_with hA [(3, .ptr 0 0 0), (4, .ptr 1 0 0), (5, .ptr 2 0 0), (6, .ptr 3 0 0), (10, .ptr 5 0 0), (11, .bool true)] ⟨rfl, rfl, rfl, rfl, rfl, rfl, trivial⟩ fun fr => ?_
    conv => whnf
    refine ⟨[], false, ?_⟩
    conv => whnf
    refine Full.mono i5 ?_
    rintro o st' ⟨rfl, r, rfl, rfl⟩
    conv => whnf
    refine box_with hA [(3, .ptr 0 0 0), (4, .ptr 1 0 0), (5, .ptr 2 0 0), (10, .ptr 5 0 0), (11, .bool true), (12, .ptr 7 0 0), (13, .bool pa)] ⟨rfl, rfl, rfl, rfl, rfl, rfl, rfl, trivial⟩ fun fr => ?_
    conv => whnf
    refine ⟨[], false, ?_⟩
    conv => whnf
    refine Full.mono i6 ?_
    rintro o st' ⟨rfl, r, rfl, rfl⟩
    conv => whnf
    refine box_with hA [(3, .ptr 0 0 0), (4, .ptr 1 0 0), (5, .ptr 2 0 0), (11, .bool true), (12, .ptr 7 0 0), (13, .bool pa), (14, .ptr 9 0 0), (15, .bool pb)] ⟨rfl, rfl, rfl, rfl, rfl, rfl, rfl, rfl, trivial⟩ fun fr => ?_
    conv => whnf
    by_cases ks : skind = 1
    · rw [eqB_t ks]
      conv => whnf
      refine box_with hA [(11, .bool true), (12, .ptr 7 0 0), (13, .bool pa), (14, .ptr 9 0 0), (15, .bool pb)] ⟨rfl, rfl, rfl, rfl, rfl, trivial⟩ fun fr => ?_
      conv => whnf
      cases pa with
      | false => conv => whnf
      | true =>
        conv => whnf
        cases pb with
        | false => conv => whnf
        | true =>
          have he := hb.2 rfl rfl
          cases he
          conv => whnf
          refine .inl (wy.mono ?_)
          rintro r rfl
          conv => whnf
    · rw [eqB_f ks]
      conv => whnf
      by_cases ku : ukind = 1
      · rw [eqB_t ku]
        conv => whnf
        refine box_with hA [(11, .bool true), (12, .ptr 7 0 0), (13, .bool pa), (14, .ptr 9 0 0), (15, .bool pb)] ⟨rfl, rfl, rfl, rfl, rfl, trivial⟩ fun fr => ?_
        conv => whnf
        cases pa with
        | false => conv => whnf
        | true =>
          conv => whnf
          cases pb with
          | false => conv => whnf
          | true =>
            have he := hb.2 rfl rfl
            cases he
            conv => whnf
            refine .inl (wy.mono ?_)
            rintro r rfl
            conv => whnf
      · rw [eqB_f ku]
        obtain ⟨q1, q2⟩ := hb.1 ks ku
        have q1 : pa = true := q1
        have q2 : pb = true := q2
        subst q1; subst q2
        conv => whnf
        refine box_with hA [(11, .bool true), (12, .ptr 7 0 0), (13, .bool true), (14, .ptr 9 0 0), (15, .bool true)] ⟨rfl, rfl, rfl, rfl, rfl, trivial⟩ fun fr => ?_
        conv => whnf
        have he := hb.2 rfl rfl
        cases he
        refine .inl (wy.mono ?_)
        rintro r rfl
        conv => whnf
theorem lawFnStepOver (bs : List UInt8) : Pure Try.prog 4 [.sl (brows bs)] (· = .bool true) := law_fnStepOver bs
theorem conFnStepOver (H : Type) (enc : TypeId × Value → H) (W : World) (base : Nat) (args : Array Value) (ds gs : List (DataW H)) (before : List MemPlace)
    (hval : ∀ (j : Nat) t v, Try.f4.params[j]? = some t → args[j]? = some v → Value.okWide Try.prog W .any base t v)
    (hW : DataW.Whole enc Try.prog Try.f4.params.toList Ytbmgokdfgkfmfaa.Rows.fnStepOverSpec.vars false W args.toList ds gs before) {fresh handsOn again : Bool} :
    Calls Try.prog 4 args W fun e W' => ∃ v, e = .returned v ∧ Ytbmgokdfgkfmfaa.Rows.fnStepOverSpec.post enc Try.prog Try.f4 false fresh handsOn again W args v W' := by
  refine law_calls kids full (tb := 4) rfl Try.underlying4 (by decide +kernel) rfl hW (fun ds h => by match ds, h with | [_], _ => exact ⟨rfl, rfl, rfl⟩) hval
    (Ss := [fun x => ∃ bs : List UInt8, x = .sl (brows bs)]) laid0 ?_ ?_
  · rw [Try.params4]
    exact ⟨argBytes, trivial⟩
  · intro xs h
    obtain ⟨_, rfl, ⟨t0, rfl⟩⟩ := hold1 h
    exact lawFnStepOver t0

set_option maxRecDepth 100000 in
theorem overFnStepOver : Ytbmgokdfgkfmfaa.Rows.FnStepOverSaid :=
  OpenClaim.holds_of_wide 4 Try.f4 rfl rfl rfl rfl rfl rfl rfl ⟨rfl, rfl, rfl, rfl, rfl⟩ rfl rfl rfl rfl rfl (by kernel_rfl) Try.func4 (by kernel_rfl)
    (of_decide_eq_true (by kernel_rfl)) (by unfold Func.isWrapper; first | (rw [if_pos (by decide +kernel)]; kernel_rfl) | (rw [if_neg (by decide +kernel)]; exact ⟨rfl, rfl⟩))
    (fun os started H enc _ => returnsInHanded_of_change ownK started (by kernel_rfl) Try.func4
      (ChangeSpec.witness6 (enc := enc) (C := Try.checked) false ⟨#[], #[.slice none 0 0], []⟩ 8 (by kernel_rfl) (by kernel_rfl) (by kernel_rfl) (by kernel_rfl))
      (fun W base args ds gs before hval hW _ _ => conFnStepOver H enc W base args ds gs before hval hW))
end Go.Cod

