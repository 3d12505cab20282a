/- Own texts. -/
import Derived.WalkKit
import Derived.ProofKit
import Derived.Test.YthcbmohjmgpkiaaCodF
namespace Go.Cod
open Go Go.Proofs
set_option maxRecDepth 10000

/-- What a step leaves, in one's own memory. -/
def StepR (r : T × Bool) (o : Out) (st' : St) : Prop := ∃ (l : LT) (es : List (List V)), l.erase = r.1 ∧ l.Wf ∧ (∀ e ∈ l.ents, e ∈ es) ∧ (l.ents.map labOf).Nodup ∧ o = .ret (.tup [.agg l.cells, .bool r.2]) ∧ st' = [poolO es]
theorem stepT_yes {t : T} {s : Stp} (h : okT t = true) (hd : deedOk s = true) : stepT t s = (((deedT t s).bind okO).getD t, ((deedT t s).bind okO).isSome) := by
  unfold stepT
  rw [if_pos h, doT_bind, ← deed_edit h s hd]
  cases (deedT t s).bind okO <;> rfl
theorem stepT_no {t : T} {s : Stp} (h : okT t = true) (hd : deedOk s = false) : stepT t s = (t, false) := by
  unfold stepT
  rw [if_pos h, doT_none (deed_no hd)]
theorem stepT_bad {t : T} {s : Stp} (h : okT t = false) : stepT t s = (TZ, false) := by
  unfold stepT
  rw [if_neg (by rw [h]; simp)]
theorem stepDo_bad (t : T) (s : Stp) (ht : t.Small) (hok : okT t = false) : Full Try.prog noY 18 [.agg t.cells, .agg s.cells] [poolO []] (StepR (stepT t s)) := by
  have f1 := implTreeOk t ht
  rw [hok] at f1
  rw [stepT_bad hok]
  simp only [Stp.cells]
  cases s with
  | mk kind sid at_ node text =>
  cases node with
  | mk nid nk nx nks =>
  cases t with
  | mk tid tk tx tks =>
  refine full_of_awp good Try.func18 rfl (by kernel_rfl) (by decide) ?_
  conv => whnf
  refine .inl (f1.mono ?_)
  rintro r rfl
  conv => whnf
  refine ⟨[], true, ?_⟩
  conv => whnf
  exact ⟨.mk 0 [] [] none [], [], rfl, ⟨fun _ => rfl, trivial⟩, by simp [LT.ents, LT.entsL, rootE], by simp [LT.ents, LT.entsL, rootE], rfl, rfl⟩
theorem stepDo_no (t : T) (s : Stp) (ht : t.Small) (hs : s.node.Small) (hok : okT t = true) (hd : deedOk s = false) : Full Try.prog noY 18 [.agg t.cells, .agg s.cells] [poolO []] (StepR (stepT t s)) := by
  have f1 := implTreeOk t ht
  have f2 := stepDeedOf_pure s hs
  have hcp := (treeCopy_acc t ht []).givenEnd
  rw [hok] at f1
  rw [hd] at f2
  rw [stepT_no hok hd]
  have hdv : deedV s = .iface 115 (.agg ([.int .i64 s.id, .int .i64 s.at_] ++ s.node.cells)) ∨ deedV s = .iface 117 (.agg [.int .i64 s.id]) ∨ deedV s = .iface 119 (.agg [.int .i64 s.id, .str s.text]) ∨ deedV s = .iface 121 (.agg [.int .i64 s.id, .str s.text]) ∨ deedV s = .raw .nilIface := by
    unfold deedV
    split
    · exact .inl rfl
    split
    · exact .inr (.inl rfl)
    split
    · exact .inr (.inr (.inl rfl))
    split
    · exact .inr (.inr (.inr (.inl rfl)))
    · exact .inr (.inr (.inr (.inr rfl)))
  generalize deedV s = dv at *
  simp only [Stp.cells] at f2 ⊢
  cases s with
  | mk kind sid at_ node text =>
  cases node with
  | mk nid nk nx nks =>
  cases t with
  | mk tid tk tx tks =>
  refine full_of_awp good Try.func18 rfl (by kernel_rfl) (by decide) ?_
  conv => whnf
  refine .inl (f1.mono ?_)
  rintro r rfl
  conv => whnf
  refine .inl (f2.mono ?_)
  rintro r rfl
  rcases hdv with rfl | rfl | rfl | rfl | rfl
  all_goals
    conv => whnf
    refine .inr (.inl ⟨[0], true, ?_⟩)
    conv => whnf
    refine hcp.mono ?_
    rintro o st' ⟨⟨l, l1, l2, rfl, rfl⟩, hl⟩
    have hn := hl.nodup (k := 0) rfl
    rw [List.nil_append] at hn ⊢
    obtain ⟨es, hes⟩ : ∃ es, es = l.ents := ⟨_, rfl⟩
    have hin : ∀ e ∈ l.ents, e ∈ es := fun e he => hes ▸ he
    rw [← hes] at ⊢
    cases l with
    | mk gid gk gx gh gks =>
    rcases gh with _ | ⟨gb, gc⟩
    all_goals
      conv => whnf
      refine ⟨[], true, ?_⟩
      conv => whnf
      exact ⟨_, es, l1, l2, hin, hn, rfl, rfl⟩
theorem stepDo_put (t : T) (s : Stp) (ht : t.Small) (hs : s.node.Small) (htx : s.text.length ≤ 1048576) (hok : okT t = true) (hd : deedOk s = true) (hk : s.kind = 1) : Full Try.prog noY 18 [.agg t.cells, .agg s.cells] [poolO []] (StepR (stepT t s)) := by
  have f1 := implTreeOk t ht
  have f2 := stepDeedOf_pure s hs
  have h20 := okT_size hok
  have hdT : deedT t s = putT t s.id s.at_ s.node := by unfold deedT; rw [if_pos hk]
  have hdv : deedV s = .iface 115 (.agg ([.int .i64 s.id, .int .i64 s.at_] ++ s.node.cells)) := by unfold deedV; rw [if_pos hk]
  have hsm : ∀ y, putT t s.id s.at_ s.node = some y → y.Small := fun y h => editT_small ht (by omega) hs htx (by rw [← deed_edit hok s hd, hdT]; exact h)
  have f3 := changed_put t ht s.id s.at_ s.node _ hsm fun l es h1 h2 h3 h4 => by have := putDo l h2 s.id s.at_ s.node hs es h3 h4 (by rw [h1]; omega); rwa [h1] at this
  rw [stepT_yes hok hd]
  rw [hok] at f1
  rw [hd, hdv] at f2
  rw [← hdT] at f3
  generalize (deedT t s).bind okO = d at *
  simp only [Stp.cells] at f2 ⊢
  cases s with
  | mk kind sid at_ node text =>
  cases node with
  | mk nid nk nx nks =>
  cases t with
  | mk tid tk tx tks =>
  refine full_of_awp good Try.func18 rfl (by kernel_rfl) (by decide) ?_
  conv => whnf
  refine .inl (f1.mono ?_)
  rintro r rfl
  conv => whnf
  refine .inl (f2.mono ?_)
  rintro r rfl
  conv => whnf
  repeat (refine And.intro (by
            (conv => whnf)
            rfl) ?_
          conv => whnf)
  refine .inr (.inl ⟨[0], true, ?_⟩)
  conv => whnf
  refine f3.mono ?_
  rintro o st' ⟨l, es, l1, l2, l3, l4, rfl, rfl⟩
  cases l with
  | mk gid gk gx gh gks =>
  rcases gh with _ | ⟨gb, gc⟩
  all_goals
    conv => whnf
    refine And.intro ?_ ?_
    all_goals
      conv => whnf
      refine ⟨[], true, ?_⟩
      conv => whnf
      exact ⟨_, es, l1, l2, l3, l4, rfl, rfl⟩
theorem stepDo_cut (t : T) (s : Stp) (ht : t.Small) (hs : s.node.Small) (htx : s.text.length ≤ 1048576) (hok : okT t = true) (hd : deedOk s = true) (hk : s.kind = 2) : Full Try.prog noY 18 [.agg t.cells, .agg s.cells] [poolO []] (StepR (stepT t s)) := by
  have f1 := implTreeOk t ht
  have f2 := stepDeedOf_pure s hs
  have h20 := okT_size hok
  have hdT : deedT t s = cutTT t s.id := by unfold deedT; rw [if_neg (by omega)]; rw [if_pos hk]
  have hdv : deedV s = .iface 117 (.agg [.int .i64 s.id]) := by unfold deedV; rw [if_neg (by omega)]; rw [if_pos hk]
  have hsm : ∀ y, cutTT t s.id = some y → y.Small := fun y h => editT_small ht (by omega) hs htx (by rw [← deed_edit hok s hd, hdT]; exact h)
  have f3 := changed_cut t ht s.id _ hsm fun l es h1 h2 h3 h4 => by have := cutDo' l h2 (by rw [h1]; exact ht) s.id es h3 h4 (by rw [h1]; omega); rwa [h1] at this
  rw [stepT_yes hok hd]
  rw [hok] at f1
  rw [hd, hdv] at f2
  rw [← hdT] at f3
  generalize (deedT t s).bind okO = d at *
  simp only [Stp.cells] at f2 ⊢
  cases s with
  | mk kind sid at_ node text =>
  cases node with
  | mk nid nk nx nks =>
  cases t with
  | mk tid tk tx tks =>
  refine full_of_awp good Try.func18 rfl (by kernel_rfl) (by decide) ?_
  conv => whnf
  refine .inl (f1.mono ?_)
  rintro r rfl
  conv => whnf
  refine .inl (f2.mono ?_)
  rintro r rfl
  conv => whnf
  repeat (refine And.intro (by
            (conv => whnf)
            rfl) ?_
          conv => whnf)
  refine .inr (.inl ⟨[0], true, ?_⟩)
  conv => whnf
  refine f3.mono ?_
  rintro o st' ⟨l, es, l1, l2, l3, l4, rfl, rfl⟩
  cases l with
  | mk gid gk gx gh gks =>
  rcases gh with _ | ⟨gb, gc⟩
  all_goals
    conv => whnf
    refine And.intro ?_ ?_
    all_goals
      conv => whnf
      refine ⟨[], true, ?_⟩
      conv => whnf
      exact ⟨_, es, l1, l2, l3, l4, rfl, rfl⟩
theorem stepDo_text (t : T) (s : Stp) (ht : t.Small) (hs : s.node.Small) (htx : s.text.length ≤ 1048576) (hok : okT t = true) (hd : deedOk s = true) (hk : s.kind = 3) : Full Try.prog noY 18 [.agg t.cells, .agg s.cells] [poolO []] (StepR (stepT t s)) := by
  have f1 := implTreeOk t ht
  have f2 := stepDeedOf_pure s hs
  have h20 := okT_size hok
  have hdT : deedT t s = t.upd s.id (setTextT s.text) := by unfold deedT; rw [if_neg (by omega)]; rw [if_neg (by omega)]; rw [if_pos hk]
  have hdv : deedV s = .iface 119 (.agg [.int .i64 s.id, .str s.text]) := by unfold deedV; rw [if_neg (by omega)]; rw [if_neg (by omega)]; rw [if_pos hk]
  have hsm : ∀ y, t.upd s.id (setTextT s.text) = some y → y.Small := fun y h => editT_small ht (by omega) hs htx (by rw [← deed_edit hok s hd, hdT]; exact h)
  have f3 := changed_text t ht s.id s.text _ hsm fun l es h1 h2 h3 h4 => by have := textDo' l h2 s.id s.text es h3 h4 (by rw [h1]; omega); rwa [h1] at this
  rw [stepT_yes hok hd]
  rw [hok] at f1
  rw [hd, hdv] at f2
  rw [← hdT] at f3
  generalize (deedT t s).bind okO = d at *
  simp only [Stp.cells] at f2 ⊢
  cases s with
  | mk kind sid at_ node text =>
  cases node with
  | mk nid nk nx nks =>
  cases t with
  | mk tid tk tx tks =>
  refine full_of_awp good Try.func18 rfl (by kernel_rfl) (by decide) ?_
  conv => whnf
  refine .inl (f1.mono ?_)
  rintro r rfl
  conv => whnf
  refine .inl (f2.mono ?_)
  rintro r rfl
  conv => whnf
  repeat (refine And.intro (by
            (conv => whnf)
            rfl) ?_
          conv => whnf)
  refine .inr (.inl ⟨[0], true, ?_⟩)
  conv => whnf
  refine f3.mono ?_
  rintro o st' ⟨l, es, l1, l2, l3, l4, rfl, rfl⟩
  cases l with
  | mk gid gk gx gh gks =>
  rcases gh with _ | ⟨gb, gc⟩
  all_goals
    conv => whnf
    refine And.intro ?_ ?_
    all_goals
      conv => whnf
      refine ⟨[], true, ?_⟩
      conv => whnf
      exact ⟨_, es, l1, l2, l3, l4, rfl, rfl⟩
theorem stepDo_kind (t : T) (s : Stp) (ht : t.Small) (hs : s.node.Small) (htx : s.text.length ≤ 1048576) (hok : okT t = true) (hd : deedOk s = true) (hk : s.kind = 4) : Full Try.prog noY 18 [.agg t.cells, .agg s.cells] [poolO []] (StepR (stepT t s)) := by
  have f1 := implTreeOk t ht
  have f2 := stepDeedOf_pure s hs
  have h20 := okT_size hok
  have hdT : deedT t s = t.upd s.id (setKindT s.text) := by unfold deedT; rw [if_neg (by omega)]; rw [if_neg (by omega)]; rw [if_neg (by omega)]; 
  have hdv : deedV s = .iface 121 (.agg [.int .i64 s.id, .str s.text]) := by unfold deedV; rw [if_neg (by omega)]; rw [if_neg (by omega)]; rw [if_neg (by omega)]; rw [if_pos hk]
  have hsm : ∀ y, t.upd s.id (setKindT s.text) = some y → y.Small := fun y h => editT_small ht (by omega) hs htx (by rw [← deed_edit hok s hd, hdT]; exact h)
  have f3 := changed_kind t ht s.id s.text _ hsm fun l es h1 h2 h3 h4 => by have := kindDo' l h2 s.id s.text es h3 h4 (by rw [h1]; omega); rwa [h1] at this
  rw [stepT_yes hok hd]
  rw [hok] at f1
  rw [hd, hdv] at f2
  rw [← hdT] at f3
  generalize (deedT t s).bind okO = d at *
  simp only [Stp.cells] at f2 ⊢
  cases s with
  | mk kind sid at_ node text =>
  cases node with
  | mk nid nk nx nks =>
  cases t with
  | mk tid tk tx tks =>
  refine full_of_awp good Try.func18 rfl (by kernel_rfl) (by decide) ?_
  conv => whnf
  refine .inl (f1.mono ?_)
  rintro r rfl
  conv => whnf
  refine .inl (f2.mono ?_)
  rintro r rfl
  conv => whnf
  repeat (refine And.intro (by
            (conv => whnf)
            rfl) ?_
          conv => whnf)
  refine .inr (.inl ⟨[0], true, ?_⟩)
  conv => whnf
  refine f3.mono ?_
  rintro o st' ⟨l, es, l1, l2, l3, l4, rfl, rfl⟩
  cases l with
  | mk gid gk gx gh gks =>
  rcases gh with _ | ⟨gb, gc⟩
  all_goals
    conv => whnf
    refine And.intro ?_ ?_
    all_goals
      conv => whnf
      refine ⟨[], true, ?_⟩
      conv => whnf
      exact ⟨_, es, l1, l2, l3, l4, rfl, rfl⟩
theorem implStepDo_acc (t : T) (s : Stp) (ht : t.Small) (hs : s.node.Small) (htx : s.text.length ≤ 1048576) : Full Try.prog noY 18 [.agg t.cells, .agg s.cells] [poolO []] (StepR (stepT t s)) := by
  cases hok : okT t with
  | false => exact stepDo_bad t s ht hok
  | true =>
    cases hd : deedOk s with
    | false => exact stepDo_no t s ht hs hok hd
    | true =>
      have hk : s.kind = 1 ∨ s.kind = 2 ∨ s.kind = 3 ∨ s.kind = 4 := by
        refine Decidable.byContradiction fun h => ?_
        simp only [not_or] at h
        unfold deedOk at hd
        rw [if_neg h.1, if_neg h.2.1, if_neg h.2.2.1, if_neg h.2.2.2] at hd
        cases hd
      rcases hk with hk | hk | hk | hk
      · exact stepDo_put t s ht hs htx hok hd hk
      · exact stepDo_cut t s ht hs htx hok hd hk
      · exact stepDo_text t s ht hs htx hok hd hk
      · exact stepDo_kind t s ht hs htx hok hd hk
/-- .. just made. -/
def NewB (r : T × Bool) (o : Out) (st' : St) : Prop := ∃ l : LT, l.erase = r.1 ∧ l.Wf ∧ (l.ents.map labOf).Nodup ∧ o = .ret (.tup [.agg l.cells, .bool r.2]) ∧ st' = [poolO l.ents]
theorem implStepDo_new (t : T) (s : Stp) (ht : t.Small) (hs : s.node.Small) (htx : s.text.length ≤ 1048576) : Full Try.prog noY 18 [.agg t.cells, .agg s.cells] [] (NewB (stepT t s)) := by
  refine Full.start (Full.shrink (implStepDo_acc t s ht hs htx) ?_)
  rintro o st' ⟨l, es, h1, h2, h3, h4, rfl, rfl⟩
  exact ⟨es, l.ents, rfl, h3, h4, l, h1, h2, h4, rfl, rfl⟩
end Go.Cod

namespace Go.Cod
open Go Go.Proofs Go.ChangeShapes Go.WideShapes Go.ChangeAt Go.RowKit
set_option maxRecDepth 10000

/- Steps as arguments. -/
structure Stp.Ok (s : Stp) : Prop where
  k : -9223372036854775808 ≤ s.kind ∧ s.kind ≤ 9223372036854775807
  i : -9223372036854775808 ≤ s.id ∧ s.id ≤ 9223372036854775807
  a : -9223372036854775808 ≤ s.at_ ∧ s.at_ ≤ 9223372036854775807
  n : s.node.Ok
  t : s.text.length ≤ maxLen
theorem reads_step {H : Type} {enc : TypeId × Value → H} {w : World} (n : Nat) : Reads enc Try.prog w n 26 fun vs => ∃ s : Stp, vs = s.cells ∧ s.Ok := by
  have hS := reads_struct (enc := enc) (P := Try.prog) (w := w) (n := n) (t := 26)
    (Ss := [fun vs => ∃ i, vs = [.int .i64 i] ∧ IntKind.i64.min ≤ i ∧ i ≤ IntKind.i64.max, fun vs => ∃ i, vs = [.int .i64 i] ∧ IntKind.i64.min ≤ i ∧ i ≤ IntKind.i64.max, fun vs => ∃ i, vs = [.int .i64 i] ∧ IntKind.i64.min ≤ i ∧ i ≤ IntKind.i64.max,
      fun vs => ∃ t : T, vs = t.cells ∧ t.Ok, fun vs => ∃ s, vs = [.str s] ∧ s.length ≤ maxLen])
    kids (by decide +kernel) Try.underlying26 rfl ?_
  · intro cs x h
    obtain ⟨vs, ⟨_, _, rfl, ⟨i, rfl, hi⟩, _, _, rfl, ⟨j, rfl, hj⟩, _, _, rfl, ⟨a, rfl, ha⟩, _, _, rfl, ⟨t, rfl, ht⟩, _, _, rfl, ⟨s, rfl, hs⟩, rfl⟩, h2⟩ := hS cs x h
    exact ⟨_, ⟨⟨i, j, a, t, s⟩, by simp [Stp.cells], ⟨hi, hj, ha, ht, hs⟩⟩, h2⟩
  · intro m hm j f S h1 h2
    match j with
    | 0 => simp at h1 h2; subst h1 h2; exact reads_int Try.underlying3
    | 1 => simp at h1 h2; subst h1 h2; exact reads_int Try.underlying3
    | 2 => simp at h1 h2; subst h1 h2; exact reads_int Try.underlying3
    | 3 => simp at h1 h2; subst h1 h2; exact reads_tree m
    | 4 => simp at h1 h2; subst h1 h2; exact reads_str Try.underlying9
    | j + 5 => simp at h1
def szStp (s : Stp) (left : Int) : Int := if szT s.node left < 0 then -1 else if szT s.node left - s.text.length < 0 then -1 else szT s.node left - s.text.length
theorem szStep_pure (s : Stp) (hs : s.Ok) (left : Int) (h0 : 0 ≤ left) (h1 : left ≤ 4611686018427387904) : Pure Try.prog 14 [.agg s.cells, .int .i64 left] (· = .int .i64 (szStp s left)) := by
  have f1 := szT_pure s.node hs.n left h0 h1
  have f2 := szT_le s.node left h0
  have ht := hs.t
  simp only [maxLen] at ht
  have hd : szStp s left = if szT s.node left < 0 then -1 else if szT s.node left - s.text.length < 0 then -1 else szT s.node left - s.text.length := rfl
  generalize szStp s left = r at *
  generalize szT s.node left = l at *
  simp only [Stp.cells]
  cases s with
  | mk kind sid at_ node text =>
  cases node with
  | mk nid nk nx nks =>
  simp only at f1 ht hd
  show Pure Try.prog _ [.agg [.int .i64 kind, .int .i64 sid, .int .i64 at_, .int .i64 nid, .str nk, .str nx, .sl (T.rows nks), .str text], .int .i64 left] _
  refine pure_of_awp good Try.func14 rfl (by kernel_rfl) (by decide) ?_
  conv => whnf
  refine .inl (f1.mono ?_)
  rintro r rfl
  conv => whnf
  by_cases a1 : l < 0
  · rw [ltB_t a1]
    conv => whnf
    rw [hd, if_pos a1]
  rw [ltB_f (by omega)]
  conv => whnf
  rw [wrap64 (by omega) (by omega)]
  by_cases a2 : l - text.length < 0
  · rw [ltB_t a2]
    conv => whnf
    rw [hd, if_neg a1, if_pos a2]
  rw [ltB_f (by omega)]
  conv => whnf
  rw [hd, if_neg a1, if_neg a2]
theorem szStp_le (s : Stp) (left : Int) (h : 0 ≤ left) : szStp s left ≤ left ∧ -1 ≤ szStp s left := by
  have := szT_le s.node left h
  unfold szStp
  split
  · omega
  split <;> omega
theorem stp_small (s : Stp) (hs : s.Ok) (left : Int) (h1 : left ≤ 1048576) (h0 : 0 ≤ left) (h : 0 ≤ szStp s left) : s.node.Small ∧ s.text.length ≤ 1048576 ∧ s.node.size ≤ 1048577 := by
  have hle := szT_le s.node left h0
  unfold szStp at h
  split at h
  · omega
  split at h
  · omega
  have hz := ids_sz s.node left (by omega)
  rw [T.ids_size] at hz
  exact ⟨small_of_sz s.node hs.n left h1 (by omega), by omega, by omega⟩
theorem toStep_pure (s : Stp) (hs : s.node.Small) : Pure Try.prog 17 [.agg s.cells] (· = .agg s.cells) := by
  have f1 := toTree_pure s.node hs
  simp only [Stp.cells]
  cases s with
  | mk kind sid at_ node text =>
  cases node with
  | mk nid nk nx nks =>
  show Pure Try.prog _ [.agg [.int .i64 kind, .int .i64 sid, .int .i64 at_, .int .i64 nid, .str nk, .str nx, .sl (T.rows nks), .str text]] _
  refine pure_of_awp good Try.func17 rfl (by kernel_rfl) (by decide) ?_
  conv => whnf
  refine .inl (f1.mono ?_)
  rintro r rfl
  conv => whnf
  rfl
theorem sneq_refl (a : Int) : negB (eqB a a) = false := by rw [eqB_refl]; rfl
theorem sneqb_refl (a : Bool) : (!(a == a)) = false := by simp
theorem sneqS_refl (a : List UInt8) : negB (eqS a a) = false := by rw [eqS_refl]; rfl
theorem eqStep_pure (s : Stp) (hs : s.node.Small) : Pure Try.prog 20 [.agg s.cells, .agg s.cells] (· = .bool true) := by
  have f1 := eqTree_pure s.node hs
  simp only [Stp.cells]
  cases s with
  | mk kind sid at_ node text =>
  cases node with
  | mk nid nk nx nks =>
  show Pure Try.prog _ [.agg [.int .i64 kind, .int .i64 sid, .int .i64 at_, .int .i64 nid, .str nk, .str nx, .sl (T.rows nks), .str text], .agg [.int .i64 kind, .int .i64 sid, .int .i64 at_, .int .i64 nid, .str nk, .str nx, .sl (T.rows nks), .str text]] _
  refine pure_of_awp good Try.func20 rfl (by kernel_rfl) (by decide) ?_
  conv => whnf
  rw [sneq_refl]
  conv => whnf
  rw [sneq_refl]
  conv => whnf
  rw [sneq_refl]
  conv => whnf
  refine .inl (f1.mono ?_)
  rintro r rfl
  conv => whnf
  rw [sneqS_refl]
  conv => whnf
/-- A step whose tree lies in a pool. -/
def stpC (s : Stp) (l : LT) : List V := [.int .i64 s.kind, .int .i64 s.id, .int .i64 s.at_] ++ l.cells ++ [.str s.text]
def NewP (s : Stp) (o : Out) (st' : St) : Prop := ∃ l : LT, l.erase = s.node ∧ l.Wf ∧ (∃ b c, l = .mk s.node.id s.node.kind s.node.text (some (b, c)) l.kids) ∧ (l.ents.map labOf).Nodup ∧ o = .ret (.agg (stpC s l)) ∧ st' = [poolO l.ents]
theorem toStep_new (s : Stp) (hs : s.node.Small) : Full Try.prog noY 17 [.agg s.cells] [] (NewP s) := by
  have f1 := toTree_new s.node hs
  simp only [Stp.cells]
  cases s with
  | mk kind sid at_ node text =>
  cases node with
  | mk nid nk nx nks =>
  show Full Try.prog noY _ [.agg [.int .i64 kind, .int .i64 sid, .int .i64 at_, .int .i64 nid, .str nk, .str nx, .sl (T.rows nks), .str text]] [] _
  refine full_of_awp good Try.func17 rfl (by kernel_rfl) (by decide) ?_
  conv => whnf
  refine .inr (.inl ⟨[], true, ?_⟩)
  conv => whnf
  refine f1.mono ?_
  rintro o st' ⟨l, h1, h2, ⟨b, c, h3⟩, h4, rfl, rfl⟩
  obtain ⟨es, hes⟩ : ∃ es, es = l.ents := ⟨_, rfl⟩
  rw [← hes]
  generalize hlk : l.kids = lks at *
  subst h3
  conv => whnf
  refine ⟨[3], true, ?_⟩
  conv => whnf
  refine ⟨_, h1, h2, ⟨b, c, rfl⟩, h4, rfl, by rw [hes]; rfl⟩
theorem stp_view (s : Stp) (l : LT) (hl : l.erase = s.node) (hw : l.Wf) {es : List (List V)} (he : ∀ e ∈ l.ents, e ∈ es) : View es (.agg (stpC s l)) (.agg s.cells) := by
  have hv := l.view hw he
  rw [hl] at hv
  obtain ⟨kind, sid, at_, node, text⟩ := s
  simp only at hv
  cases node with
  | mk nid nk nx nks =>
  cases l with
  | mk a b c d e =>
  refine .agg rfl fun i x y h1 h2 => ?_
  match i, h1, h2 with
  | 0, h1, h2 => cases h1; cases h2; exact .same _
  | 1, h1, h2 => cases h1; cases h2; exact .same _
  | 2, h1, h2 => cases h1; cases h2; exact .same _
  | 3, h1, h2 => exact hv.2 0 x y h1 h2
  | 4, h1, h2 => exact hv.2 1 x y h1 h2
  | 5, h1, h2 => exact hv.2 2 x y h1 h2
  | 6, h1, h2 => exact hv.2 3 x y h1 h2
  | 7, h1, h2 => cases h1; cases h2; exact .same _
  | i + 8, h1, h2 => simp [stpC, LT.cells] at h1
end Go.Cod

namespace Go.Cod
open Go Go.Proofs Go.ChangeShapes Go.WideShapes Go.ChangeAt Go.RowKit
set_option maxRecDepth 10000

theorem stpC_clean (s : Stp) (l : LT) : (V.agg (stpC s l)).clean 0 = true := by
  obtain ⟨kind, sid, at_, node, text⟩ := s
  cases l with
  | mk a b c d e => rcases d with _ | ⟨p, q⟩ <;> rfl
theorem markStep_new (s : Stp) (l : LT) (hl : l.erase = s.node) (k : Int) (es : List (List V)) (h0 : 0 ≤ k) (h1 : k + 3 * T.sizeL s.node.kids ≤ 1152921504606846976) (hw : l.Wf) (hin : ∀ e ∈ l.ents, e ∈ es) (hn : (l.ents.map labOf).Nodup) :
    Full Try.prog noY 22 [.agg (stpC s l), .int .i64 k] [poolO es] fun o st' => ∃ es', o = .ret (.int .i64 (k + 3 * T.sizeL s.node.kids)) ∧ st' = [poolO es'] := by
  have f1 := markTree_new l hl k es h0 h1 hw hin hn
  generalize k + 3 * (T.sizeL s.node.kids : Int) = k2 at *
  obtain ⟨kind, sid, at_, node, text⟩ := s
  cases l with
  | mk a b c d e =>
  refine full_of_awp good Try.func22 rfl (by kernel_rfl) (by decide) ?_
  rcases d with _ | ⟨p, q⟩
  all_goals
    conv => whnf
    refine .inr (.inl ⟨[0], true, ?_⟩)
    conv => whnf
    refine f1.mono ?_
    rintro o st' ⟨es', rfl, rfl, _⟩
    conv => whnf
    refine ⟨[], true, ?_⟩
    conv => whnf
    exact ⟨es', rfl, rfl⟩
theorem implStepDo_pure (t : T) (s : Stp) (ht : t.Small) (hs : s.node.Small) (htx : s.text.length ≤ 1048576) : Pure Try.prog 18 [.agg t.cells, .agg s.cells] (· = .tup [.agg (stepT t s).1.cells, .bool (stepT t s).2]) := by
  refine Full.freeze (implStepDo_new t s ht hs htx) ?_
  rintro o st' ⟨l, h1, h2, h3, rfl, rfl⟩
  have hv := viewL2 (y' := .bool (stepT t s).2) (l.viewA h2 (es := l.ents) (fun _ h => h)) (.same _)
  refine ⟨_, _, .tup [.agg l.erase.cells, .bool (stepT t s).2], rfl, rfl, .tup hv.1 hv.2, ?_, ?_⟩
  · cases l with
    | mk id kind text h kids => rcases h with _ | ⟨b, c⟩ <;> rfl
  · rw [h1]
theorem implStepDo_lent (t : T) (s : Stp) (ht : t.Small) (hs : s.node.Small) (htx : s.text.length ≤ 1048576) (lx ls : LT) (hx : lx.erase = t) (hl : ls.erase = s.node) (hxw : lx.Wf) (hlw : ls.Wf) (es1 es2 : List (List V)) (h1 : ∀ e ∈ lx.ents, e ∈ es1) (h2 : ∀ e ∈ ls.ents, e ∈ es2) :
    Full Try.prog noY 18 [.agg lx.cells, .agg (stpC s ls)] [poolO es1, poolO es2] fun o st' => ∃ st1, NewB (stepT t s) o st1 ∧ st' = poolO es1 :: poolO es2 :: st1 := by
  have hc : V.clean.cleanL 0 [V.agg lx.cells, .agg (stpC s ls)] = true := by simp only [V.clean.cleanL, cleanA lx, stpC_clean s ls]; rfl
  have hv1 := lx.viewA hxw (es := [es1, es2].flatten) (fun e he => by simp [h1 e he])
  rw [hx] at hv1
  have hv2 := stp_view s ls hl hlw (es := [es1, es2].flatten) (fun e he => by simp [h2 e he])
  refine (Full.lent (ps := [es1, es2]) (implStepDo_new t s ht hs htx) (viewL2 hv1 hv2) hc ?_).mono ?_
  · rintro o st1 ⟨l, h1, h2, h3, rfl, rfl⟩
    refine ⟨_, rfl, ?_, fun p hp => by simp at hp; subst hp; exact FlatO.pool l⟩
    have := l.cells_flat
    simp only [V.flat, V.flat.go] at this ⊢
    simp only [this, Bool.and_self]
  · rintro o st' ⟨v, st1, ⟨l, h1, h2, h3, hv, rfl⟩, rfl, rfl⟩
    cases hv
    refine ⟨[poolO l.ents], ⟨l, h1, h2, h3, ?_, rfl⟩, rfl⟩
    have := mapN_cells l (· + [es1, es2].length)
    show Out.ret (.tup [(V.agg l.cells).mapN _, .bool _]) = _
    rw [this]
end Go.Cod

namespace Go.Cod
open Go Go.Proofs Go.ChangeShapes Go.WideShapes Go.ChangeAt Go.RowKit
set_option maxRecDepth 10000

/-- A drawn step. -/
def Stp.Dr (s : Stp) : Prop := s.node.Small ∧ s.node.size ≤ 256 ∧ s.text.length ≤ 1000
def EdR (bs : List UInt8) (p k : Int) (o : Out) (st' : St) : Prop := ∃ (s : Stp) (p' k' : Int), s.Dr ∧ p ≤ p' ∧ p' ≤ p + 1000 ∧ 0 ≤ k' ∧ k' ≤ k + 1000 ∧ o = .ret (.agg s.cells) ∧ st' = [rdO bs p', nxO k']
theorem noneS_small : (T.mk 0 [] [] []).Small := .mk (by omega) (by simp) (by simp) (by simp) (by simp)
set_option maxHeartbeats 8000000 in
theorem l11Edit_full (bs : List UInt8) (hb : bs.length ≤ 2000) (p k : Int) (p0 : 0 ≤ p) (p1 : p ≤ 10000000) (k0 : 0 ≤ k) (k1 : k ≤ 1000000) (t : T) (ht : t.Small) (hz : t.size ≤ 600000) :
    Full Try.prog noY 69 [.ptr 0 0 0, .agg t.cells, .ptr 1 0 0] [rdO bs p, nxO k] (EdR bs p k) := by
  have hn := T.ids_size t
  have hi := l2Ids_pure t ht (by omega)
  have hl : (irows t.ids).length = t.ids.length := by simp [irows]
  have hp : ∀ (q n : Int), 0 ≤ q → q ≤ 1073741824 → Full Try.prog noY 70 [.ptr 0 0 0, .int .i64 n] [rdO bs q] fun o st' => ∃ m : Int, 0 ≤ m ∧ (1 ≤ n → m < n) ∧ o = .ret (.int .i64 m) ∧ st' = [rdO bs (q + 1)] := fun q n h0 h1 => pick_full bs q n hb h0 h1
  have ho : ∀ (q : Int) (ss : List (List UInt8)), 0 ≤ q → q ≤ 1073741824 → 1 ≤ ss.length → ss.length ≤ 1048576 → Full Try.prog noY 96 [.ptr 0 0 0, .sl (drows ss)] [rdO bs q] fun o st' => ∃ s ∈ ss, o = .ret (.str s) ∧ st' = [rdO bs (q + 1)] := fun q ss h0 h1 h2 h3 => of_full bs q ss hb h0 h1 h2 h3
  have hx := fun q h0 h1 => l11Text_full bs q hb h0 h1
  have hT := l11Tree_3 bs hb
  have hpos := size_pos t
  have hg : ∀ (m : Int), 0 ≤ m → m < t.ids.length → ∃ x : Int, (irows t.ids)[m.toNat]? = some [.int .i64 x] := fun m h0 h1 => by
    have : m.toNat < t.ids.length := by omega
    exact ⟨t.ids[m.toNat], by simp [irows, this]⟩
  have hf := fun x => l2Find_pure t ht x
  have hfx : ∀ x, ∃ (s : T) (b : Bool), fR (fT t x) = .tup [.agg s.cells, .bool b] ∧ s.size ≤ 600000 := fun x => by
    cases h : fT t x with
    | none => exact ⟨TZ, false, rfl, by simp [TZ, T.size, T.sizeL]⟩
    | some s => exact ⟨s, true, rfl, by have := fT_size t x s h; omega⟩
  have hkl : ∀ s : T, s.size ≤ 600000 → s.kids.length ≤ 600000 := fun s h => by
    have h2 : ∀ ts : List T, ts.length ≤ T.sizeL ts := length_le_sizeL
    have h3 := T.kids_size s
    have := h2 s.kids
    omega
  generalize irows t.ids = rows at *
  generalize t.ids.length = n at *
  cases t with
  | mk id kind text kids =>
  refine full_of_awp good Try.func69 rfl (by kernel_rfl) (by decide) ?_
  conv => whnf
  refine .inl (hi.mono ?_)
  rintro r rfl
  conv => whnf
  refine ⟨[0], false, ?_⟩
  conv => whnf
  refine (hp p _ p0 (by omega)).mono ?_
  rintro o st' ⟨c, c0, c1, rfl, rfl⟩
  obtain ⟨x, hgx⟩ := hg c c0 (by have := c1 (by omega); omega)
  conv => whnf
  refine ⟨c0, _, _, 1, rfl, hgx, rfl, rfl, ?_⟩
  conv => whnf
  refine .inl ((hf x).mono ?_)
  rintro r rfl
  obtain ⟨y, yb, hy1, hy2⟩ := hfx x
  rw [hy1]
  have hyk := hkl y hy2
  cases y with
  | mk yid yk yt yks =>
  simp only [T.kids] at hyk
  have hyl := Go.Cod.rows_len yks
  conv => whnf
  refine ⟨[0], false, ?_⟩
  conv => whnf
  refine (hp (p + 1) 7 (by omega) (by omega)).mono ?_
  rintro o st' ⟨d, d0, d1, rfl, rfl⟩
  conv => whnf
  have hend : ∀ (s : Stp) (p' k' : Int), s.Dr → p ≤ p' → p' ≤ p + 1000 → 0 ≤ k' → k' ≤ k + 1000 → EdR bs p k (.ret (.agg s.cells)) [rdO bs p', nxO k'] := fun s p' k' h1 h2 h3 h4 h5 => ⟨s, p', k', h1, h2, h3, h4, h5, rfl, rfl⟩
  have hsec : kSec ∈ kinds11 := by decide
  have hput : ∀ (kd : List UInt8) (k' : Int), kd ∈ kinds11 → 0 ≤ k' → k' ≤ 1000000 → Full Try.prog noY 97 [.ptr 0 0 0, .str kd, .int .i64 3, .ptr 1 0 0] [rdO bs (p + 1 + 1 + 1 + 1), nxO k'] (TreeR bs (p + 1 + 1 + 1 + 1) k' 256) := fun kd k' h1 h2 h3 => hT (p + 1 + 1 + 1 + 1) k' kd (by omega) (by omega) h2 (by omega) h1
  have hw : 90 < k.tmod 100 → IntKind.i64.wrap (k - 50) = k - 50 ∧ 0 ≤ k - 50 := fun h3 => by
    have h5 : k.tmod 100 ≤ k := by rw [Int.tmod_eq_emod_of_nonneg k0]; omega
    exact ⟨wrap64 (by omega) (by omega), by omega⟩
  have hw0 : 90 < k.tmod 100 → 0 ≤ k - 50 := fun h => (hw h).2
  have hsec : kSec ∈ kinds11 := by decide
  have hput : ∀ (kd : List UInt8) (k' : Int), kd ∈ kinds11 → 0 ≤ k' → k' ≤ 1000000 → Full Try.prog noY 97 [.ptr 0 0 0, .str kd, .int .i64 3, .ptr 1 0 0] [rdO bs (p + 1 + 1 + 1 + 1), nxO k'] (TreeR bs (p + 1 + 1 + 1 + 1) k' 256) := fun kd k' h1 h2 h3 => hT (p + 1 + 1 + 1 + 1) k' kd (by omega) (by omega) h2 (by omega) h1
  have hw : 90 < k.tmod 100 → IntKind.i64.wrap (k - 50) = k - 50 ∧ 0 ≤ k - 50 := fun h3 => by
    have h5 : k.tmod 100 ≤ k := by rw [Int.tmod_eq_emod_of_nonneg k0]; omega
    exact ⟨wrap64 (by omega) (by omega), by omega⟩
  have hw0 : 90 < k.tmod 100 → 0 ≤ k - 50 := fun h => (hw h).2
  by_cases e0 : d = 0
  · rw [eqB_t e0]
    conv => whnf
    refine ⟨[0], false, ?_⟩
    conv => whnf
    refine (ho (p + 1 + 1) [[112, 97, 114], [112, 97, 114], [115, 101, 99], [110, 111, 116, 101], [116, 105, 116, 108, 101]] (by omega) (by omega) (by simp) (by simp)).mono ?_
    rintro o st' ⟨kd, hkd, rfl, rfl⟩
    have hkd : kd ∈ kinds11 := by
      simp only [List.mem_cons, List.not_mem_nil, or_false] at hkd
      simp only [kinds11, kPar, kSec, kNote, kTitle, List.mem_cons, List.not_mem_nil, or_false]
      rcases hkd with rfl | rfl | rfl | rfl | rfl <;> simp
    conv => whnf
    by_cases hdoc : yk = [100, 111, 99]
    case' pos =>
      rw [eqS_t hdoc]
      conv => whnf
    case' neg =>
      rw [eqS_f hdoc]
      conv => whnf
    all_goals
      refine ⟨by omega, ?_⟩
      conv => whnf
      by_cases hm : 90 < k.tmod 100
      · rw [ltB_t hm]
        conv => whnf
        rw [(hw hm).1]
        refine ⟨[0], false, ?_⟩
        conv => whnf
        refine (hp (p + 1 + 1 + 1) _ (by omega) (by omega)).mono ?_
        rintro o st' ⟨c, c0, c1, rfl, rfl⟩
        conv => whnf
        refine ⟨[0, 1], false, ?_⟩
        conv => whnf
        first
          | refine (hput kSec (k - 50) hsec (by first | omega | exact hw0 hm) (by omega)).mono ?_
          | refine (hput kd (k - 50) hkd (by first | omega | exact hw0 hm) (by omega)).mono ?_
        rintro o st' ⟨nt, p', k', n1, n2, n3, n4, n5, n6, rfl, rfl⟩
        rcases nt with ⟨ni, nk, nx, nks⟩
        conv => whnf
        refine ⟨[], false, ?_⟩
        conv => whnf
        exact hend ⟨1, x, c, .mk ni nk nx nks, []⟩ p' k' ⟨n1, by show (T.mk ni nk nx nks).size ≤ 256; omega, by simp⟩ (by omega) (by omega) (by omega) (by omega)
      · rw [ltB_f (by omega)]
        conv => whnf
        refine ⟨[0], false, ?_⟩
        conv => whnf
        refine (hp (p + 1 + 1 + 1) _ (by omega) (by omega)).mono ?_
        rintro o st' ⟨c, c0, c1, rfl, rfl⟩
        conv => whnf
        refine ⟨[0, 1], false, ?_⟩
        conv => whnf
        first
          | refine (hput kSec k hsec (by first | omega | exact hw0 hm) (by omega)).mono ?_
          | refine (hput kd k hkd (by first | omega | exact hw0 hm) (by omega)).mono ?_
        rintro o st' ⟨nt, p', k', n1, n2, n3, n4, n5, n6, rfl, rfl⟩
        rcases nt with ⟨ni, nk, nx, nks⟩
        conv => whnf
        refine ⟨[], false, ?_⟩
        conv => whnf
        exact hend ⟨1, x, c, .mk ni nk nx nks, []⟩ p' k' ⟨n1, by show (T.mk ni nk nx nks).size ≤ 256; omega, by simp⟩ (by omega) (by omega) (by omega) (by omega)
  rw [eqB_f e0]
  conv => whnf
  by_cases e1 : d = 1
  · rw [eqB_t e1]
    conv => whnf
    refine ⟨[0], false, ?_⟩
    conv => whnf
    refine (ho (p + 1 + 1) [[112, 97, 114], [112, 97, 114], [115, 101, 99], [110, 111, 116, 101], [116, 105, 116, 108, 101]] (by omega) (by omega) (by simp) (by simp)).mono ?_
    rintro o st' ⟨kd, hkd, rfl, rfl⟩
    have hkd : kd ∈ kinds11 := by
      simp only [List.mem_cons, List.not_mem_nil, or_false] at hkd
      simp only [kinds11, kPar, kSec, kNote, kTitle, List.mem_cons, List.not_mem_nil, or_false]
      rcases hkd with rfl | rfl | rfl | rfl | rfl <;> simp
    conv => whnf
    by_cases hdoc : yk = [100, 111, 99]
    case' pos =>
      rw [eqS_t hdoc]
      conv => whnf
    case' neg =>
      rw [eqS_f hdoc]
      conv => whnf
    all_goals
      refine ⟨by omega, ?_⟩
      conv => whnf
      by_cases hm : 90 < k.tmod 100
      · rw [ltB_t hm]
        conv => whnf
        rw [(hw hm).1]
        refine ⟨[0], false, ?_⟩
        conv => whnf
        refine (hp (p + 1 + 1 + 1) _ (by omega) (by omega)).mono ?_
        rintro o st' ⟨c, c0, c1, rfl, rfl⟩
        conv => whnf
        refine ⟨[0, 1], false, ?_⟩
        conv => whnf
        first
          | refine (hput kSec (k - 50) hsec (by first | omega | exact hw0 hm) (by omega)).mono ?_
          | refine (hput kd (k - 50) hkd (by first | omega | exact hw0 hm) (by omega)).mono ?_
        rintro o st' ⟨nt, p', k', n1, n2, n3, n4, n5, n6, rfl, rfl⟩
        rcases nt with ⟨ni, nk, nx, nks⟩
        conv => whnf
        refine ⟨[], false, ?_⟩
        conv => whnf
        exact hend ⟨1, x, c, .mk ni nk nx nks, []⟩ p' k' ⟨n1, by show (T.mk ni nk nx nks).size ≤ 256; omega, by simp⟩ (by omega) (by omega) (by omega) (by omega)
      · rw [ltB_f (by omega)]
        conv => whnf
        refine ⟨[0], false, ?_⟩
        conv => whnf
        refine (hp (p + 1 + 1 + 1) _ (by omega) (by omega)).mono ?_
        rintro o st' ⟨c, c0, c1, rfl, rfl⟩
        conv => whnf
        refine ⟨[0, 1], false, ?_⟩
        conv => whnf
        first
          | refine (hput kSec k hsec (by first | omega | exact hw0 hm) (by omega)).mono ?_
          | refine (hput kd k hkd (by first | omega | exact hw0 hm) (by omega)).mono ?_
        rintro o st' ⟨nt, p', k', n1, n2, n3, n4, n5, n6, rfl, rfl⟩
        rcases nt with ⟨ni, nk, nx, nks⟩
        conv => whnf
        refine ⟨[], false, ?_⟩
        conv => whnf
        exact hend ⟨1, x, c, .mk ni nk nx nks, []⟩ p' k' ⟨n1, by show (T.mk ni nk nx nks).size ≤ 256; omega, by simp⟩ (by omega) (by omega) (by omega) (by omega)
  rw [eqB_f e1]
  conv => whnf
  by_cases e2 : d = 2
  · rw [eqB_t e2]
    conv => whnf
    refine ⟨[], false, ?_⟩
    conv => whnf
    exact hend ⟨2, x, 0, .mk 0 [] [] [], []⟩ _ k ⟨noneS_small, by simp [T.size, T.sizeL], by simp⟩ (by omega) (by omega) (by omega) (by omega)
  rw [eqB_f e2]
  conv => whnf
  by_cases e3 : d = 3
  · rw [eqB_t e3]
    conv => whnf
    refine ⟨[0], false, ?_⟩
    conv => whnf
    refine (hp (p + 1 + 1) 3 (by omega) (by omega)).mono ?_
    rintro o st' ⟨c, c0, c1, rfl, rfl⟩
    conv => whnf
    by_cases e4 : c = 0
    · rw [eqB_t e4]
      conv => whnf
      refine ⟨[0], false, ?_⟩
      conv => whnf
      refine (ho (p + 1 + 1 + 1) [[112, 97, 114], [110, 111, 116, 101], [115, 101, 99], [116, 105, 116, 108, 101], [120]] (by omega) (by omega) (by simp) (by simp)).mono ?_
      rintro o st' ⟨kd, hkd, rfl, rfl⟩
      have hkl : kd.length ≤ 1000 := by
        simp only [List.mem_cons, List.not_mem_nil, or_false] at hkd
        rcases hkd with rfl | rfl | rfl | rfl | rfl <;> decide
      conv => whnf
      refine ⟨[], false, ?_⟩
      conv => whnf
      exact hend ⟨4, x, 0, .mk 0 [] [] [], kd⟩ _ k ⟨noneS_small, by simp [T.size, T.sizeL], hkl⟩ (by omega) (by omega) (by omega) (by omega)
    · rw [eqB_f e4]
      conv => whnf
      refine ⟨[0], false, ?_⟩
      conv => whnf
      refine (hx (p + 1 + 1 + 1) (by omega) (by omega)).mono ?_
      rintro o st' ⟨tx, htx, rfl, rfl⟩
      conv => whnf
      refine ⟨[], false, ?_⟩
      conv => whnf
      exact hend ⟨3, x, 0, .mk 0 [] [] [], tx⟩ _ k ⟨noneS_small, by simp [T.size, T.sizeL], by simp only; omega⟩ (by omega) (by omega) (by omega) (by omega)
  · rw [eqB_f e3]
    conv => whnf
    refine ⟨[0], false, ?_⟩
    conv => whnf
    refine (hx (p + 1 + 1) (by omega) (by omega)).mono ?_
    rintro o st' ⟨tx, htx, rfl, rfl⟩
    conv => whnf
    refine ⟨[], false, ?_⟩
    conv => whnf
    exact hend ⟨3, x, 0, .mk 0 [] [] [], tx⟩ _ k ⟨noneS_small, by simp [T.size, T.sizeL], by simp only; omega⟩ (by omega) (by omega) (by omega) (by omega)
end Go.Cod

namespace Go.Cod
open Go Go.Proofs Go.ChangeShapes Go.WideShapes Go.ChangeAt Go.RowKit
set_option maxRecDepth 10000

theorem three (a b c m : Int) (h0 : 0 ≤ m) (h1 : m < 3) : ∃ z : Int, [[V.int .i64 a], [.int .i64 b], [.int .i64 c]][m.toNat]? = some [.int .i64 z] := by
  obtain ⟨n, rfl⟩ : ∃ n : Nat, m = n := ⟨m.toNat, by omega⟩
  have : n < 3 := by omega
  match n, this with
  | 0, _ => exact ⟨_, rfl⟩
  | 1, _ => exact ⟨_, rfl⟩
  | 2, _ => exact ⟨_, rfl⟩
def SpR (bs : List UInt8) (p : Int) (o : Out) (st' : St) : Prop := ∃ (s : Stp) (p' : Int), s.Dr ∧ p ≤ p' ∧ p' ≤ p + 10 ∧ o = .ret (.agg s.cells) ∧ st' = [rdO bs p']
set_option maxHeartbeats 8000000 in
theorem l11SpoilStep_full (bs : List UInt8) (hb : bs.length ≤ 2000) (p : Int) (p0 : 0 ≤ p) (p1 : p ≤ 10000000) (s : Stp) (hs : s.Dr) :
    Full Try.prog noY 71 [.ptr 0 0 0, .agg s.cells] [rdO bs p] (SpR bs p) := by
  have hp : ∀ (q n : Int), 0 ≤ q → q ≤ 1073741824 → Full Try.prog noY 70 [.ptr 0 0 0, .int .i64 n] [rdO bs q] fun o st' => ∃ m : Int, 0 ≤ m ∧ (1 ≤ n → m < n) ∧ o = .ret (.int .i64 m) ∧ st' = [rdO bs (q + 1)] := fun q n h0 h1 => pick_full bs q n hb h0 h1
  have ho : ∀ (q : Int) (ss : List (List UInt8)), 0 ≤ q → q ≤ 1073741824 → 1 ≤ ss.length → ss.length ≤ 1048576 → Full Try.prog noY 96 [.ptr 0 0 0, .sl (drows ss)] [rdO bs q] fun o st' => ∃ s ∈ ss, o = .ret (.str s) ∧ st' = [rdO bs (q + 1)] := fun q ss h0 h1 h2 h3 => of_full bs q ss hb h0 h1 h2 h3
  have hend : ∀ (s : Stp) (p' : Int), s.Dr → p ≤ p' → p' ≤ p + 10 → SpR bs p (.ret (.agg s.cells)) [rdO bs p'] := fun s p' h1 h2 h3 => ⟨s, p', h1, h2, h3, rfl, rfl⟩
  obtain ⟨kind, sid, at_, node, text⟩ := s
  cases node with
  | mk nid nk nx nks =>
  obtain ⟨d1, d2, d3⟩ := hs
  simp only at d1 d2 d3
  show Full Try.prog noY _ [.ptr 0 0 0, .agg [.int .i64 kind, .int .i64 sid, .int .i64 at_, .int .i64 nid, .str nk, .str nx, .sl (T.rows nks), .str text]] _ _
  refine full_of_awp good Try.func71 rfl (by kernel_rfl) (by decide) ?_
  conv => whnf
  refine ⟨[0], false, ?_⟩
  conv => whnf
  refine (hp p 6 p0 (by omega)).mono ?_
  rintro o st' ⟨d, e0, e1, rfl, rfl⟩
  conv => whnf
  by_cases a0 : d = 0
  · rw [eqB_t a0]
    conv => whnf
    refine ⟨[0], false, ?_⟩
    conv => whnf
    refine (hp (p + 1) 5 (by omega) (by omega)).mono ?_
    rintro o st' ⟨m, m0, m1, rfl, rfl⟩
    conv => whnf
    refine ⟨[0], false, ?_⟩
    conv => whnf
    refine (hp (p + 1 + 1) 3 (by omega) (by omega)).mono ?_
    rintro o st' ⟨c, c0, c1, rfl, rfl⟩
    obtain ⟨z, hz⟩ := three 0 5 m c c0 (c1 (by omega))
    conv => whnf
    refine ⟨c0, _, _, 1, rfl, hz, rfl, rfl, ?_⟩
    conv => whnf
    refine AtRow_intro _ hz ?_
    conv => whnf
    refine ⟨[], false, ?_⟩
    conv => whnf
    exact hend ⟨z, sid, at_, .mk nid nk nx nks, text⟩ _ ⟨d1, d2, d3⟩ (by omega) (by omega)
  rw [eqB_f a0]
  conv => whnf
  by_cases a1 : d = 1
  · rw [eqB_t a1]
    conv => whnf
    refine ⟨[0], false, ?_⟩
    conv => whnf
    refine (hp (p + 1) 40 (by omega) (by omega)).mono ?_
    rintro o st' ⟨m, m0, m1, rfl, rfl⟩
    conv => whnf
    refine ⟨[], false, ?_⟩
    conv => whnf
    exact hend ⟨kind, _, at_, .mk nid nk nx nks, text⟩ _ ⟨d1, d2, d3⟩ (by omega) (by omega)
  rw [eqB_f a1]
  conv => whnf
  by_cases a2 : d = 2
  · rw [eqB_t a2]
    conv => whnf
    refine ⟨[0], false, ?_⟩
    conv => whnf
    refine (hp (p + 1) 3 (by omega) (by omega)).mono ?_
    rintro o st' ⟨c, c0, c1, rfl, rfl⟩
    obtain ⟨z, hz⟩ := three (-1) 9 1 c c0 (c1 (by omega))
    conv => whnf
    refine ⟨c0, _, _, 1, rfl, hz, rfl, rfl, ?_⟩
    conv => whnf
    refine AtRow_intro _ hz ?_
    conv => whnf
    refine ⟨[], false, ?_⟩
    conv => whnf
    exact hend ⟨kind, sid, z, .mk nid nk nx nks, text⟩ _ ⟨d1, d2, d3⟩ (by omega) (by omega)
  rw [eqB_f a2]
  conv => whnf
  by_cases a3 : d = 3
  · rw [eqB_t a3]
    conv => whnf
    refine ⟨[0], false, ?_⟩
    conv => whnf
    refine (ho (p + 1) [[120], [34], [65]] (by omega) (by omega) (by simp) (by simp)).mono ?_
    rintro o st' ⟨tx, htx, rfl, rfl⟩
    have hl : tx.length ≤ 1000 := by
      simp only [List.mem_cons, List.not_mem_nil, or_false] at htx
      rcases htx with rfl | rfl | rfl <;> decide
    conv => whnf
    refine ⟨[], false, ?_⟩
    conv => whnf
    exact hend ⟨kind, sid, at_, .mk nid nk nx nks, tx⟩ _ ⟨d1, d2, hl⟩ (by omega) (by omega)
  rw [eqB_f a3]
  conv => whnf
  refine ⟨[0], false, ?_⟩
  conv => whnf
  refine (hp (p + 1) 5 (by omega) (by omega)).mono ?_
  rintro o st' ⟨m, m0, m1, rfl, rfl⟩
  have w1 : IntKind.i64.wrap (1 + m) = 1 + m := wrap64 (by omega) (by have := m1 (by omega); omega)
  conv => whnf
  rw [w1]
  refine ⟨[], false, ?_⟩
  conv => whnf
  exact hend ⟨kind, sid, at_, .mk (1 + m) [112, 97, 114] [] [], text⟩ _ ⟨.mk (by have := m1 (by omega); omega) (by simp) (by simp) (by simp) (by simp), by simp [T.size, T.sizeL], d3⟩ (by omega) (by omega)
def DrawRS (r : V) : Prop := ∃ (t : T) (s : Stp), t.Small ∧ t.size ≤ 600000 ∧ s.Dr ∧ r = .tup [.agg t.cells, .agg s.cells]
set_option maxHeartbeats 8000000 in
theorem drawStepDo_pure (bs : List UInt8) (hb : bs.length ≤ 1048576) : Pure Try.prog 38 [.sl (brows bs)] DrawRS := by
  have ho := l1Open_full bs hb
  refine pure_of_awp good Try.func38 rfl (by kernel_rfl) (by decide) ?_
  conv => whnf
  refine .inr (.inl ⟨[], false, ?_⟩)
  conv => whnf
  refine ho.mono ?_
  rintro o st' ⟨rfl, bs', hb', rfl⟩
  conv => whnf
  refine ⟨[2], false, ?_⟩
  conv => whnf
  refine (l11Some_full bs' hb' 0 16 (by omega) (by omega)).mono ?_
  rintro o st' ⟨t, p, s1, s2, s3, s4, rfl, rfl⟩
  have hed := l11Edit_full bs' hb' p 100 (by omega) (by omega) (by omega) (by omega) t s1 s2
  rcases t with ⟨ti, tk, tx, tks⟩
  conv => whnf
  refine ⟨[2, 4], false, ?_⟩
  conv => whnf
  refine hed.mono ?_
  rintro o st' ⟨⟨skind, sid, sat, snode, stext⟩, p', k', d1, d2, d3, d4, d5, rfl, rfl⟩
  have hpk := pick_full bs' p' 6 hb' (by omega) (by omega)
  have hspo := l11SpoilStep_full bs' hb' (p' + 1) (by omega) (by omega) _ d1
  rcases snode with ⟨ni, nk, nx, nks⟩
  have hfin : ∀ s : Stp, s.Dr → DrawRS (.tup [.agg (T.mk ti tk tx tks).cells, .agg s.cells]) := fun s h => ⟨_, s, s1, s2, h, rfl⟩
  conv => whnf
  refine ⟨[2], false, ?_⟩
  conv => whnf
  refine hpk.mono ?_
  rintro o st' ⟨c, c0, c1, rfl, rfl⟩
  conv => whnf
  by_cases hc : c = 0
  · rw [eqB_t hc]
    conv => whnf
    refine ⟨[2], false, ?_⟩
    conv => whnf
    refine hspo.mono ?_
    rintro o st' ⟨⟨ykind, yid, yat, ynode, ytext⟩, q', f1, f2, f3, rfl, rfl⟩
    rcases ynode with ⟨mi, mk, mx, mks⟩
    have hfin := hfin ⟨ykind, yid, yat, .mk mi mk mx mks, ytext⟩ f1
    conv => whnf
    repeat (refine And.intro (by
              (conv => whnf)
              first
                | rfl
                | exact hfin) ?_
            conv => whnf)
    exact hfin
  · rw [eqB_f hc]
    have hfin := hfin ⟨skind, sid, sat, .mk ni nk nx nks, stext⟩ d1
    conv => whnf
    repeat (refine And.intro (by
              (conv => whnf)
              first
                | rfl
                | exact hfin) ?_
            conv => whnf)
    exact hfin
end Go.Cod

namespace Go.Cod
open Go Go.Proofs
set_option maxRecDepth 10000

/- What a step leaves as it was. -/
mutual
def T.hd : T → List (Int × List UInt8 × List UInt8)
  | .mk id kind text kids => (id, kind, text) :: T.hdL kids
def T.hdL : List T → List (Int × List UInt8 × List UInt8)
  | [] => []
  | t :: ts => t.hd ++ T.hdL ts
end
mutual
theorem T.hd_ids : ∀ t : T, t.hd.map (·.1) = t.ids
  | .mk id kind text kids => by simp only [T.hd, T.ids, List.map_cons, T.hdL_ids kids]
theorem T.hdL_ids : ∀ ts : List T, (T.hdL ts).map (·.1) = T.idsL ts
  | [] => rfl
  | t :: ts => by simp only [T.hdL, T.idsL, List.map_append, T.hd_ids t, T.hdL_ids ts]
end
theorem T.hd_mem {t : T} {i : Int} {k x : List UInt8} (h : (i, k, x) ∈ t.hd) : i ∈ t.ids := by rw [← T.hd_ids]; exact List.mem_map.2 ⟨_, h, rfl⟩
theorem T.hdL_mem {ts : List T} {i : Int} {k x : List UInt8} (h : (i, k, x) ∈ T.hdL ts) : i ∈ T.idsL ts := by rw [← T.hdL_ids]; exact List.mem_map.2 ⟨_, h, rfl⟩
theorem T.mem_hd {t : T} {i : Int} (h : i ∈ t.ids) : ∃ k x, (i, k, x) ∈ t.hd := by
  rw [← T.hd_ids] at h
  obtain ⟨⟨j, k, x⟩, h1, rfl⟩ := List.mem_map.1 h
  exact ⟨k, x, h1⟩
theorem T.hdL_append (a b : List T) : T.hdL (a ++ b) = T.hdL a ++ T.hdL b := by
  induction a with
  | nil => rfl
  | cons t a ih => simp [T.hdL, ih]
mutual
theorem found_hd : ∀ (t : T) (i : Int) (k x : List UInt8), t.ids.Nodup → (i, k, x) ∈ t.hd → ∃ b, fT t i = some b ∧ b.kind = k ∧ b.text = x
  | .mk id kind text kids, i, k, x, hn, h => by
    simp only [T.ids, List.nodup_cons] at hn
    simp only [T.hd, List.mem_cons] at h
    simp only [fT]
    rcases h with h | h
    · cases h
      exact ⟨_, if_pos rfl, rfl, rfl⟩
    · have hi := T.hdL_mem h
      have hne : ¬ id = i := fun e => hn.1 (e ▸ hi)
      rw [if_neg hne]
      exact found_hdL kids i k x hn.2 h
theorem found_hdL : ∀ (ts : List T) (i : Int) (k x : List UInt8), (T.idsL ts).Nodup → (i, k, x) ∈ T.hdL ts → ∃ b, fL ts i = some b ∧ b.kind = k ∧ b.text = x
  | [], _, _, _, _, h => by simp [T.hdL] at h
  | t :: ts, i, k, x, hn, h => by
    simp only [T.idsL, List.nodup_append] at hn
    simp only [T.hdL, List.mem_append] at h
    simp only [fL]
    rcases h with h | h
    · obtain ⟨b, h1, h2⟩ := found_hd t i k x hn.1 h
      rw [h1]
      exact ⟨b, rfl, h2⟩
    · have hi := T.hdL_mem h
      have hne : i ∉ t.ids := fun e => hn.2.2 i e i hi rfl
      rw [(fT_none t i).2 hne]
      exact found_hdL ts i k x hn.2.1 h
end
mutual
theorem put_hd (x : Int) (n : Nat) (y : T) : ∀ (t : T), ∀ e ∈ t.hd, e ∈ (t.mapAt x (putKidT n y)).hd
  | .mk id kind text kids, e, h => by
    simp only [T.hd, List.mem_cons] at h
    simp only [T.mapAt]
    split
    · simp only [putKidT, T.hd, List.mem_cons, T.hdL_append, T.hdL, List.mem_append]
      have hk : T.hdL kids = T.hdL (kids.take n) ++ T.hdL (kids.drop n) := by rw [← T.hdL_append, List.take_append_drop]
      rw [hk, List.mem_append] at h
      rcases h with h | h | h
      · exact .inl h
      · exact .inr (.inl h)
      · exact .inr (.inr (.inr h))
    · simp only [T.hd, List.mem_cons]
      rcases h with h | h
      · exact .inl h
      · exact .inr (put_hdL x n y kids e h)
theorem put_hdL (x : Int) (n : Nat) (y : T) : ∀ (ts : List T), ∀ e ∈ T.hdL ts, e ∈ T.hdL (T.mapAtL x (putKidT n y) ts)
  | [], e, h => by simp [T.hdL] at h
  | t :: ts, e, h => by
    simp only [T.hdL, List.mem_append] at h
    simp only [T.mapAtL, T.hdL, List.mem_append]
    rcases h with h | h
    · exact .inl (put_hd x n y t e h)
    · exact .inr (put_hdL x n y ts e h)
end
mutual
theorem set_hd (x : Int) (k w : List UInt8) : ∀ (t : T), (∀ e ∈ t.hd, e.1 ≠ x → e ∈ (t.mapAt x (setT k w)).hd) ∧ (t.mapAt x (setT k w)).ids = t.ids
  | .mk id kind text kids => by
    obtain ⟨h1, h2⟩ := set_hdL x k w kids
    simp only [T.mapAt]
    by_cases hid : id = x
    · rw [if_pos hid]
      simp only [setT, T.hd, T.ids, List.mem_cons, and_true]
      rintro e (rfl | h) hne
      · exact absurd hid hne
      · exact .inr h
    · rw [if_neg hid]
      simp only [T.hd, T.ids, List.mem_cons, h2, and_true]
      rintro e (rfl | h) hne
      · exact .inl rfl
      · exact .inr (h1 e h hne)
theorem set_hdL (x : Int) (k w : List UInt8) : ∀ (ts : List T), (∀ e ∈ T.hdL ts, e.1 ≠ x → e ∈ T.hdL (T.mapAtL x (setT k w) ts)) ∧ T.idsL (T.mapAtL x (setT k w) ts) = T.idsL ts
  | [] => by simp [T.hdL, T.mapAtL]
  | t :: ts => by
    obtain ⟨h1, h2⟩ := set_hd x k w t
    obtain ⟨h3, h4⟩ := set_hdL x k w ts
    simp only [T.mapAtL, T.hdL, T.idsL, h2, h4, List.mem_append, and_true]
    rintro e (h | h) hne
    · exact .inl (h1 e h hne)
    · exact .inr (h3 e h hne)
end
mutual
theorem cut_hd (c : Int) : ∀ (t g : T), t.ids.Nodup → ¬ t.id = c → fT t c = some g → (∀ e ∈ t.hd, e.1 ∉ g.ids → e ∈ (t.cut c).hd) ∧ ∀ i ∈ g.ids, i ∉ (t.cut c).ids
  | .mk id kind text kids, g, hn, hid, hf => by
    simp only [T.ids, List.nodup_cons] at hn
    simp only [T.id] at hid
    simp only [fT, if_neg hid] at hf
    obtain ⟨h1, h2⟩ := cut_hdL c kids g hn.2 hf
    have hsub := (fL_spec kids c g hf).2.1
    simp only [T.cut, T.hd, T.ids, List.mem_cons, not_or]
    refine ⟨?_, fun i hi => ⟨fun e => hn.1 (e ▸ hsub.subset hi), h2 i hi⟩⟩
    rintro e (rfl | h) hne
    · exact .inl rfl
    · exact .inr (h1 e h hne)
theorem cut_hdL (c : Int) : ∀ (ts : List T) (g : T), (T.idsL ts).Nodup → fL ts c = some g → (∀ e ∈ T.hdL ts, e.1 ∉ g.ids → e ∈ T.hdL (T.cutL c ts)) ∧ ∀ i ∈ g.ids, i ∉ T.idsL (T.cutL c ts)
  | [], _, _, hf => by simp [fL] at hf
  | t :: ts, g, hn, hf => by
    simp only [T.idsL, List.nodup_append] at hn
    simp only [fL] at hf
    simp only [T.cutL, T.hdL]
    by_cases hid : t.id = c
    · have hft : fT t c = some t := by cases t; simp only [T.id] at hid; simp only [fT, if_pos hid]
      rw [hft, Option.some.injEq] at hf
      subst hf
      have hc : c ∉ T.idsL ts := fun h => hn.2.2 c (hid ▸ t.id_mem) c h rfl
      rw [if_pos hid, T.cutL_none c ts hc]
      refine ⟨fun e he hne => ?_, fun i hi h => hn.2.2 i hi i h rfl⟩
      rcases List.mem_append.1 he with h | h
      · exact absurd (T.hd_mem (k := e.2.1) (x := e.2.2) h) hne
      · exact h
    · rw [if_neg hid]
      simp only [T.hdL, T.idsL, List.mem_append, not_or]
      cases h1 : fT t c with
      | some g' =>
        rw [h1, Option.some.injEq] at hf
        subst hf
        have hct := fT_mem h1
        have hc : c ∉ T.idsL ts := fun h => hn.2.2 c hct c h rfl
        obtain ⟨a1, a2⟩ := cut_hd c t g' hn.1 hid h1
        have hsub := (fT_spec t c g' h1).2.1
        rw [T.cutL_none c ts hc]
        refine ⟨?_, fun i hi => ⟨a2 i hi, fun h => hn.2.2 i (hsub.subset hi) i h rfl⟩⟩
        rintro e (h | h) hne
        · exact .inl (a1 e h hne)
        · exact .inr h
      | none =>
        rw [h1] at hf
        have hct := (fT_none t c).1 h1
        obtain ⟨a1, a2⟩ := cut_hdL c ts g hn.2.1 hf
        have hsub := (fL_spec ts c g hf).2.1
        rw [T.cut_none c t hct]
        refine ⟨?_, fun i hi => ⟨fun h => hn.2.2 i h i (hsub.subset hi) rfl, a2 i hi⟩⟩
        rintro e (h | h) hne
        · exact .inl h
        · exact .inr (a1 e h hne)
end
theorem findT_ok {t : T} (h : okT t = true) (x : Int) : findT t x = fT t x := by unfold findT; rw [if_pos h]
/-- What comes of a step that can be done, thing by thing. -/
theorem stepOnly {t y : T} {s : Stp} (hok : okT t = true) (hd : doT t s = some y) : okT y = true ∧ ∃ g, findT t s.id = some g ∧ idsOf g = g.ids ∧ ∀ i ∈ t.ids, ∃ a, findT t i = some a ∧
    ((s.kind = 2 ∧ i ∈ g.ids ∧ findT y i = none) ∨ (¬ (s.kind = 2 ∧ i ∈ g.ids) ∧ ∃ b, findT y i = some b ∧ (i ≠ s.id → a.kind = b.kind ∧ a.text = b.text))) := by
  obtain ⟨he, hy⟩ := doT_ok hd
  have hn := ((okT_iff' t).1 hok).2.1
  have hny := ((okT_iff' y).1 hy).2.1
  refine ⟨hy, ?_⟩
  have hg : ∃ g, fT t s.id = some g := by
    unfold editT at he
    cases hf : fT t s.id with
    | none => rw [hf] at he; cases he
    | some g => exact ⟨g, rfl⟩
  obtain ⟨g, hg⟩ := hg
  have hgf : findT t s.id = some g := by rw [findT_ok hok]; exact hg
  refine ⟨g, hgf, (findT_spec hgf).2.2.2.2.1, fun i hi => ?_⟩
  obtain ⟨k, x, hm⟩ := T.mem_hd hi
  obtain ⟨a, ha1, ha2, ha3⟩ := found_hd t i k x hn hm
  refine ⟨a, by rw [findT_ok hok]; exact ha1, ?_⟩
  rw [findT_ok hy]
  have hkeep : (i, k, x) ∈ y.hd → ∃ b, fT y i = some b ∧ (i ≠ s.id → a.kind = b.kind ∧ a.text = b.text) := fun h => by
    obtain ⟨b, h1, h2, h3⟩ := found_hd y i k x hny h
    exact ⟨b, h1, fun _ => ⟨by rw [ha2, h2], by rw [ha3, h3]⟩⟩
  have hstay : i ∈ y.ids → i = s.id → ∃ b, fT y i = some b ∧ (i ≠ s.id → a.kind = b.kind ∧ a.text = b.text) := fun h e => by
    obtain ⟨k', x', h'⟩ := T.mem_hd h
    obtain ⟨b, h1, _⟩ := found_hd y i k' x' hny h'
    exact ⟨b, h1, fun hne => absurd e hne⟩
  have hset : ∀ kk w : List UInt8, y = t.mapAt s.id (setT kk w) → ∃ b, fT y i = some b ∧ (i ≠ s.id → a.kind = b.kind ∧ a.text = b.text) := fun kk w e => by
    obtain ⟨h1, h2⟩ := set_hd s.id kk w t
    rw [← e] at h1 h2
    by_cases hi2 : i = s.id
    · exact hstay (by rw [h2]; exact hi) hi2
    · exact hkeep (h1 _ hm hi2)
  unfold editT at he
  simp only [hg] at he
  split at he
  · cases he
  split at he
  · rename_i k1
    split at he
    · cases he
      exact .inr ⟨fun h => by omega, hkeep (put_hd _ _ _ t _ hm)⟩
    · cases he
  split at he
  · rename_i k1 k2
    split at he
    · cases he
    · rename_i hne
      cases he
      obtain ⟨h1, h2⟩ := cut_hd s.id t g hn (fun e => hne e.symm) hg
      by_cases hig : i ∈ g.ids
      · exact .inl ⟨k2, hig, (fT_none _ i).2 (h2 i hig)⟩
      · exact .inr ⟨fun h => hig h.2, hkeep (h1 _ hm hig)⟩
  split at he
  · rename_i k2 k3
    exact .inr ⟨fun h => k2 h.1, hset _ _ (Option.some.inj he).symm⟩
  split at he
  · rename_i k2 k3 k4
    exact .inr ⟨fun h => k2 h.1, hset _ _ (Option.some.inj he).symm⟩
  · cases he
end Go.Cod

namespace Go.Cod
open Go Go.Proofs
set_option maxRecDepth 10000

/- Steps, one behind the other. -/
def goT (t0 : T) : T → List Stp → T × Bool
  | x, [] => (x, true)
  | x, s :: ls => match doT x s with
    | some y => goT t0 y ls
    | none => (t0, false)
def stepsT (t : T) (ls : List Stp) : T × Bool := if okT t = true then goT t t ls else (TZ, false)
def prows (ls : List Stp) : List (List V) := ls.map Stp.cells
theorem prows_len (ls : List Stp) : (prows ls).length = ls.length := by simp [prows]
theorem prows_get (ls : List Stp) (i : Nat) (h : i < ls.length) : (prows ls)[i]? = some ls[i].cells := by simp [prows, h]
theorem goT_drop (t0 x : T) (ls : List Stp) (i : Nat) (h : i < ls.length) : goT t0 x (ls.drop i) = match doT x ls[i] with
    | some y => goT t0 y (ls.drop (i + 1))
    | none => (t0, false) := by
  rw [List.drop_eq_getElem_cons h]; rfl
theorem treeCopy_pure (t : T) (ht : t.Small) : Pure Try.prog 55 [.agg t.cells] (· = .agg t.cells) := by
  refine Full.freeze (Full.start (treeCopy_acc t ht [])) ?_
  rintro o st' ⟨l, h1, h2, rfl, rfl⟩
  refine ⟨_, _, .agg l.erase.cells, rfl, rfl, l.viewA h2 (fun e he => by simpa using he), ?_, by rw [h1]⟩
  cases l with
  | mk id kind text h kids => rcases h with _ | ⟨b, c⟩ <;> rfl
def Stp.Sm (s : Stp) : Prop := s.node.Small ∧ s.node.size ≤ 1048577 ∧ s.text.length ≤ 1048576
theorem doT_small {t : T} {s : Stp} {y : T} (ht : t.Small) (hok : okT t = true) (hs : s.Sm) (h : doT t s = some y) : y.Small ∧ okT y = true := by
  obtain ⟨h1, h2⟩ := doT_ok h
  exact ⟨editT_small ht (by have := okT_size hok; omega) hs.1 hs.2.2 h1, h2⟩
set_option maxHeartbeats 8000000 in
theorem implStepsDo_pure (t : T) (ls : List Stp) (ht : t.Small) (hls : ∀ s ∈ ls, s.Sm) (hl : ls.length ≤ 1048576) : Pure Try.prog 27 [.agg t.cells, .sl (prows ls)] (· = .tup [.agg (stepsT t ls).1.cells, .bool (stepsT t ls).2]) := by
  have f1 := implTreeOk t ht
  have f2 := treeCopy_pure t ht
  have hst : stepsT t ls = if okT t = true then goT t t ls else (TZ, false) := rfl
  have hlen := prows_len ls
  have hget := prows_get ls
  generalize stepsT t ls = res at *
  generalize prows ls = rows at *
  cases hok : okT t with
  | false =>
    rw [hok] at f1 hst
    rw [if_neg (by simp)] at hst
    subst hst
    cases t with
    | mk tid tk tx tks =>
    refine pure_of_awp good Try.func27 rfl (by kernel_rfl) (by decide) ?_
    conv => whnf
    refine .inl (f1.mono ?_)
    rintro r rfl
    conv => whnf
    rfl
  | true =>
    rw [hok] at f1 hst
    rw [if_pos rfl] at hst
    have hgo : goT t t ls = goT t t (ls.drop 0) := rfl
    rw [hgo] at hst
    have hD : ∀ x i (h : i < ls.length), goT t x (ls.drop i) = match doT x ls[i] with
        | some y => goT t y (ls.drop (i + 1))
        | none => (t, false) := fun x i h => goT_drop t x ls i h
    have hE : ∀ x, goT t x (ls.drop ls.length) = (x, true) := fun x => by rw [List.drop_of_length_le (by omega)]; rfl
    have hok' := hok
    have ht' := ht
    obtain ⟨tc, htc⟩ : ∃ tc, tc = t := ⟨_, rfl⟩
    cases t with
    | mk tid tk tx tks =>
    refine pure_of_awp good Try.func27 rfl (by kernel_rfl) (by decide) ?_
    conv => whnf
    refine .inl (f1.mono ?_)
    rintro r rfl
    conv => whnf
    refine .inl (f2.mono ?_)
    rintro r rfl
    conv => whnf
    refine loop_drop (fun n fr st => ∃ (i : Nat) (x : T), n + i = ls.length ∧ x.Small ∧ okT x = true ∧ res = goT (.mk tid tk tx tks) x (ls.drop i) ∧ st = [⟨[[.int .i64 tid, .str tk, .str tx, .sl (T.rows tks)]], 4, true, true, true, .cell⟩, ⟨[zrow], 4, true, true, true, .cell⟩, ⟨[x.cells], 4, true, true, true, .cell⟩] ∧
        Holds fr [(2, .ptr 0 0 0), (4, .ptr 1 0 0), (6, .ptr 2 0 0), (17, .sl rows), (18, .int .i64 ls.length), (19, .int .i64 i)]) ls.length none
      ⟨0, _, rfl, ht', hok', hst, rfl, rfl, rfl, rfl, rfl, by rw [← hlen]; rfl, rfl, trivial⟩ ?_
    rintro n fr st ⟨i, x, hi, x1, x2, x3, rfl, hh⟩
    obtain ⟨fr, rfl⟩ := hh.split
    clear hh
    conv => whnf
    by_cases hlt : i < ls.length
    · rw [ltB_t (by omega)]
      have hg := hget i hlt
      have hs := hls ls[i] (List.getElem_mem _)
      have hd := hD x i hlt
      have f3 := implStepDo_pure x ls[i] x1 hs.1 hs.2.2
      have hsm := fun y => doT_small (y := y) x1 x2 hs
      have hw : V.int .i64 (IntKind.i64.wrap ((i : Int) + 1)) = .int .i64 ((i + 1 : Nat) : Int) := by rw [wrap64 (by omega) (by omega)]; simp
      have hyes : ∀ y, doT x ls[i] = some y → stepT x ls[i] = (y, true) := fun y h => by unfold stepT; rw [if_pos x2, h]
      have hno : doT x ls[i] = none → stepT x ls[i] = (x, false) := fun h => by unfold stepT; rw [if_pos x2, h]
      generalize ls[i] = s at *
      obtain ⟨sk, sid, sat, sn, stx⟩ := s
      cases sn with
      | mk ni nk nx nks =>
      cases hdo : doT x ⟨sk, sid, sat, .mk ni nk nx nks, stx⟩ with
      | none =>
        rw [hno hdo] at f3
        rw [hdo] at hd
        cases x with
        | mk xi xk xx xks =>
        conv => whnf
        refine ⟨by omega, rows, _, 8, rfl, hg, rfl, rfl, ?_⟩
        conv => whnf
        refine .inl (f3.mono ?_)
        rintro r rfl
        conv => whnf
        refine .inl (f2.mono ?_)
        rintro r rfl
        conv => whnf
        rw [x3, hd]
        rfl
      | some y =>
        rw [hyes y hdo] at f3
        rw [hdo] at hd
        obtain ⟨y1, y2⟩ := hsm y hdo
        cases x with
        | mk xi xk xx xks =>
        cases y with
        | mk yi yk yx yks =>
        conv => whnf
        refine ⟨by omega, rows, _, 8, rfl, hg, rfl, rfl, ?_⟩
        conv => whnf
        refine .inl (f3.mono ?_)
        rintro r rfl
        conv => whnf
        refine ⟨n - 1, by omega, some [0, 1, 2], ?_⟩
        conv => whnf
        exact ⟨i + 1, _, by omega, y1, y2, x3.trans hd, rfl, rfl, rfl, rfl, rfl, rfl, hw, trivial⟩
    · rw [ltB_f (by omega)]
      have hil : i = ls.length := by omega
      subst hil
      rw [hE] at x3
      cases x with
      | mk xi xk xx xks =>
      conv => whnf
      rw [x3]
      rfl
end Go.Cod

namespace Go.Cod
open Go Go.Proofs
set_option maxRecDepth 10000

set_option maxHeartbeats 8000000 in
theorem specStepsDo_pure (t : T) (ls : List Stp) (ht : t.Small) (hz : t.size ≤ 1048577) (hls : ∀ s ∈ ls, s.Sm) (hl : ls.length ≤ 1048576) : Pure Try.prog 25 [.agg t.cells, .sl (prows ls)] (· = .tup [.agg (stepsT t ls).1.cells, .bool (stepsT t ls).2]) := by
  have f1 := specTreeOk_pure t ht (by rw [T.ids_size]; exact hz)
  have f2 := l2Copy_pure t ht
  have hst : stepsT t ls = if okT t = true then goT t t ls else (TZ, false) := rfl
  have hlen := prows_len ls
  have hget := prows_get ls
  generalize stepsT t ls = res at *
  generalize prows ls = rows at *
  cases hok : okT t with
  | false =>
    rw [hok] at f1 hst
    rw [if_neg (by simp)] at hst
    subst hst
    cases t with
    | mk tid tk tx tks =>
    refine pure_of_awp good Try.func25 rfl (by kernel_rfl) (by decide) ?_
    conv => whnf
    refine .inl (f1.mono ?_)
    rintro r rfl
    conv => whnf
    rfl
  | true =>
    rw [hok] at f1 hst
    rw [if_pos rfl] at hst
    have hgo : goT t t ls = goT t t (ls.drop 0) := rfl
    rw [hgo] at hst
    have hD : ∀ x i (h : i < ls.length), goT t x (ls.drop i) = match doT x ls[i] with
        | some y => goT t y (ls.drop (i + 1))
        | none => (t, false) := fun x i h => goT_drop t x ls i h
    have hE : ∀ x, goT t x (ls.drop ls.length) = (x, true) := fun x => by rw [List.drop_of_length_le (by omega)]; rfl
    have ht' := ht
    have hok' := hok
    cases t with
    | mk tid tk tx tks =>
    refine pure_of_awp good Try.func25 rfl (by kernel_rfl) (by decide) ?_
    conv => whnf
    refine .inl (f1.mono ?_)
    rintro r rfl
    conv => whnf
    refine loop_drop (fun n fr st => ∃ (i : Nat) (x : T), n + i = ls.length ∧ x.Small ∧ okT x = true ∧ res = goT (.mk tid tk tx tks) x (ls.drop i) ∧ st = [⟨[[.int .i64 tid, .str tk, .str tx, .sl (T.rows tks)]], 4, true, true, true, .cell⟩, ⟨[zrow], 4, true, true, true, .cell⟩, ⟨[x.cells], 4, true, true, true, .cell⟩] ∧
        Holds fr [(1, .sl rows), (2, .ptr 0 0 0), (4, .ptr 1 0 0), (6, .ptr 2 0 0), (7, .int .i64 i)]) ls.length none
      ⟨0, _, rfl, ht', hok', hst, rfl, rfl, rfl, rfl, rfl, rfl, trivial⟩ ?_
    rintro n fr st ⟨i, x, hi, x1, x2, x3, rfl, hh⟩
    obtain ⟨fr, rfl⟩ := hh.split
    clear hh
    have f4 := l2Copy_pure x x1
    cases x with
    | mk xi xk xx xks =>
    conv => whnf
    by_cases hlt : i < ls.length
    · rw [ltB_t (by omega)]
      have hg := hget i hlt
      have hs := hls ls[i] (List.getElem_mem _)
      have hd := hD (.mk xi xk xx xks) i hlt
      have f3 := l4Do_pure (.mk xi xk xx xks) ls[i] x1 (by have := okT_size x2; omega) ((okT_iff' _).1 x2).2.1 hs.1 hs.2.1 hs.2.2
      have hsm := fun y => doT_small (y := y) x1 x2 hs
      have hw : V.int .i64 (IntKind.i64.wrap ((i : Int) + 1)) = .int .i64 ((i + 1 : Nat) : Int) := by rw [wrap64 (by omega) (by omega)]; simp
      generalize ls[i] = s at *
      obtain ⟨sk, sid, sat, sn, stx⟩ := s
      cases sn with
      | mk ni nk nx nks =>
      cases hdo : doT (.mk xi xk xx xks) ⟨sk, sid, sat, .mk ni nk nx nks, stx⟩ with
      | none =>
        rw [hdo] at f3 hd
        have f3 : Pure Try.prog 51 _ (· = .tup [.agg (T.mk xi xk xx xks).cells, .bool false]) := f3
        conv => whnf
        repeat (first
          | (refine And.intro (by
                  (conv => whnf)
                  first
                    | rfl
                    | exact ⟨_, .inl f3, rfl⟩
                    | exact ⟨by omega, rows, _, 8, rfl, hg, rfl, rfl, rfl⟩
                    | exact ⟨by omega, rows, _, 8, rfl, hg, rfl, rfl, _, .inl f3, rfl⟩) ?_
             conv => whnf)
          | (refine ⟨by omega, rows, _, 8, rfl, hg, rfl, rfl, ?_⟩
             conv => whnf)
          | (refine ⟨_, .inl f3, ?_⟩
             conv => whnf))
        refine .inl (f2.mono ?_)
        rintro r rfl
        conv => whnf
        rw [x3, hd]
        rfl
      | some y =>
        rw [hdo] at f3 hd
        obtain ⟨y1, y2⟩ := hsm y hdo
        have f3 : Pure Try.prog 51 _ (· = .tup [.agg y.cells, .bool true]) := f3
        cases y with
        | mk yi yk yx yks =>
        conv => whnf
        repeat (first
          | (refine And.intro (by
                  (conv => whnf)
                  first
                    | rfl
                    | exact ⟨_, .inl f3, rfl⟩
                    | exact ⟨by omega, rows, _, 8, rfl, hg, rfl, rfl, rfl⟩
                    | exact ⟨by omega, rows, _, 8, rfl, hg, rfl, rfl, _, .inl f3, rfl⟩) ?_
             conv => whnf)
          | (refine ⟨by omega, rows, _, 8, rfl, hg, rfl, rfl, ?_⟩
             conv => whnf)
          | (refine ⟨_, .inl f3, ?_⟩
             conv => whnf))
        refine ⟨n - 1, by omega, some [0, 1, 2], ?_⟩
        conv => whnf
        exact ⟨i + 1, _, by omega, y1, y2, x3.trans hd, rfl, rfl, rfl, rfl, rfl, hw, trivial⟩
    · rw [ltB_f (by omega)]
      have hil : i = ls.length := by omega
      subst hil
      rw [hE] at x3
      conv => whnf
      refine .inl (f4.mono ?_)
      rintro r rfl
      conv => whnf
      rw [x3]
      rfl
end Go.Cod

namespace Go.Cod
open Go Go.Proofs
set_option maxRecDepth 10000

/- Two changes of one word each, of which neither is the other's, in either order. -/
def cT (p : Bool) (w : List UInt8) : T → T
  | .mk id kind text kids => match p with
    | true => .mk id kind w kids
    | false => .mk id w text kids
def cW (p : Bool) (w : List UInt8) : Bool := match p with
  | true => textL w
  | false => nameL w
mutual
theorem T.mapAt_at (i : Int) (f g : T → T) : ∀ (t : T) (x : T), t.ids.Nodup → fT t i = some x → f x = g x → t.mapAt i f = t.mapAt i g
  | .mk id kind text kids, x, hn, hf, h => by
    simp only [T.ids, List.nodup_cons] at hn
    simp only [fT] at hf
    by_cases hid : id = i
    · rw [if_pos hid, Option.some.injEq] at hf
      subst hf
      simp only [T.mapAt, if_pos hid, h]
    · rw [if_neg hid] at hf
      simp only [T.mapAt, if_neg hid, T.mapAtL_at i f g kids x hn.2 hf h]
theorem T.mapAtL_at (i : Int) (f g : T → T) : ∀ (ts : List T) (x : T), (T.idsL ts).Nodup → fL ts i = some x → f x = g x → T.mapAtL i f ts = T.mapAtL i g ts
  | [], _, _, _, _ => rfl
  | t :: ts, x, hn, hf, h => by
    simp only [T.idsL, List.nodup_append] at hn
    simp only [fL] at hf
    simp only [T.mapAtL]
    cases h1 : fT t i with
    | some y =>
      rw [h1, Option.some.injEq] at hf
      subst hf
      have hx : i ∈ t.ids := by
        refine Decidable.byContradiction fun h => ?_
        rw [(fT_none t i).2 h] at h1; cases h1
      have hx2 : i ∉ T.idsL ts := fun h2 => hn.2.2 i hx i h2 rfl
      rw [T.mapAt_at i f g t y hn.1 h1 h, T.mapAtL_none i f ts hx2, T.mapAtL_none i g ts hx2]
    | none =>
      rw [h1] at hf
      have hx := (fT_none t i).1 h1
      rw [T.mapAt_none i f t hx, T.mapAt_none i g t hx, T.mapAtL_at i f g ts x hn.2.1 hf h]
end
mutual
theorem set_ids (i : Int) (p : Bool) (w : List UInt8) : ∀ t : T, (t.mapAt i (cT p w)).ids = t.ids
  | .mk id kind text kids => by
    by_cases hid : id = i
    · simp only [T.mapAt, if_pos hid]
      cases p <;> rfl
    · simp only [T.mapAt, if_neg hid, T.ids, set_idsL i p w kids]
theorem set_idsL (i : Int) (p : Bool) (w : List UInt8) : ∀ ts : List T, T.idsL (T.mapAtL i (cT p w) ts) = T.idsL ts
  | [] => rfl
  | t :: ts => by simp only [T.mapAtL, T.idsL, set_ids i p w t, set_idsL i p w ts]
end
mutual
theorem set_plain (i : Int) (p : Bool) (w : List UInt8) (hw : cW p w = true) : ∀ (t : T) (lv : Int), plainT t lv = true → plainT (t.mapAt i (cT p w)) lv = true
  | .mk id kind text kids, lv, h => by
    by_cases hid : id = i
    · simp only [T.mapAt, if_pos hid]
      simp only [plainT, Bool.and_eq_true] at h
      cases p
      · simp only [cT, plainT, Bool.and_eq_true]
        exact ⟨⟨⟨h.1.1.1, hw⟩, h.1.2⟩, h.2⟩
      · simp only [cT, plainT, Bool.and_eq_true]
        exact ⟨⟨h.1.1, hw⟩, h.2⟩
    · simp only [T.mapAt, if_neg hid]
      simp only [plainT, Bool.and_eq_true] at h ⊢
      exact ⟨h.1, set_plainL i p w hw kids (lv + 1) h.2⟩
theorem set_plainL (i : Int) (p : Bool) (w : List UInt8) (hw : cW p w = true) : ∀ (ts : List T) (lv : Int), plainL ts lv = true → plainL (T.mapAtL i (cT p w) ts) lv = true
  | [], _, _ => rfl
  | t :: ts, lv, h => by
    simp only [plainL, Bool.and_eq_true] at h
    simp only [T.mapAtL, plainL, Bool.and_eq_true]
    exact ⟨set_plain i p w hw t lv h.1, set_plainL i p w hw ts lv h.2⟩
end
mutual
theorem set_word (i : Int) (p : Bool) (w : List UInt8) : ∀ (t : T) (lv : Int), i ∈ t.ids → plainT (t.mapAt i (cT p w)) lv = true → cW p w = true
  | .mk id kind text kids, lv, hi, h => by
    by_cases hid : id = i
    · simp only [T.mapAt, if_pos hid] at h
      cases p
      · simp only [cT, plainT, Bool.and_eq_true] at h
        exact h.1.1.2
      · simp only [cT, plainT, Bool.and_eq_true] at h
        exact h.1.2
    · simp only [T.mapAt, if_neg hid] at h
      simp only [plainT, Bool.and_eq_true] at h
      simp only [T.ids, List.mem_cons] at hi
      exact set_wordL i p w kids (lv + 1) (hi.resolve_left (Ne.symm hid)) h.2
theorem set_wordL (i : Int) (p : Bool) (w : List UInt8) : ∀ (ts : List T) (lv : Int), i ∈ T.idsL ts → plainL (T.mapAtL i (cT p w) ts) lv = true → cW p w = true
  | [], _, hi, _ => by simp [T.idsL] at hi
  | t :: ts, lv, hi, h => by
    simp only [T.mapAtL, plainL, Bool.and_eq_true] at h
    simp only [T.idsL, List.mem_append] at hi
    rcases hi with hi | hi
    · exact set_word i p w t lv hi h.1
    · exact set_wordL i p w ts lv hi h.2
end
mutual
theorem set_turn (i j : Int) (p q : Bool) (v w : List UInt8) (hne : ¬ (i = j ∧ p = q)) : ∀ t : T, (t.mapAt i (cT p v)).mapAt j (cT q w) = (t.mapAt j (cT q w)).mapAt i (cT p v)
  | .mk id kind text kids => by
    by_cases h1 : id = i <;> by_cases h2 : id = j
    · have hpq : p ≠ q := fun h => hne ⟨h1.symm.trans h2, h⟩
      cases p <;> cases q
      · exact absurd rfl hpq
      · simp only [T.mapAt, if_pos h1, if_pos h2, cT]
      · simp only [T.mapAt, if_pos h1, if_pos h2, cT]
      · exact absurd rfl hpq
    · cases p <;> simp only [T.mapAt, if_pos h1, if_neg h2, cT]
    · cases q <;> simp only [T.mapAt, if_neg h1, if_pos h2, cT]
    · simp only [T.mapAt, if_neg h1, if_neg h2, set_turnL i j p q v w hne kids]
theorem set_turnL (i j : Int) (p q : Bool) (v w : List UInt8) (hne : ¬ (i = j ∧ p = q)) : ∀ ts : List T, T.mapAtL j (cT q w) (T.mapAtL i (cT p v) ts) = T.mapAtL i (cT p v) (T.mapAtL j (cT q w) ts)
  | [] => rfl
  | t :: ts => by simp only [T.mapAtL, set_turn i j p q v w hne t, set_turnL i j p q v w hne ts]
end
/-- A step that sets a word, told by what it sets. -/
theorem edit_set (t : T) (s : Stp) (hn : t.ids.Nodup) (hk : ¬ s.kind < 3) : editT t s = if s.id ∈ t.ids ∧ bareT s = true ∧ (s.kind = 3 ∨ s.kind = 4) then some (t.mapAt s.id (cT (decide (s.kind = 3)) s.text)) else none := by
  unfold editT
  cases hf : fT t s.id with
  | none =>
    have hx := (fT_none t s.id).1 hf
    simp only [hx, false_and, if_false]
  | some x =>
    have hx : s.id ∈ t.ids := Decidable.byContradiction fun h => by rw [(fT_none t s.id).2 h] at hf; cases hf
    simp only
    cases hb : bareT s with
    | false => rw [if_pos rfl, if_neg fun h => Bool.noConfusion h.2.1]
    | true =>
      rw [if_neg (by simp), if_neg (by omega), if_neg (by omega)]
      by_cases h3 : s.kind = 3
      · rw [if_pos h3, if_pos ⟨hx, rfl, .inl h3⟩, decide_eq_true h3]
        exact congrArg some (T.mapAt_at s.id _ _ t x hn hf (by cases x; rfl))
      · rw [if_neg h3]
        by_cases h4 : s.kind = 4
        · rw [if_pos h4, if_pos ⟨hx, rfl, .inr h4⟩, decide_eq_false h3]
          exact congrArg some (T.mapAt_at s.id _ _ t x hn hf (by cases x; rfl))
        · rw [if_neg h4, if_neg (by rintro ⟨_, _, h | h⟩ <;> contradiction)]
theorem do_set {t y : T} {s : Stp} (hok : okT t = true) (hk : ¬ s.kind < 3) : doT t s = some y ↔ s.id ∈ t.ids ∧ bareT s = true ∧ (s.kind = 3 ∨ s.kind = 4) ∧ cW (decide (s.kind = 3)) s.text = true ∧ y = t.mapAt s.id (cT (decide (s.kind = 3)) s.text) := by
  obtain ⟨h1, h2, h3⟩ := (okT_iff' t).1 hok
  have he := edit_set t s h2 hk
  constructor
  · intro h
    obtain ⟨h4, h5⟩ := doT_ok h
    rw [he] at h4
    split at h4
    · rename_i hc
      cases h4
      exact ⟨hc.1, hc.2.1, hc.2.2, set_word _ _ _ t 1 hc.1 ((okT_iff' _).1 h5).1, rfl⟩
    · cases h4
  · rintro ⟨h4, h5, h6, h7, rfl⟩
    rw [if_pos ⟨h4, h5, h6⟩] at he
    rw [doT_some he]
    unfold okO
    rw [if_pos]
    refine (okT_iff' _).2 ?_
    rw [set_ids]
    exact ⟨set_plain _ _ _ h7 t 1 h1, h2, h3⟩
theorem steps_two (t : T) (a b : Stp) (hok : okT t = true) : stepsT t [a, b] = match doT t a with
    | none => (t, false)
    | some x => match doT x b with
      | none => (t, false)
      | some y => (y, true) := by
  unfold stepsT
  rw [if_pos hok]
  simp only [goT]
  cases doT t a with
  | none => rfl
  | some x =>
    simp only
    cases doT x b with
    | none => rfl
    | some y => rfl
theorem steps_turn {t y : T} {a b : Stp} (h : stepsT t [a, b] = (y, true)) (ha : ¬ a.kind < 3) (hb : ¬ b.kind < 3) (hne : ¬ (a.id = b.id ∧ a.kind = b.kind)) : stepsT t [b, a] = (y, true) := by
  have hok : okT t = true := by
    refine Decidable.byContradiction fun hc => ?_
    unfold stepsT at h
    rw [if_neg hc] at h
    cases h
  rw [steps_two t a b hok] at h
  rw [steps_two t b a hok]
  cases h1 : doT t a with
  | none => rw [h1] at h; cases h
  | some x =>
    rw [h1] at h
    simp only at h
    cases h2 : doT x b with
    | none => rw [h2] at h; cases h
    | some z =>
      rw [h2] at h
      cases h
      have hx := (doT_ok h1).2
      obtain ⟨a1, a2, a3, a4, rfl⟩ := (do_set hok ha).1 h1
      obtain ⟨b1, b2, b3, b4, rfl⟩ := (do_set hx hb).1 h2
      rw [set_ids] at b1
      have c1 := (do_set hok hb).2 ⟨b1, b2, b3, b4, rfl⟩
      have c2 := (doT_ok c1).2
      rw [c1]
      simp only
      rw [(do_set c2 ha).2 ⟨by rw [set_ids]; exact a1, a2, a3, a4, rfl⟩]
      simp only
      rw [set_turn]
      rintro ⟨e1, e2⟩
      refine hne ⟨e1.symm, ?_⟩
      by_cases q : a.kind = 3
      · have : b.kind = 3 := of_decide_eq_true (by rw [e2]; exact decide_eq_true q)
        omega
      · have : ¬ b.kind = 3 := of_decide_eq_false (by rw [e2]; exact decide_eq_false q)
        omega
theorem stepsT_small {t : T} (ht : t.Small) {ls : List Stp} (hls : ∀ s ∈ ls, s.Sm) : (stepsT t ls).1.Small := by
  unfold stepsT
  split
  · rename_i hok
    suffices H : ∀ (ls : List Stp) (x : T), x.Small → okT x = true → (∀ s ∈ ls, s.Sm) → (goT t x ls).1.Small from H ls t ht hok hls
    intro ls
    induction ls with
    | nil => intro x hx _ _; exact hx
    | cons s ls ih =>
      intro x hx hxo h
      simp only [goT]
      cases hd : doT x s with
      | none => exact ht
      | some y =>
        obtain ⟨h1, h2⟩ := doT_small hx hxo (h s (List.mem_cons_self ..)) hd
        exact ih y h1 h2 fun s' hs' => h s' (List.mem_cons_of_mem _ hs')
  · exact TZ_small
end Go.Cod

namespace Go.Cod
open Go Go.Proofs
set_option maxRecDepth 10000

/- A drawn tree is even: where a number stands twice, the later ones bear as many kids as the first. -/
def T.Even (t : T) : Prop := ∀ (x : Int) (s : T) (n : Nat), fT t x = some s → n ≤ s.kids.length → t.PutOk x n
def EvenL (ts : List T) : Prop := ∀ (x : Int) (s : T) (n : Nat), fL ts x = some s → n ≤ s.kids.length → T.PutOkL x n ts
theorem even_nodup {t : T} (hn : t.ids.Nodup) : t.Even := fun x s n h1 h2 => putOk_found x n t s hn h1 h2
theorem evenL_nodup {ts : List T} (hn : (T.idsL ts).Nodup) : EvenL ts := fun x s n h1 h2 => putOkL_found x n ts s hn h1 h2
theorem even_mk {id : Int} {kind text : List UInt8} {kids : List T} (h : ∀ (x : Int) (s : T) (n : Nat), x ≠ id → fL kids x = some s → n ≤ s.kids.length → T.PutOkL x n kids) : (T.mk id kind text kids).Even := by
  intro x s n h1 h2
  simp only [fT] at h1
  simp only [T.PutOk]
  by_cases e : id = x
  · rw [if_pos e] at h1 ⊢
    cases h1
    exact h2
  · rw [if_neg e] at h1 ⊢
    exact h x s n (Ne.symm e) h1 h2
theorem fL_append (a b : List T) (x : Int) : fL (a ++ b) x = match fL a x with
    | some s => some s
    | none => fL b x := by
  induction a with
  | nil => rfl
  | cons t a ih =>
    simp only [List.cons_append, fL, ih]
    cases fT t x <;> rfl
theorem putOkL_append {x : Int} {n : Nat} {a b : List T} (ha : T.PutOkL x n a) (hb : T.PutOkL x n b) : T.PutOkL x n (a ++ b) := by
  induction a with
  | nil => exact hb
  | cons t a ih => exact ⟨ha.1, ih ha.2⟩
/-- What spoiling adds to the numbers. -/
def Spec (i : Int) : Prop := i < 2 ∨ 20 ≤ i
theorem wide_ids : ∀ i : Nat, ∀ x ∈ T.idsL (wideN i), 600 ≤ x
  | 0, x, h => by simp [wideN, T.idsL] at h
  | i + 1, x, h => by
    rw [wideN, idsL_snoc] at h
    rcases List.mem_append.1 h with h | h
    · exact wide_ids i x h
    · simp [T.ids, T.idsL] at h; omega
theorem deep_ids (t : T) : ∀ i : Nat, ∀ x ∈ (deepN t i).ids, x ∈ t.ids ∨ 500 ≤ x
  | 0, x, h => .inl h
  | i + 1, x, h => by
    simp only [deepN, T.ids, T.idsL, List.mem_cons, List.append_nil] at h
    rcases h with h | h
    · right; omega
    · exact deep_ids t i x h
theorem spoil_ids {t t' : T} (h : SpoilOf t t') : ∀ x ∈ t'.ids, x ∈ t.ids ∨ Spec x := by
  induction h with
  | @kid id kind text kids i hi t' hs ih =>
    intro x hx
    simp only [T.ids, List.mem_cons] at hx ⊢
    rcases hx with hx | hx
    · exact .inl (.inl hx)
    · have : ∀ (ks : List T) (j : Nat) (hj : j < ks.length), (∀ y ∈ t'.ids, y ∈ ks[j].ids ∨ Spec y) → ∀ y ∈ T.idsL (ks.set j t'), y ∈ T.idsL ks ∨ Spec y := by
        intro ks
        induction ks with
        | nil => intro j hj; simp at hj
        | cons k ks ihk =>
          intro j hj hh y hy
          cases j with
          | zero =>
            simp only [List.set_cons_zero, T.idsL, List.mem_append] at hy ⊢
            rcases hy with hy | hy
            · exact (hh y hy).imp .inl _root_.id
            · exact .inl (.inr hy)
          | succ j =>
            simp only [List.set_cons_succ, T.idsL, List.mem_append] at hy ⊢
            rcases hy with hy | hy
            · exact .inl (.inl hy)
            · exact (ihk j (by simpa using hj) hh y hy).imp .inr _root_.id
      exact (this kids i hi ih x hx).imp .inr _root_.id
  | id z hz =>
    intro x hx
    simp only [T.ids, List.mem_cons] at hx ⊢
    rcases hx with rfl | hx
    · right; unfold Spec; omega
    · exact .inl (.inr hx)
  | word k' x' => exact fun x hx => .inl hx
  | @twice id kind text kids =>
    intro x hx
    simp only [T.ids, idsL_snoc, List.mem_cons, List.mem_append] at hx ⊢
    rcases hx with hx | hx | hx | hx
    · exact .inl (.inl hx)
    · exact .inl (.inr hx)
    · exact .inl (.inl hx)
    · exact .inl (.inr hx)
  | @deep t =>
    intro x hx
    rcases deep_ids t 6 x hx with h | h
    · exact .inl h
    · right; unfold Spec; omega
  | @wide id kind text kids =>
    intro x hx
    simp only [T.ids, T.idsL_append, List.mem_cons, List.mem_append] at hx ⊢
    rcases hx with hx | hx | hx
    · exact .inl (.inl hx)
    · exact .inl (.inr hx)
    · have := wide_ids 20 x hx
      right; unfold Spec; omega
theorem wide_put (x : Int) : ∀ (i : Nat) (n : Nat), n ≤ 0 → T.PutOkL x n (wideN i)
  | 0, _, _ => trivial
  | i + 1, n, h => by
    rw [wideN]
    refine putOkL_append (wide_put x i n h) ⟨?_, trivial⟩
    simp only [T.PutOk]
    split
    · omega
    · trivial
theorem wide_kids : ∀ (i : Nat) (x : Int) (s : T), fL (wideN i) x = some s → s.kids = []
  | 0, x, s, h => by simp [wideN, fL] at h
  | i + 1, x, s, h => by
    rw [wideN, fL_append] at h
    cases h1 : fL (wideN i) x with
    | some s' =>
      rw [h1] at h
      cases h
      exact wide_kids i x s h1
    | none =>
      rw [h1] at h
      simp only [fL, fT] at h
      split at h
      · rename_i s' h2
        split at h2
        · cases h2; cases h; rfl
        · cases h2
      · cases h
theorem deep_even (t : T) (ht : t.Even) (hl : ∀ x ∈ t.ids, x < 500) : ∀ i : Nat, (deepN t i).Even
  | 0 => ht
  | i + 1 => by
    refine even_mk fun x s n hne h1 h2 => ?_
    simp only [fL] at h1
    have : fT (deepN t i) x = some s := by
      cases h3 : fT (deepN t i) x with
      | some s' => rw [h3] at h1; exact h1
      | none => rw [h3] at h1; cases h1
    exact ⟨deep_even t ht hl i x s n this h2, trivial⟩
theorem idsL_get : ∀ (l : List T) (i : Nat) (hi : i < l.length), (T.idsL l).Nodup → l[i].ids.Nodup ∧ ∀ y ∈ l[i].ids, y ∈ T.idsL l
  | [], i, hi, _ => by simp at hi
  | t :: l, 0, _, hn => by
    simp only [T.idsL, List.nodup_append] at hn
    exact ⟨hn.1, fun y hy => by simp only [T.idsL, List.mem_append]; exact .inl hy⟩
  | t :: l, i + 1, hi, hn => by
    simp only [T.idsL, List.nodup_append] at hn
    have := idsL_get l i (by simpa using hi) hn.2.1
    exact ⟨this.1, fun y hy => by simp only [T.idsL, List.mem_append]; exact .inr (this.2 y hy)⟩
theorem kids_ids {t : T} {x : Int} (h : x ∈ T.idsL t.kids) : x ∈ t.ids := by
  cases t
  simp only [T.ids, List.mem_cons]
  exact .inr h
theorem id_ids (t : T) : t.id ∈ t.ids := by
  cases t
  simp only [T.ids, List.mem_cons]
  exact .inl rfl
theorem spoil_even {t t' : T} (h : SpoilOf t t') : t.ids.Nodup → (∀ x ∈ T.idsL t.kids, 2 ≤ x ∧ x < 20) → t.id < 500 → t'.Even := by
  induction h with
  | @kid id kind text kids i hi t' hs ih =>
    intro hn hr2 _
    have hids := spoil_ids hs
    simp only [T.ids, List.nodup_cons] at hn
    have hg := idsL_get kids i hi hn.2
    have hr3 : ∀ x ∈ T.idsL kids, 2 ≤ x ∧ x < 20 := hr2
    have he := ih hg.1 (fun x h => hr3 x (hg.2 x (kids_ids h))) (by have := hr3 _ (hg.2 _ (id_ids kids[i])); omega)
    refine even_mk fun x s n hne => ?_
    have key : ∀ (ks : List T) (j : Nat) (hj : j < ks.length), (T.idsL ks).Nodup → (∀ y ∈ t'.ids, y ∈ ks[j].ids ∨ Spec y) → t'.Even → (∀ y ∈ T.idsL ks, y = x → ¬ Spec x ∨ x ∉ t'.ids ∨ y ∈ ks[j].ids) →
        fL (ks.set j t') x = some s → n ≤ s.kids.length → T.PutOkL x n (ks.set j t') := by
      intro ks
      induction ks with
      | nil => intro j hj; simp at hj
      | cons k ks ihk =>
        intro j hj hkn hh he hs1 h1 h2
        simp only [T.idsL, List.nodup_append] at hkn
        cases j with
        | zero =>
          simp only [List.set_cons_zero, fL] at h1 ⊢
          simp only [List.getElem_cons_zero] at hh hs1
          cases h3 : fT t' x with
          | some s' =>
            rw [h3] at h1
            cases h1
            have hx : x ∈ t'.ids := Decidable.byContradiction fun hc => by rw [(fT_none t' x).2 hc] at h3; cases h3
            refine ⟨he x s n h3 h2, putOkL_none x n ks fun hks => ?_⟩
            rcases hh x hx with h | h
            · exact hkn.2.2 x h x hks rfl
            · rcases hs1 x (by simp [T.idsL, hks]) rfl with h4 | h4 | h4
              · exact h4 h
              · exact h4 hx
              · exact hkn.2.2 x h4 x hks rfl
          | none =>
            rw [h3] at h1
            exact ⟨putOk_none x n t' ((fT_none t' x).1 h3), evenL_nodup hkn.2.1 x s n h1 h2⟩
        | succ j =>
          simp only [List.set_cons_succ, fL] at h1 ⊢
          simp only [List.getElem_cons_succ] at hh hs1
          have hj' : j < ks.length := by simpa using hj
          have hkj : ∀ y ∈ ks[j].ids, y ∈ T.idsL ks := by
            intro y hy
            have : ∀ (l : List T) (i : Nat) (hi : i < l.length), y ∈ l[i].ids → y ∈ T.idsL l := by
              intro l
              induction l with
              | nil => intro i hi; simp at hi
              | cons a l ihl =>
                intro i hi h
                simp only [T.idsL, List.mem_append]
                cases i with
                | zero => exact .inl h
                | succ i => exact .inr (ihl i (by simpa using hi) h)
            exact this ks j hj' hy
          cases h3 : fT k x with
          | some s' =>
            rw [h3] at h1
            cases h1
            have hx : x ∈ k.ids := Decidable.byContradiction fun hc => by rw [(fT_none k x).2 hc] at h3; cases h3
            refine ⟨putOk_found x n k s hkn.1 h3 h2, putOkL_none x n _ fun hks => ?_⟩
            have hxk : x ∉ T.idsL ks := fun h => hkn.2.2 x hx x h rfl
            have hmem : x ∈ t'.ids ∨ x ∈ T.idsL ks := by
              have : ∀ (l : List T) (i : Nat), x ∈ T.idsL (l.set i t') → x ∈ t'.ids ∨ x ∈ T.idsL l := by
                intro l
                induction l with
                | nil => intro i h; simp [T.idsL] at h
                | cons a l ihl =>
                  intro i h
                  cases i with
                  | zero =>
                    simp only [List.set_cons_zero, T.idsL, List.mem_append] at h ⊢
                    exact h.imp _root_.id .inr
                  | succ i =>
                    simp only [List.set_cons_succ, T.idsL, List.mem_append] at h ⊢
                    rcases h with h | h
                    · exact .inr (.inl h)
                    · exact (ihl i h).imp _root_.id .inr
              exact this ks j hks
            rcases hmem with h | h
            · rcases hs1 x (by simp [T.idsL, hx]) rfl with h4 | h4 | h4
              · rcases hh x h with h5 | h5
                · exact hxk (hkj x h5)
                · exact h4 h5
              · exact h4 h
              · exact hxk (hkj x h4)
            · exact hxk h
          | none =>
            rw [h3] at h1
            exact ⟨putOk_none x n k ((fT_none k x).1 h3), ihk j hj' hkn.2.1 hh he (fun y hy => hs1 y (by simp [T.idsL, hy])) h1 h2⟩
    exact fun h1 h2 => key kids i hi hn.2 hids he (fun y hy e => .inl (by subst e; unfold Spec; have := hr3 y hy; omega)) h1 h2
  | @id id kind text kids z hz =>
    intro hn _ _
    simp only [T.ids, List.nodup_cons] at hn
    exact even_mk fun x s n _ h1 h2 => evenL_nodup hn.2 x s n h1 h2
  | @word id kind text kids k' x' =>
    intro hn _ _
    simp only [T.ids, List.nodup_cons] at hn
    exact even_mk fun x s n _ h1 h2 => evenL_nodup hn.2 x s n h1 h2
  | @twice id kind text kids =>
    intro hn _ _
    simp only [T.ids, List.nodup_cons] at hn
    refine even_mk fun x s n hne h1 h2 => ?_
    rw [fL_append] at h1
    cases h3 : fL kids x with
    | some s' =>
      rw [h3] at h1
      cases h1
      have := evenL_nodup hn.2 x s n h3 h2
      refine putOkL_append this ⟨?_, trivial⟩
      simp only [T.PutOk]
      rw [if_neg (Ne.symm hne)]
      exact this
    | none =>
      rw [h3] at h1
      have hx := (fL_none kids x).1 h3
      simp only [fL, fT, if_neg (Ne.symm hne), h3] at h1
      cases h1
  | @deep t =>
    intro hn hr h5
    refine deep_even t (even_nodup hn) (fun x h => ?_) 6
    cases t with
    | mk id kind text kids =>
    simp only [T.ids, List.mem_cons] at h
    rcases h with rfl | h
    · exact h5
    · have := hr x h; omega
  | @wide id kind text kids =>
    intro hn hr _
    simp only [T.ids, List.nodup_cons] at hn
    refine even_mk fun x s n hne h1 h2 => ?_
    rw [fL_append] at h1
    cases h3 : fL kids x with
    | some s' =>
      rw [h3] at h1
      cases h1
      have hx : x ∈ T.idsL kids := Decidable.byContradiction fun hc => by rw [(fL_none kids x).2 hc] at h3; cases h3
      refine putOkL_append (evenL_nodup hn.2 x s n h3 h2) (putOkL_none x n _ fun h => ?_)
      have := wide_ids 20 x h
      have := hr x hx
      omega
    | none =>
      rw [h3] at h1
      have h4 := wide_kids 20 x s h1
      rw [h4] at h2
      exact putOkL_append (putOkL_none x n kids ((fL_none kids x).1 h3)) (wide_put x 20 n h2)
theorem drawn_even {t : T} (h : Drawn t) : t.Even := by
  obtain ⟨t0, h1, h2, h3, _, rfl | h4⟩ := h
  · exact even_nodup h1
  · refine spoil_even h4 h1 (fun x hx => ?_) (by omega)
    have h5 := h2 x (kids_ids hx)
    have : x ≠ 1 := fun e => by
      cases t0 with
      | mk id kind text kids =>
      simp only [T.ids, List.nodup_cons] at h1
      have h3 : id = 1 := h3
      exact h1.1 (by rw [h3, ← e]; exact hx)
    omega
theorem nodup_len : ∀ (n : Nat) (l : List Int) (lo : Int), l.Nodup → (∀ i ∈ l, lo ≤ i ∧ i < lo + n) → l.length ≤ n
  | 0, l, lo, _, h => by
    cases l with
    | nil => simp
    | cons a l => have := h a (List.mem_cons_self ..); omega
  | n + 1, l, lo, hn, h => by
    have := nodup_len n (l.erase (lo + n)) lo (hn.erase _) fun i hi => by
      obtain ⟨h1, h2⟩ := hn.mem_erase_iff.1 hi
      have := h i h2
      omega
    rw [List.length_erase] at this
    split at this <;> omega
theorem drawn_size {t : T} (h : Drawn t) : t.size ≤ 60 := by
  obtain ⟨t0, h1, h2, h3, h4, _⟩ := h
  have := nodup_len 19 t0.ids 1 h1 fun i hi => by have := h2 i hi; omega
  rw [T.ids_size] at this
  omega
end Go.Cod

namespace Go.Cod
open Go Go.Proofs
set_option maxRecDepth 10000

set_option maxHeartbeats 4000000 in
theorem l4Do_even (t : T) (s : Stp) (ht : t.Small) (hz : t.size ≤ 10000) (hn : t.Even) (hs : s.node.Small) (hsz : s.node.size ≤ 1048577) (htx : s.text.length ≤ 1048576) :
    Pure Try.prog 51 [.agg t.cells, .agg s.cells] (· = doR t (doT t s)) := by
  have f1 := l2Find_pure t ht s.id
  have f2 := l4Bare_pure s
  have f3 := specTreeOk_pure s.node hs (by rw [T.ids_size]; exact hsz)
  have f4 : ∀ x : T, fT t s.id = some x → s.at_.toNat ≤ x.kids.length → Pure Try.prog 83 [.agg t.cells, .int .i64 s.id, .int .i64 s.at_.toNat, .agg s.node.cells] (· = .agg (t.mapAt s.id (putKidT s.at_.toNat s.node)).cells) := fun x h1 h2 => l4Put_pure t ht s.id s.at_.toNat s.node (hn s.id x s.at_.toNat h1 h2)
  have f5 := l4Cut_pure t ht s.id
  have f6 := l4Set_pure t ht s.id
  have f7 : ∀ y : T, y.Small → y.size ≤ 1048577 → Pure Try.prog 41 [.agg y.cells] (· = .bool (okT y)) := fun y h1 h2 => specTreeOk_pure y h1 (by rw [T.ids_size]; exact h2)
  have z1 : ∀ x, okT s.node = true → (t.mapAt s.id (putKidT x s.node)).Small ∧ (t.mapAt s.id (putKidT x s.node)).size ≤ 1048577 := fun x h => by
    have hk := okT_size h
    refine ⟨T.mapAt_small _ _ 1000000 (fun y h1 _ h2 => putKidT_small x s.node y h1 hs h2) t ht (by omega), ?_⟩
    have := T.mapAt_size s.id (putKidT x s.node) 20 (fun y => by rw [putKidT_size]; omega) t
    omega
  have z2 := T.cut_small s.id t ht
  have z3 : ∀ k w : List UInt8, k.length ≤ 1048576 → w.length ≤ 1048576 → (t.mapAt s.id (setT k w)).Small ∧ (t.mapAt s.id (setT k w)).size ≤ 1048577 := fun k w h1 h2 => by
    refine ⟨T.mapAt_small _ _ 1000000 (fun y h _ _ => setT_small k w y h h1 h2) t ht (by omega), ?_⟩
    have := T.mapAt_size s.id (setT k w) 0 (fun y => by rw [setT_size]; omega) t
    omega
  have hsm := fun x => fT_small t s.id ht x
  have hed : editT t s = match fT t s.id with
    | none => none
    | some x => if bareT s = false then none else
      if s.kind = 1 then (if 0 ≤ s.at_ ∧ s.at_ ≤ x.kids.length ∧ okT s.node = true then some (t.mapAt s.id (putKidT s.at_.toNat s.node)) else none)
      else if s.kind = 2 then (if s.id = t.id then none else some (t.cut s.id))
      else if s.kind = 3 then some (t.mapAt s.id (setT x.kind s.text))
      else if s.kind = 4 then some (t.mapAt s.id (setT s.text x.text))
      else none := rfl
  have d0 : editT t s = none → doT t s = none := doT_none
  have d1 : ∀ y, editT t s = some y → doT t s = okO y := fun y => doT_some
  generalize doT t s = d at *
  generalize editT t s = e at *
  generalize fT t s.id = f at *
  generalize bareT s = b at *
  cases s with
  | mk kind sid at_ node text =>
  simp only at f1 f3 f4 f5 f6 z1 z2 z3 hed hs hsz htx hsm
  generalize T.cut sid t = tc at *
  generalize hset : (fun k w => T.mapAt sid (setT k w) t) = ts at *
  have hset : ∀ k w, T.mapAt sid (setT k w) t = ts k w := fun k w => by rw [← hset]
  simp only [hset] at f6 z3 hed
  generalize hput : T.mapAt sid (putKidT at_.toNat node) t = tp at *
  have zp : okT node = true → tp.Small ∧ tp.size ≤ 1048577 := fun h => hput ▸ z1 at_.toNat h
  clear hset hput z1
  generalize okT node = okn at *
  have hend : ∀ y : T, e = some y → y.Small → y.size ≤ 1048577 → Pure Try.prog 41 [.agg y.cells] (· = .bool (okT y)) ∧ d = okO y := fun y h1 h2 h3 => ⟨f7 y h2 h3, d1 y h1⟩
  clear f7 d1
  have hok : ∀ y : T, e = some y → d = okO y → doR t d = if okT y = true then .tup [.agg y.cells, .bool true] else .tup [.agg t.cells, .bool false] := fun y _ h => by
    rw [h]; unfold okO
    split <;> rfl
  simp only [Stp.cells] at f2 ⊢
  have hbig : ∀ y : T, y.Small → y.size ≤ 1048577 → e = some y → d = okO y ∧ Pure Try.prog 41 [.agg y.cells] (· = .bool (okT y)) := fun y h1 h2 h3 => ⟨(hend y h3 h1 h2).2, (hend y h3 h1 h2).1⟩
  clear hend
  cases t with
  | mk tid tk tx tks =>
  cases node with
  | mk nid nk nx nks =>
  refine pure_of_awp good Try.func51 rfl (by kernel_rfl) (by decide) ?_
  conv => whnf
  refine .inl (f1.mono ?_)
  rintro r rfl
  cases f with
  | none =>
    conv => whnf
    rw [d0 hed]
    rfl
  | some x =>
    cases x with
    | mk xid xk xx xks =>
    conv => whnf
    refine .inl (f2.mono ?_)
    rintro r rfl
    cases b with
    | false =>
      conv => whnf
      rw [d0 hed]
      rfl
    | true =>
      simp only [Bool.true_eq_false, if_false] at hed
      conv => whnf
      by_cases k1 : kind = 1
      · rw [if_pos k1] at hed
        rw [eqB_t k1]
        conv => whnf
        refine .inl ((l1In_pure _ _ _).mono ?_)
        rintro r rfl
        by_cases hr : 0 ≤ at_ ∧ at_ ≤ (xks.length : Int)
        · rw [show (decide ((0 : Int) ≤ at_ ∧ at_ ≤ ((T.rows xks).length : Int))) = true by rw [Go.Cod.rows_len]; simpa using hr]
          conv => whnf
          refine .inl (f3.mono ?_)
          rintro r rfl
          cases okn with
          | false =>
            conv => whnf
            rw [d0 (by rw [hed, if_neg (by simp)])]
            rfl
          | true =>
            obtain ⟨n, rfl⟩ : ∃ n : Nat, at_ = n := ⟨at_.toNat, by omega⟩
            have hed : e = some tp := by rw [hed]; exact if_pos ⟨hr.1, hr.2, rfl⟩
            have f4 := f4 _ rfl (by simp only [T.kids]; omega)
            obtain ⟨q1, q2⟩ := zp rfl
            obtain ⟨q3, q4⟩ := hbig tp q1 q2 hed
            have hok := hok tp hed q3
            generalize okT tp = okp at *
            cases tp with
            | mk pid pk px pks =>
            conv => whnf
            refine .inl (f4.mono ?_)
            rintro r rfl
            conv => whnf
            refine .inl (q4.mono ?_)
            rintro r rfl
            rw [hok]
            cases okp <;> (conv => whnf) <;> rfl
        · rw [show (decide ((0 : Int) ≤ at_ ∧ at_ ≤ ((T.rows xks).length : Int))) = false by rw [Go.Cod.rows_len]; simpa using hr]
          conv => whnf
          rw [d0 (by rw [hed]; exact if_neg (fun h => hr ⟨h.1, h.2.1⟩))]
          rfl
      rw [if_neg k1] at hed
      rw [eqB_f k1]
      conv => whnf
      by_cases k2 : kind = 2
      · rw [if_pos k2] at hed
        rw [eqB_t k2]
        conv => whnf
        by_cases hi : sid = tid
        · rw [eqB_t hi]
          conv => whnf
          rw [d0 (by rw [hed]; exact if_pos hi)]
          rfl
        · rw [eqB_f hi]
          have hed : e = some tc := by rw [hed]; exact if_neg hi
          obtain ⟨q3, q4⟩ := hbig tc z2.1 (by have := z2.2; simp only [T.size] at this hz ⊢; omega) hed
          have hok := hok tc hed q3
          generalize okT tc = okp at *
          cases tc with
          | mk pid pk px pks =>
          conv => whnf
          refine .inl (f5.mono ?_)
          rintro r rfl
          conv => whnf
          refine .inl (q4.mono ?_)
          rintro r rfl
          rw [hok]
          cases okp <;> (conv => whnf) <;> rfl
      rw [if_neg k2] at hed
      rw [eqB_f k2]
      conv => whnf
      have hx := hsm _ rfl
      have hxk : xk.length ≤ 1048576 ∧ xx.length ≤ 1048576 := by
        cases hx with
        | mk g1 g2 g3 g4 g5 => exact ⟨g2, g3⟩
      by_cases k3 : kind = 3
      · rw [if_pos k3] at hed
        rw [eqB_t k3]
        have f6 := f6 xk text
        obtain ⟨q1, q2⟩ := z3 xk text hxk.1 htx
        have hed : e = some (ts xk text) := hed
        obtain ⟨q3, q4⟩ := hbig _ q1 q2 hed
        have hok := hok _ hed q3
        generalize ts xk text = tp at *
        generalize okT tp = okp at *
        cases tp with
        | mk pid pk px pks =>
        conv => whnf
        refine .inl (f6.mono ?_)
        rintro r rfl
        conv => whnf
        refine .inl (q4.mono ?_)
        rintro r rfl
        rw [hok]
        cases okp <;> (conv => whnf) <;> rfl
      rw [if_neg k3] at hed
      rw [eqB_f k3]
      conv => whnf
      by_cases k4 : kind = 4
      · rw [if_pos k4] at hed
        rw [eqB_t k4]
        have f6 := f6 text xx
        obtain ⟨q1, q2⟩ := z3 text xx htx hxk.2
        have hed : e = some (ts text xx) := hed
        obtain ⟨q3, q4⟩ := hbig _ q1 q2 hed
        have hok := hok _ hed q3
        generalize ts text xx = tp at *
        generalize okT tp = okp at *
        cases tp with
        | mk pid pk px pks =>
        conv => whnf
        refine .inl (f6.mono ?_)
        rintro r rfl
        conv => whnf
        refine .inl (q4.mono ?_)
        rintro r rfl
        rw [hok]
        cases okp <;> (conv => whnf) <;> rfl
      rw [if_neg k4] at hed
      rw [eqB_f k4]
      conv => whnf
      rw [d0 hed]
      rfl
end Go.Cod

namespace Go.Cod
open Go Go.Proofs Go.ChangeShapes Go.WideShapes Go.ChangeAt Go.RowKit
set_option maxRecDepth 10000

def DrawRL (r : V) : Prop := ∃ (t : T) (ls : List Stp), t.Small ∧ t.size ≤ 60 ∧ (∀ s ∈ ls, s.Dr) ∧ ls.length ≤ 6 ∧ r = .tup [.agg t.cells, .sl (prows ls)]
theorem prows_snoc (ls : List Stp) (s : Stp) : prows (ls ++ [s]) = prows ls ++ [s.cells] := by simp [prows]
def lsV (ls : List Stp) (m : Nat) : V := match ls with
  | [] => .nils
  | _ :: _ => .own m
def lsO (ls : List Stp) : List O := match ls with
  | [] => []
  | _ :: _ => [⟨prows ls, 8, true, true, false, .cell⟩]
theorem lsO_snoc (s0 : Stp) (ls : List Stp) (s : Stp) : lsO ((s0 :: ls) ++ [s]) = [⟨prows (s0 :: ls) ++ [s.cells], 8, true, true, false, .cell⟩] := by
  rw [← prows_snoc]; rfl
/-- A tree that steps may be tried on. -/
def T.Tried (x : T) : Prop := x.Small ∧ x.size ≤ 60 ∧ x.Even
theorem tried_do {x y : T} {s : Stp} (h : x.Tried) (hs : s.Dr) (hd : doT x s = some y) : y.Tried := by
  obtain ⟨h1, h2⟩ := doT_ok hd
  have := okT_size h2
  exact ⟨editT_small h.1 (by have := h.2.1; omega) hs.1 (by have := hs.2.2; omega) h1, by omega, even_nodup ((okT_iff' y).1 h2).2.1⟩
set_option maxHeartbeats 8000000 in
theorem drawStepsDo_pure (bs : List UInt8) (hb : bs.length ≤ 1048576) : Pure Try.prog 45 [.sl (brows bs)] DrawRL := by
  have ho := l1Open_full bs hb
  refine pure_of_awp good Try.func45 rfl (by kernel_rfl) (by decide) ?_
  conv => whnf
  refine .inr (.inl ⟨[], false, ?_⟩)
  conv => whnf
  refine ho.mono ?_
  rintro o st' ⟨rfl, bs', hb', rfl⟩
  conv => whnf
  refine ⟨[1], false, ?_⟩
  conv => whnf
  refine (l11Some_drawn bs' hb' 0 16 (by omega) (by omega)).mono ?_
  rintro o st' ⟨t, p, s1, ⟨s2, s5⟩, s3, s4, rfl, rfl⟩
  have htr : t.Tried := ⟨s1, drawn_size s5, drawn_even s5⟩
  have ht6 := htr.2.1
  have hpk := pick_full bs' p 6 hb' (by omega) (by omega)
  obtain ⟨x0, hx0⟩ : ∃ x0, x0 = t := ⟨_, rfl⟩
  rcases t with ⟨ti, tk, tx, tks⟩
  conv => whnf
  refine ⟨[1], false, ?_⟩
  conv => whnf
  refine hpk.mono ?_
  rintro o st' ⟨c, c0, c1, rfl, rfl⟩
  have c1 := c1 (by omega)
  have hcc : V.int .i64 c = .int .i64 (c.toNat : Int) := by rw [Int.toNat_of_nonneg c0]
  conv => whnf
  refine loop_drop (fun n fr st => ∃ (ls : List Stp) (x : T) (p' k' : Int), ls.length + n ≤ 6 ∧ (∀ s ∈ ls, s.Dr) ∧ x.Tried ∧ (0 ≤ p' ∧ p' + 2000 * n ≤ 1100000) ∧ (0 ≤ k' ∧ k' + 1000 * n ≤ 6200) ∧
      Holds fr [(2, .ptr 0 0 0), (4, .ptr 1 0 0), (5, .ptr 2 0 0), (6, .ptr 3 0 0), (7, lsV ls 5), (8, .ptr 4 0 0), (9, .int .i64 n)] ∧
      st = [bxO zrow 4, rdO bs' p', bxO [.int .i64 ti, .str tk, .str tx, .sl (T.rows tks)] 4, nxO k', bxO x.cells 4] ++ lsO ls) c.toNat none
    (by
      conv => whnf
      exact ⟨[], .mk ti tk tx tks, p + 1, 100, by simp; omega, by simp, htr, by omega, by omega, ⟨rfl, rfl, rfl, rfl, rfl, rfl, hcc, trivial⟩, rfl⟩) ?_
  rintro n fr st ⟨ls, x, p', k', b1, b2, b3, b4, b5, hh, rfl⟩
  obtain ⟨fr, rfl⟩ := hh.split
  clear hh
  have hlen := prows_len ls
  by_cases hn : 0 < n
  · obtain ⟨n, rfl⟩ : ∃ m, n = m + 1 := ⟨n - 1, by omega⟩
    have wn : V.int .i64 (IntKind.i64.wrap (((n + 1 : Nat) : Int) - 1)) = .int .i64 (n : Int) := by
      rw [wrap64 (by omega) (by omega)]; congr 1; omega
    have hed := l11Edit_full bs' hb' p' k' (by omega) (by omega) (by omega) (by omega) x b3.1 (by have := b3.2.1; omega)
    have hdo := fun s (h : s.Dr) => l4Do_even x s b3.1 (by have := b3.2.1; omega) b3.2.2 h.1 (by have := h.2.1; omega) (by have := h.2.2; omega)
    have htd := fun s y (h : s.Dr) (hd : doT x s = some y) => tried_do b3 h hd
    have hspo := fun q (q0 : 0 ≤ q) (q1 : q ≤ 2000000) s h => l11SpoilStep_full bs' hb' q q0 (by omega) s h
    have hp20 := fun (q : Int) (q0 : 0 ≤ q) (q1 : q ≤ 2000000) => pick_full bs' q 20 hb' q0 (by omega)
    have hp10 := fun (q : Int) (q0 : 0 ≤ q) (q1 : q ≤ 2000000) => pick_full bs' q 10 hb' q0 (by omega)
    cases x with
    | mk xi xk xx xks =>
    rcases ls with _ | ⟨l0, ls⟩
    all_goals
      conv => whnf
      rw [ltB_t (by omega)]
      conv => whnf
      refine ⟨[1, 3], false, ?_⟩
      conv => whnf
      refine hed.mono ?_
      rintro o st' ⟨⟨ek, ei, ea, ⟨ni, nk, nx, nks⟩, ex⟩, p2, k2, d1, d2, d3, d4, d5, rfl, rfl⟩
      conv => whnf
      refine ⟨[1], false, ?_⟩
      conv => whnf
      refine (hp20 p2 (by omega) (by omega)).mono ?_
      rintro o st' ⟨c, c0, c1, rfl, rfl⟩
      conv => whnf
      by_cases hc : c = 0
      case' pos =>
        rw [eqB_t hc]
        conv => whnf
        refine ⟨[1], false, ?_⟩
        conv => whnf
        refine (hspo (p2 + 1) (by omega) (by omega) _ d1).mono ?_
        clear d1
        rintro o st' ⟨⟨ek, ei, ea, ⟨ni, nk, nx, nks⟩, ex⟩, q, d1, f2, f3, rfl, rfl⟩
      case' neg =>
        rw [eqB_f hc]
        obtain ⟨q, hq⟩ : ∃ q, q = p2 + 1 := ⟨_, rfl⟩
        rw [← hq]
    all_goals
      have q0 : 0 ≤ q ∧ q + 1 + 2000 * n ≤ 1100000 := by omega
      have hdo := hdo _ d1
      have htd := fun y => htd _ y d1
      generalize hdoo : doT (T.mk xi xk xx xks) _ = dd at hdo htd
      conv => whnf
      refine .inl (hdo.mono ?_)
      rintro r rfl
      cases dd with
      | some y =>
        have htd := htd y rfl
        cases y with
        | mk yi yk yx yks =>
        conv => whnf
        refine ⟨fun m hm => by rw [List.mem_singleton.1 hm]; rfl, ?_⟩
        conv => whnf
        first
          | (refine ⟨by show 1 * 104 ≤ _; omega, .inr ⟨(by intro e; cases e), ?_⟩⟩
             conv => whnf
             refine ⟨n, by omega, some [0, 1, 2, 3, 4, 8], ?_⟩
             conv => whnf
             exact ⟨[⟨ek, ei, ea, .mk ni nk nx nks, ex⟩], .mk yi yk yx yks, q, k2, by simp at b1 ⊢; omega, by intro s hs; rw [List.mem_singleton.1 hs]; exact d1, htd, by omega, by omega, ⟨rfl, rfl, rfl, rfl, rfl, rfl, wn, trivial⟩, rfl⟩)
          | (refine ⟨by
               show ((prows (l0 :: ls)).length + 1) * 104 ≤ _
               rw [hlen]; omega, ?_⟩
             conv => whnf
             refine ⟨n, by omega, some [0, 1, 2, 3, 4, 9], ?_⟩
             conv => whnf
             refine ⟨(l0 :: ls) ++ [⟨ek, ei, ea, .mk ni nk nx nks, ex⟩], .mk yi yk yx yks, q, k2, by simp at b1 ⊢; omega, ?_, htd, by omega, by omega, ⟨rfl, rfl, rfl, rfl, rfl, rfl, wn, trivial⟩, ?_⟩
             · intro s hs
               rcases List.mem_append.1 hs with h | h
               · exact b2 s h
               · rw [List.mem_singleton.1 h]; exact d1
             · rw [lsO_snoc]
               rfl)
      | none =>
        conv => whnf
        refine ⟨[1], false, ?_⟩
        conv => whnf
        refine (hp10 q (by omega) (by omega)).mono ?_
        rintro o st' ⟨c2, c20, c21, rfl, rfl⟩
        conv => whnf
        by_cases hc2 : c2 = 0
        · rw [eqB_t hc2]
          conv => whnf
          refine ⟨fun m hm => by rw [List.mem_singleton.1 hm]; rfl, ?_⟩
          conv => whnf
          first
            | (refine ⟨by show 1 * 104 ≤ _; omega, .inr ⟨(by intro e; cases e), ?_⟩⟩
               conv => whnf
               refine ⟨n, by omega, some [0, 1, 2, 3, 4, 8], ?_⟩
               conv => whnf
               exact ⟨[⟨ek, ei, ea, .mk ni nk nx nks, ex⟩], .mk xi xk xx xks, q + 1, k2, by simp at b1 ⊢; omega, by intro s hs; rw [List.mem_singleton.1 hs]; exact d1, b3, by omega, by omega, ⟨rfl, rfl, rfl, rfl, rfl, rfl, wn, trivial⟩, rfl⟩)
            | (refine ⟨by
                 show ((prows (l0 :: ls)).length + 1) * 104 ≤ _
                 rw [hlen]; omega, ?_⟩
               conv => whnf
               refine ⟨n, by omega, some [0, 1, 2, 3, 4, 9], ?_⟩
               conv => whnf
               refine ⟨(l0 :: ls) ++ [⟨ek, ei, ea, .mk ni nk nx nks, ex⟩], .mk xi xk xx xks, q + 1, k2, by simp at b1 ⊢; omega, ?_, b3, by omega, by omega, ⟨rfl, rfl, rfl, rfl, rfl, rfl, wn, trivial⟩, ?_⟩
               · intro s hs
                 rcases List.mem_append.1 hs with h | h
                 · exact b2 s h
                 · rw [List.mem_singleton.1 h]; exact d1
               · rw [lsO_snoc]
                 rfl)
        · rw [eqB_f hc2]
          conv => whnf
          first
            | (refine ⟨n, by omega, some [0, 1, 2, 3, 4, 5], ?_⟩
               conv => whnf
               exact ⟨l0 :: ls, .mk xi xk xx xks, q + 1, k2, by omega, b2, b3, by omega, by omega, ⟨rfl, rfl, rfl, rfl, rfl, rfl, wn, trivial⟩, rfl⟩)
            | (refine ⟨n, by omega, some [0, 1, 2, 3, 4], ?_⟩
               conv => whnf
               exact ⟨[], .mk xi xk xx xks, q + 1, k2, by omega, b2, b3, by omega, by omega, ⟨rfl, rfl, rfl, rfl, rfl, rfl, wn, trivial⟩, rfl⟩)
  · cases x with
    | mk xi xk xx xks =>
    cases ls
    all_goals
      conv => whnf
      rw [ltB_f (by omega)]
      conv => whnf
      exact ⟨.mk ti tk tx tks, _, s1, ht6, b2, by omega, rfl⟩
end Go.Cod

namespace Go.Cod
open Go Go.Proofs Go.ChangeShapes Go.WideShapes Go.ChangeAt Go.RowKit
set_option maxRecDepth 10000

/-- Steps, one by one, as long as they can be done. -/
def runT : T → List Stp → T × Bool
  | x, [] => (x, true)
  | x, s :: ls => match doT x s with
    | some y => runT y ls
    | none => (x, false)
theorem runT_drop (x : T) (ls : List Stp) (i : Nat) (h : i < ls.length) : runT x (ls.drop i) = match doT x ls[i] with
    | some y => runT y (ls.drop (i + 1))
    | none => (x, false) := by
  rw [List.drop_eq_getElem_cons h]; rfl
theorem run_go (t0 x : T) (ls : List Stp) : goT t0 x ls = ((if (runT x ls).2 = true then (runT x ls).1 else t0), (runT x ls).2) := by
  induction ls generalizing x with
  | nil => rfl
  | cons s ls ih =>
    cases hd : doT x s with
    | none => simp [goT, runT, hd]
    | some y =>
      have := ih y
      simp only [goT, runT, hd]
      exact this
theorem steps_run {t : T} (hok : okT t = true) (ls : List Stp) : stepsT t ls = ((if (runT t ls).2 = true then (runT t ls).1 else t), (runT t ls).2) := by
  unfold stepsT
  rw [if_pos hok, run_go]
theorem steps_bad {t : T} (hok : okT t = false) (ls : List Stp) : stepsT t ls = (TZ, false) := by
  unfold stepsT
  rw [if_neg (by rw [hok]; simp)]
set_option maxHeartbeats 16000000 in
theorem law_fnStepsDo (bs : List UInt8) : Pure Try.prog 9 [.sl (brows bs)] (· = .bool true) := by
  have hl := brows_len bs
  have hd := drawStepsDo_pure bs
  refine pure_of_awp good Try.func9 rfl (by kernel_rfl) (by decide) ?_
  generalize brows bs = R at *
  conv => whnf
  by_cases a : 1048576 < R.length
  · rw [ltB_t (by omega)]
    conv => whnf
  rw [ltB_f (by omega)]
  conv => whnf
  refine .inl ((hd (by omega)).mono ?_)
  rintro r ⟨t, ls, s1, s2, s3, s4, rfl⟩
  have hS : ∀ s ∈ ls, s.Sm := fun s h => by
    obtain ⟨d1, d2, d3⟩ := s3 s h
    exact ⟨d1, by omega, by omega⟩
  have hid := T.ids_size t
  have i1 := implStepsDo_pure t ls s1 hS (by omega)
  have i2 := specStepsDo_pure t ls s1 (by omega) hS (by omega)
  have i3 := implTreeOk t s1
  have i4 := specTreeOk_pure t s1 (by omega)
  have hsm := stepsT_small s1 hS
  have wt := wcTree_refl t s1
  have hlen := prows_len ls
  have hget := prows_get ls
  have hrun := fun h => steps_run (t := t) h ls
  have hbad := fun h => steps_bad (t := t) h ls
  have heq : ∀ b : Bool, (!(b == b)) = false := by decide
  have hok' : ∀ b : Bool, okT t = b → okT t = b := fun _ h => h
  generalize stepsT t ls = yb at *
  obtain ⟨y, b⟩ := yb
  simp only at i1 i2 hsm
  have wy := wcTree_refl y hsm
  obtain ⟨tc, htc⟩ : ∃ tc, tc = t := ⟨_, rfl⟩
  have hD : ∀ x i (h : i < ls.length), runT x (ls.drop i) = match doT x ls[i] with
      | some y => runT y (ls.drop (i + 1))
      | none => (x, false) := fun x i h => runT_drop x ls i h
  have hE : ∀ x, runT x (ls.drop ls.length) = (x, true) := fun x => by rw [List.drop_of_length_le (by omega)]; rfl
  have h0 : runT t ls = runT t (ls.drop 0) := rfl
  generalize hrr : runT t ls = rr at *
  generalize prows ls = rows at *
  rw [← htc] at hok' hrun hbad h0
  generalize hokt : okT t = okt at *
  rw [← htc] at hokt
  obtain ⟨ti, tk, tx, tks⟩ := t
  obtain ⟨yi, yk, yx, yks⟩ := y
  conv => whnf
  refine .inl (i1.mono ?_)
  rintro r rfl
  conv => whnf
  refine .inl (i2.mono ?_)
  rintro r rfl
  conv => whnf
  rw [heq]
  conv => whnf
  refine ⟨_, .inl wy, ?_⟩
  conv => whnf
  refine ⟨_, .inl i3, ?_⟩
  conv => whnf
  refine ⟨_, .inl i4, ?_⟩
  conv => whnf
  rw [heq]
  conv => whnf
  refine .inl (i4.mono ?_)
  rintro r rfl
  conv => whnf
  refine loop_drop (fun n fr st => ∃ (i : Nat) (x : T) (f : Bool), n + i = ls.length ∧ x.Small ∧ ((okt = true ∧ okT x = true ∧ (f = true ∧ rr = runT x (ls.drop i) ∨ f = false ∧ rr.2 = false)) ∨ (okt = false ∧ f = false)) ∧
      Holds fr [(3, .ptr 0 0 0), (4, .sl rows), (5, .ptr 1 0 0), (6, .bool b), (7, .ptr 2 0 0), (8, .bool b), (9, .ptr 3 0 0), (10, .bool f), (11, .int .i64 i)] ∧
      st = [bxO [.int .i64 ti, .str tk, .str tx, .sl (T.rows tks)] 4, bxO [.int .i64 yi, .str yk, .str yx, .sl (T.rows yks)] 4, bxO [.int .i64 yi, .str yk, .str yx, .sl (T.rows yks)] 4, bxO x.cells 4]) ls.length none
    ⟨0, .mk ti tk tx tks, okt, by omega, s1, (by
      cases okt
      · exact .inr ⟨rfl, rfl⟩
      · exact .inl ⟨rfl, htc ▸ hokt, .inl ⟨rfl, by rw [h0, htc]⟩⟩), ⟨rfl, rfl, rfl, rfl, rfl, rfl, rfl, rfl, rfl, trivial⟩, rfl⟩ ?_
  rintro n fr st ⟨i, x, f, hi, x1, hx, hh, rfl⟩
  obtain ⟨fr, rfl⟩ := hh.split
  clear hh
  cases f with
  | false =>
    obtain ⟨xi, xk, xx, xks⟩ := x
    conv => whnf
    by_cases hlt : i < ls.length
    case' pos => rw [hlen, ltB_t (by omega)]
    case' neg => rw [hlen, ltB_f (by omega)]
    all_goals
      conv => whnf
      rcases hx with ⟨hk, hxo, ⟨hc, _⟩ | ⟨_, hr2⟩⟩ | ⟨hk, _⟩
      · cases hc
      · have hy := hrun (hokt.trans hk)
        rw [hr2] at hy
        simp only [Bool.false_eq_true, if_false, Prod.mk.injEq] at hy
        obtain ⟨hy, rfl⟩ := hy
        rw [htc] at hy
        cases hy
        subst hk
        conv => whnf
        refine .inl (i4.mono ?_)
        rintro r rfl
        conv => whnf
        refine .inl (wt.mono ?_)
        rintro r rfl
        conv => whnf
      · have hy := hbad (hokt.trans hk)
        simp only [Prod.mk.injEq] at hy
        obtain ⟨hy, rfl⟩ := hy
        subst hk
        conv => whnf
        refine .inl (i4.mono ?_)
        rintro r rfl
        conv => whnf
  | true =>
    rcases hx with ⟨hk, hxo, ⟨_, hr2⟩ | ⟨hc, _⟩⟩ | ⟨_, hc⟩
    case' inl.inr => cases hc
    case' inr => cases hc
    by_cases hlt : i < ls.length
    · have hg := hget i hlt
      have hs := hS ls[i] (List.getElem_mem _)
      have hd' := hD x i hlt
      have f3 := implStepDo_pure x ls[i] x1 hs.1 hs.2.2
      have hsm' := fun y => doT_small (y := y) x1 hxo hs
      have hw : V.int .i64 (IntKind.i64.wrap ((i : Int) + 1)) = .int .i64 ((i + 1 : Nat) : Int) := by rw [wrap64 (by omega) (by omega)]; simp
      have hyes : ∀ y, doT x ls[i] = some y → stepT x ls[i] = (y, true) := fun y h => by unfold stepT; rw [if_pos hxo, h]
      have hno : doT x ls[i] = none → stepT x ls[i] = (x, false) := fun h => by unfold stepT; rw [if_pos hxo, h]
      generalize ls[i] = s at *
      obtain ⟨sk, sid, sat, ⟨ni, nk, nx, nks⟩, stx⟩ := s
      obtain ⟨xi, xk, xx, xks⟩ := x
      conv => whnf
      rw [hlen, ltB_t (by omega)]
      conv => whnf
      cases hdo : doT (.mk xi xk xx xks) ⟨sk, sid, sat, .mk ni nk nx nks, stx⟩ with
      | none =>
        rw [hno hdo] at f3
        rw [hdo] at hd'
        have hr3 : rr.2 = false := by rw [hr2, hd']
        repeat (first
          | (refine And.intro (by
                  (conv => whnf)
                  first
                    | rfl
                    | exact ⟨_, .inl f3, rfl⟩
                    | exact ⟨by omega, rows, _, 8, rfl, hg, rfl, rfl, rfl⟩
                    | exact ⟨by omega, rows, _, 8, rfl, hg, rfl, rfl, _, .inl f3, rfl⟩) ?_
             conv => whnf)
          | (refine ⟨by omega, rows, _, 8, rfl, hg, rfl, rfl, ?_⟩
             conv => whnf)
          | (refine ⟨_, .inl f3, ?_⟩
             conv => whnf))
        refine ⟨n - 1, by omega, some [0, 1, 2, 3], ?_⟩
        conv => whnf
        exact ⟨i + 1, .mk xi xk xx xks, false, by omega, x1, .inl ⟨hk, hxo, .inr ⟨rfl, hr3⟩⟩, ⟨rfl, rfl, rfl, rfl, rfl, rfl, rfl, rfl, hw, trivial⟩, rfl⟩
      | some y =>
        rw [hyes y hdo] at f3
        rw [hdo] at hd'
        obtain ⟨y1, y2⟩ := hsm' y hdo
        obtain ⟨zi, zk, zx, zks⟩ := y
        repeat (first
          | (refine And.intro (by
                  (conv => whnf)
                  first
                    | rfl
                    | exact ⟨_, .inl f3, rfl⟩
                    | exact ⟨by omega, rows, _, 8, rfl, hg, rfl, rfl, rfl⟩
                    | exact ⟨by omega, rows, _, 8, rfl, hg, rfl, rfl, _, .inl f3, rfl⟩) ?_
             conv => whnf)
          | (refine ⟨by omega, rows, _, 8, rfl, hg, rfl, rfl, ?_⟩
             conv => whnf)
          | (refine ⟨_, .inl f3, ?_⟩
             conv => whnf))
        refine ⟨n - 1, by omega, some [0, 1, 2, 3], ?_⟩
        conv => whnf
        exact ⟨i + 1, .mk zi zk zx zks, true, by omega, y1, .inl ⟨hk, y2, .inl ⟨rfl, hr2.trans hd'⟩⟩, ⟨rfl, rfl, rfl, rfl, rfl, rfl, rfl, rfl, hw, trivial⟩, rfl⟩
    · have hil : i = ls.length := by omega
      subst hil
      rw [hE] at hr2
      have hy := hrun (hokt.trans hk)
      rw [hr2] at hy
      simp only [if_true, Prod.mk.injEq] at hy
      obtain ⟨hy, rfl⟩ := hy
      subst hy
      conv => whnf
      rw [hlen, ltB_f (by omega)]
      conv => whnf
      refine .inl (wy.mono ?_)
      rintro r rfl
      conv => whnf
theorem ownK : ownKnob Try.prog.godebug = none := by kernel_rfl
def byteOf : List V → UInt8
  | [.int _ i] => UInt8.ofNat i.toNat
  | _ => 0
theorem argBytes {H : Type} {enc : TypeId × Value → H} {W : World} : ReadsA enc Try.prog W 57 fun x => ∃ bs : List UInt8, x = .sl (brows bs) := by
  intro base v d p hv h
  obtain ⟨x, ⟨es, hx, _, hr⟩, hrep⟩ := readsA_slice (S := fun vs => ∃ es, vs = [.sl es] ∧ es.length ≤ maxLen ∧ ∀ r ∈ es, (∃ i, r = [.int .u8 i] ∧ IntKind.u8.min ≤ i ∧ i ≤ IntKind.u8.max) ∧ r.length = Try.prog.cellsOf 5 ∧ (∀ v ∈ r, v.leaf = true) ∧ V.clean.cleanL 0 r = true)
    Try.underlying57 (fun n => reads_slice Try.underlying57 (by decide +kernel) fun m _ => reads_int Try.underlying5) base v d p hv h
  cases hx
  refine ⟨_, ⟨es.map byteOf, ?_⟩, hrep⟩
  congr 1
  rw [brows, List.map_map]
  refine (List.map_id es).symm.trans (List.map_congr_left fun r hr' => ?_)
  obtain ⟨⟨i, rfl, h1, h2⟩, _⟩ := hr r hr'
  have h1 : 0 ≤ i := h1
  have h2 : i ≤ 255 := h2
  simp only [id_eq, Function.comp, byteOf, cellB]
  congr 2
  simp only [UInt8.toNat_ofNat']
  omega
theorem lawFnStepsDo (bs : List UInt8) : Pure Try.prog 9 [.sl (brows bs)] (· = .bool true) := law_fnStepsDo bs
theorem conFnStepsDo (H : Type) (enc : TypeId × Value → H) (W : World) (base : Nat) (args : Array Value) (ds gs : List (DataW H)) (before : List MemPlace)
    (hval : ∀ (j : Nat) t v, Try.f9.params[j]? = some t → args[j]? = some v → Value.okWide Try.prog W .any base t v)
    (hW : DataW.Whole enc Try.prog Try.f9.params.toList Ythcbmohjmgpkiaa.Rows.fnStepsDoSpec.vars false W args.toList ds gs before) {fresh handsOn again : Bool} :
    Calls Try.prog 9 args W fun e W' => ∃ v, e = .returned v ∧ Ythcbmohjmgpkiaa.Rows.fnStepsDoSpec.post enc Try.prog Try.f9 false fresh handsOn again W args v W' := by
  refine law_calls kids full (tb := 4) rfl Try.underlying4 (by decide +kernel) rfl hW (fun ds h => by match ds, h with | [_], _ => exact ⟨rfl, rfl, rfl⟩) hval
    (Ss := [fun x => ∃ bs : List UInt8, x = .sl (brows bs)]) laid0 ?_ ?_
  · rw [Try.params9]
    exact ⟨argBytes, trivial⟩
  · intro xs h
    obtain ⟨_, rfl, ⟨t0, rfl⟩⟩ := hold1 h
    exact lawFnStepsDo t0

set_option maxRecDepth 100000 in
theorem overFnStepsDo : Ythcbmohjmgpkiaa.Rows.FnStepsDoSaid :=
  OpenClaim.holds_of_wide 9 Try.f9 rfl rfl rfl rfl rfl rfl rfl ⟨rfl, rfl, rfl, rfl, rfl⟩ rfl rfl rfl rfl rfl (by kernel_rfl) Try.func9 (by kernel_rfl)
    (of_decide_eq_true (by kernel_rfl)) (by unfold Func.isWrapper; first | (rw [if_pos (by decide +kernel)]; kernel_rfl) | (rw [if_neg (by decide +kernel)]; exact ⟨rfl, rfl⟩))
    (fun os started H enc _ => returnsInHanded_of_change ownK started (by kernel_rfl) Try.func9
      (ChangeSpec.witness6 (enc := enc) (C := Try.checked) false ⟨#[], #[.slice none 0 0], []⟩ 8 (by kernel_rfl) (by kernel_rfl) (by kernel_rfl) (by kernel_rfl))
      (fun W base args ds gs before hval hW _ _ => conFnStepsDo H enc W base args ds gs before hval hW))
end Go.Cod

