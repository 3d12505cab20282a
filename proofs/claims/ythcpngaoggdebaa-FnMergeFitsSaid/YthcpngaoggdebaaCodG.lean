/- Own texts. -/
import Derived.WalkKit
import Derived.ProofKit
import Derived.Test.YthcpngaoggdebaaCodF
namespace Go.Cod
open Go Go.Proofs
variable [Lam]

/- A long region in pieces. -/
def aOpsR (P : Program) (ok : OkY) (τ : Tau) (ops : Array Oper) (l : List Oper) : (Nat → V) → St → ((Nat → V) → St → Prop) → (V → (Nat → V) → St → Prop) → Prop :=
  List.rec (motive := fun _ => (Nat → V) → St → ((Nat → V) → St → Prop) → (V → (Nat → V) → St → Prop) → Prop)
    (fun fr st K _ => K fr st)
    (fun o _ ih fr st K Z => match o.guard with
      | none => aOp P ok τ o fr st (fun v st' => force v fun v => forceSt st' fun st' => ih (put fr o.dst v) st' K Z) (fun v st' => Z v fr st')
      | some (j, want) => match (ops[j]?).bind (·.dst) with
        | some d => (match fr d with
          | .bool b => BC (if want then b else negB b) (aOp P ok τ o fr st (fun v st' => force v fun v => forceSt st' fun st' => ih (put fr o.dst v) st' K Z) (fun v st' => Z v fr st'))
            (ih (put fr o.dst undefV) st K Z)
          | .raw (.tuple _) => ih (put fr o.dst undefV) st K Z
          | _ => False)
        | none => False) l
theorem aOpsR_eq (P : Program) (ok : OkY) (τ : Tau) (ops : Array Oper) (l : List Oper) : aOpsR P ok τ ops l = aOps P ok τ ops l := rfl
theorem aOps_append (P : Program) (ok : OkY) (τ : Tau) (ops : Array Oper) (K : (Nat → V) → St → Prop) (Z : V → (Nat → V) → St → Prop) (l2 : List Oper) : ∀ (l1 : List Oper) (fr : Nat → V) (st : St),
    aOps P ok τ ops (l1 ++ l2) fr st K Z = aOps P ok τ ops l1 fr st (fun fr st => aOps P ok τ ops l2 fr st K Z) Z
  | [], fr, st => rfl
  | o :: l1, fr, st => by
    have ih := aOps_append P ok τ ops K Z l2 l1
    rw [List.cons_append, aOps_cons, aOps_cons]
    simp only [ih]
theorem aOps_cut {P : Program} {ok : OkY} {τ : Tau} {ops : Array Oper} {l : List Oper} {fr : Nat → V} {st : St} {K : (Nat → V) → St → Prop} {Z : V → (Nat → V) → St → Prop} (k : Nat)
    (h : ∀ K1 : (Nat → V) → St → Prop, (∀ fr st, aOps P ok τ ops (l.drop k) fr st K Z → K1 fr st) → aOpsR P ok τ ops (l.take k) fr st K1 Z) : aOps P ok τ ops l fr st K Z := by
  have := h (fun fr st => aOps P ok τ ops (l.drop k) fr st K Z) fun _ _ h => h
  rw [aOpsR_eq, ← aOps_append, List.take_append_drop] at this
  exact this
theorem aOps_with {P : Program} {ok : OkY} {τ : Tau} {ops : Array Oper} {l : List Oper} {fr : Nat → V} {st : St} {K : (Nat → V) → St → Prop} {Z : V → (Nat → V) → St → Prop} (L : List (Nat × V)) (hh : Holds fr L) (h : ∀ b, aOpsR P ok τ ops l (setL b L) st K Z) : aOps P ok τ ops l fr st K Z := by
  obtain ⟨b, rfl⟩ := hh.split
  exact h b
theorem aOps_cutw {P : Program} {ok : OkY} {τ : Tau} {ops : Array Oper} {l : List Oper} {fr : Nat → V} {st : St} {K : (Nat → V) → St → Prop} {Z : V → (Nat → V) → St → Prop} (k : Nat) (L : List (Nat × V)) (hh : Holds fr L)
    (h : ∀ K1 : (Nat → V) → St → Prop, (∀ fr st, aOps P ok τ ops (l.drop k) fr st K Z → K1 fr st) → ∀ b, aOpsR P ok τ ops (l.take k) (setL b L) st K1 Z) : aOps P ok τ ops l fr st K Z := by
  obtain ⟨b, rfl⟩ := hh.split
  exact aOps_cut k fun K1 h1 => h K1 h1 b
end Go.Cod

namespace Go.Cod
open Go Go.Proofs
variable [Lam]

/- The walk of a region, sealed for the kernel too. -/
def awpG (A : Program → OkY → Tau → Array Oper → List Oper → (Nat → V) → St → ((Nat → V) → St → Prop) → (V → (Nat → V) → St → Prop) → Prop) (P : Program) (ok : OkY) (τ : Tau) (nb : Nat) (c : Code) : (Ex → (Nat → V) → St → Prop) → (Nat → V) → St → Prop :=
  Code.rec (motive := fun _ => Nat → (Ex → (Nat → V) → St → Prop) → (Nat → V) → St → Prop)
    (fun _ Q fr st => Q .normal fr st)
    (fun _ ops d _ Q fr st => match d with
      | false => A P ok τ ops ops.toList fr st (Q .normal) (fun v => Q (.pan v))
      | true => (match hasHand τ ops with
        | true => withMat τ ops fun M CH => Chk (mix2Ok τ M CH ops) (aEOps2 P τ CH ops ops.toList 0 fr st fun fr => forcePlan (planOf M CH ops) fun plan => aXOps P ok τ ops plan (Q .normal) plan [] fr st)
        | false => (match orderOk ops with
          | true => aQOps P τ ops ops.toList fr st fun fr => Q .normal fr st
          | false => (match mixOk ops with
            | true => aEOps P τ ops ops.toList 0 fr st fun fr => aCOps P ok τ ops ops.toList 0 fr st (Q .normal)
            | false => withMat τ ops fun M CH => (match mix2Ok τ M CH ops with
              | true => aEOps2 P τ CH ops ops.toList 0 fr st fun fr => forcePlan (planOf M CH ops) fun plan => aXOps P ok τ ops plan (Q .normal) plan [] fr st
              | false => aAny P ok τ ops (Q .normal) (fun v => Q (.pan v)) ops.size [] fr st)))))
    (fun _ _ iha ihb nb Q fr st => iha nb (AThen (ihb nb Q) Q) fr st)
    (fun c _ _ iha ihb nb Q fr st => ACond (ev fr c) (iha nb Q fr st) (ihb nb Q fr st))
    (fun id _ ih nb Q fr st => ih nb (ABlock id Q) fr st)
    (fun _ ih nb Q fr st => ∃ (J : Nat → (Nat → V) → St → Prop) (n : Nat) (flag : Bool) (s0 : Option (List Nat)), cmp nb s0 fr st (J n) ∧
      ∀ n fr st, J n fr st → ih nb (AThen (ALoop nb flag J n) Q) fr st)
    (fun f ps _ _ ihx ihy _ Q fr st => (match ev fr f with
      | .fn g cap => ARange P g cap ps.size (fun Q vs st' => ihx st.length (AThen (ihy st.length Q) fun _ _ _ => False) (setPs ps.toList vs fr) st') Q fr st
      | _ => False))
    (fun id _ Q fr st => Q (.exit id) fr st)
    (fun _ _ _ _ _ _ => False)
    (fun _ _ _ _ _ => False)
    (fun _ _ _ _ _ => False)
    (fun _ Q fr st => Q .ret fr st)
    (fun _ _ _ _ _ => False) c nb

theorem pure_of_box {P : Program} {τ : Tau} (hτ : TauGood P τ) {f : FuncId} {fn : Func} {c : Code} {args : List V} {R : V → Prop}
    (hf : P.funcs[f]? = some fn) (hb : fn.body = some c) (hname : (fn.name == "runtime.NumGoroutine") = false) (hc : codeOk fn.ntmps c = true)
    (h : ∀ A, A = aOps → awpG A P noY τ 0 c (AEnd τ fn.results.toList R) (initFr args) []) : Pure P f args R := pure_of_awp hτ hf hb hname hc (h aOps rfl)
section
variable {A : Program → OkY → Tau → Array Oper → List Oper → (Nat → V) → St → ((Nat → V) → St → Prop) → (V → (Nat → V) → St → Prop) → Prop}
variable {P : Program} {ok : OkY} {τ : Tau} {ops : Array Oper} {l : List Oper} {fr : Nat → V} {st : St} {K : (Nat → V) → St → Prop} {Z : V → (Nat → V) → St → Prop}
theorem box_go (hA : A = aOps) (h : aOpsR P ok τ ops l fr st K Z) : A P ok τ ops l fr st K Z := by rw [hA]; exact h
theorem box_cut (hA : A = aOps) (k : Nat) (h : ∀ K1 : (Nat → V) → St → Prop, (∀ fr st, A P ok τ ops (l.drop k) fr st K Z → K1 fr st) → aOpsR P ok τ ops (l.take k) fr st K1 Z) : A P ok τ ops l fr st K Z := by
  rw [hA] at h ⊢
  exact aOps_cut k h
theorem box_with (hA : A = aOps) (L : List (Nat × V)) (hh : Holds fr L) (h : ∀ b, aOpsR P ok τ ops l (setL b L) st K Z) : A P ok τ ops l fr st K Z := by
  rw [hA]
  exact aOps_with L hh h
theorem box_cutw (hA : A = aOps) (k : Nat) (L : List (Nat × V)) (hh : Holds fr L)
    (h : ∀ K1 : (Nat → V) → St → Prop, (∀ fr st, A P ok τ ops (l.drop k) fr st K Z → K1 fr st) → ∀ b, aOpsR P ok τ ops (l.take k) (setL b L) st K1 Z) : A P ok τ ops l fr st K Z := by
  rw [hA] at h ⊢
  exact aOps_cutw k L hh h
end
end Go.Cod

namespace Go.Cod
open Go Go.Proofs
set_option maxRecDepth 10000

def fitsI (o a b : T) : Bool := okT o && okT a && okT b && decide (o.id = a.id) && decide (o.id = b.id) && pairFits o a && pairFits o b && pairFits a b
set_option maxHeartbeats 800000 in
theorem implMergeFits_pure (o a b : T) (ho : o.Small) (ha : a.Small) (hb : b.Small) : Pure Try.prog 8 [.agg o.cells, .agg a.cells, .agg b.cells] (· = .bool (fitsI o a b)) := by
  have h1 := implTreeOk o ho
  have h2 := implTreeOk a ha
  have h3 := implTreeOk b hb
  have h4 := mergePairFits_pure o a ho ha
  have h5 := mergePairFits_pure o b ho hb
  have h6 := mergePairFits_pure a b ha hb
  have hr : fitsI o a b = (okT o && okT a && okT b && decide (o.id = a.id) && decide (o.id = b.id) && pairFits o a && pairFits o b && pairFits a b) := rfl
  generalize fitsI o a b = r at *
  generalize okT o = r1 at *
  generalize okT a = r2 at *
  generalize okT b = r3 at *
  generalize pairFits o a = r4 at *
  generalize pairFits o b = r5 at *
  generalize pairFits a b = r6 at *
  obtain ⟨oi, ok, ox, oks⟩ := o
  obtain ⟨ai, ak, ax, aks⟩ := a
  obtain ⟨bi, bk, bx, bks⟩ := b
  simp only [T.id] at hr
  refine pure_of_box good Try.func8 rfl (by kernel_rfl) (by decide) fun A hA => ?_
  conv => whnf
  refine box_cut hA 1 fun K1 hK1 => ?_
  conv => whnf
  refine hK1 _ [⟨[[.int .i64 oi, .str ok, .str ox, .sl (T.rows oks)]], 4, true, true, true, .cell⟩] ?_
  clear hK1 K1
  refine box_cut hA 1 fun K1 hK1 => ?_
  conv => whnf
  refine hK1 _ [⟨[[.int .i64 oi, .str ok, .str ox, .sl (T.rows oks)]], 4, true, true, true, .cell⟩, ⟨[[.int .i64 ai, .str ak, .str ax, .sl (T.rows aks)]], 4, true, true, true, .cell⟩] ?_
  clear hK1 K1
  refine box_cut hA 1 fun K1 hK1 => ?_
  conv => whnf
  refine hK1 _ [⟨[[.int .i64 oi, .str ok, .str ox, .sl (T.rows oks)]], 4, true, true, true, .cell⟩, ⟨[[.int .i64 ai, .str ak, .str ax, .sl (T.rows aks)]], 4, true, true, true, .cell⟩, ⟨[[.int .i64 bi, .str bk, .str bx, .sl (T.rows bks)]], 4, true, true, true, .cell⟩] ?_
  clear hK1 K1
  refine box_go hA ?_
  conv => whnf
  refine box_go hA ?_
  conv => whnf
  refine .inl (h1.mono ?_)
  rintro r rfl
  cases r1
  · conv => whnf
    rw [hr]; rfl
  conv => whnf
  refine .inl (h2.mono ?_)
  rintro r rfl
  cases r2
  · conv => whnf
    rw [hr]; rfl
  conv => whnf
  refine .inl (h3.mono ?_)
  rintro r rfl
  cases r3
  · conv => whnf
    rw [hr]; rfl
  conv => whnf
  by_cases e1 : oi = ai
  · rw [eqB_t e1]
    conv => whnf
    by_cases e2 : oi = bi
    · rw [eqB_t e2]
      conv => whnf
      refine .inl (h4.mono ?_)
      rintro r rfl
      cases r4
      · conv => whnf
        rw [hr]; simp
      conv => whnf
      refine .inl (h5.mono ?_)
      rintro r rfl
      cases r5
      · conv => whnf
        rw [hr]; simp
      conv => whnf
      refine .inl (h6.mono ?_)
      rintro r rfl
      cases r6
      · conv => whnf
        rw [hr]; simp
      conv => whnf
      rw [hr]; simp [e1, ← e2]
    · rw [eqB_f e2]
      conv => whnf
      rw [hr]; simp [e2]
  · rw [eqB_f e1]
    conv => whnf
    rw [hr]; simp [e1]
end Go.Cod

namespace Go.Cod
open Go Go.Proofs
set_option maxRecDepth 10000

/- The spec's way. -/
def oversGo (a b : T) : List Int → Bool
  | [] => true
  | x :: xs => if 0 ≤ overT b x 0 ∧ overT b x 0 ≠ overT a x 0 then false else oversGo a b xs
theorem oversGo_drop (a b : T) (ns : List Int) (i : Nat) (h : i < ns.length) : oversGo a b (ns.drop i) = if 0 ≤ overT b ns[i] 0 ∧ overT b ns[i] 0 ≠ overT a ns[i] 0 then false else oversGo a b (ns.drop (i + 1)) := by
  rw [List.drop_eq_getElem_cons h]; rfl
set_option maxHeartbeats 8000000 in
theorem l6Overs_pure (a b : T) (ha : a.Small) (hb : b.Small) (hn : a.ids.length ≤ 1048577) : Pure Try.prog 23 [.agg a.cells, .agg b.cells] (· = .bool (oversGo a b a.ids)) := by
  have hi := l2Ids_pure a ha (by omega)
  have ca := fun x => l2Over_pure a ha x 0
  have cb := fun x => l2Over_pure b hb x 0
  have hg := irows_get a.ids
  have hlr := irows_len a.ids
  have hdr := oversGo_drop a b a.ids
  generalize a.ids = ns at *
  have hres : oversGo a b ns = oversGo a b (ns.drop 0) := rfl
  generalize hrr : oversGo a b ns = res at *
  clear hrr
  have hnil : oversGo a b [] = true := rfl
  generalize oversGo a b = gg at *
  generalize overT a = oa at *
  generalize overT b = ob at *
  obtain ⟨ai, ak, ax, aks⟩ := a
  obtain ⟨bi, bk, bx, bks⟩ := b
  refine pure_of_awp good Try.func23 rfl (by kernel_rfl) (by decide) ?_
  conv => whnf
  refine .inl (hi.mono ?_)
  rintro r rfl
  conv => whnf
  refine loop_drop (fun n fr st => ∃ i : Nat, n + i = ns.length ∧ res = gg (ns.drop i) ∧ st = [⟨[(T.mk ai ak ax aks).cells], 4, true, true, true, .cell⟩, ⟨[(T.mk bi bk bx bks).cells], 4, true, true, true, .cell⟩] ∧ Holds fr [(2, .ptr 0 0 0), (3, .ptr 1 0 0), (5, .sl (irows ns)), (6, .int .i64 i)]) ns.length none ?_ ?_
  · exact ⟨0, rfl, hres, rfl, rfl, rfl, rfl, rfl, trivial⟩
  rintro n fr st ⟨i, hi, hgo, rfl, hh⟩
  obtain ⟨fr, rfl⟩ := hh.split
  clear hh
  conv => whnf
  by_cases hlt : i < ns.length
  · rw [hlr, ltB_t (by omega)]
    conv => whnf
    have hgi := hg i hlt
    have hd := hdr i hlt
    generalize ns[i] = x at hgi hd
    have cax := ca x
    have cbx := cb x
    generalize oa x 0 = va at *
    generalize ob x 0 = vb at *
    repeat' (first
      | (refine And.intro (by
              (conv => whnf)
              exact ⟨by omega, irows ns, _, 1, rfl, hgi, rfl, rfl, rfl⟩) ?_
         conv => whnf)
      | (refine ⟨by omega, irows ns, _, 1, rfl, hgi, rfl, rfl, ?_⟩
         conv => whnf)
      | (refine ⟨_, .inl cbx, ?_⟩
         conv => whnf))
    by_cases h0 : 0 ≤ vb
    · rw [leB_t h0]
      conv => whnf
      repeat' (first
        | (refine And.intro (by
                (conv => whnf)
                exact ⟨by omega, irows ns, _, 1, rfl, hgi, rfl, rfl, rfl⟩) ?_
           conv => whnf)
        | (refine ⟨by omega, irows ns, _, 1, rfl, hgi, rfl, rfl, ?_⟩
           conv => whnf)
        | (refine ⟨_, .inl cax, ?_⟩
           conv => whnf))
      by_cases he : vb = va
      · rw [eqB_t he]
        conv => whnf
        rw [if_neg (fun h => h.2 he)] at hd
        refine ⟨n - 1, by omega, none, i + 1, by omega, by rw [hgo, hd], rfl, rfl, rfl, rfl, ?_, trivial⟩
        · show V.int .i64 (IntKind.i64.wrap (i + 1)) = _
          rw [wrap64 (by omega) (by omega)]; simp
      · rw [eqB_f he]
        conv => whnf
        rw [hgo, hd, if_pos ⟨h0, he⟩]
    · rw [leB_f (by omega)]
      conv => whnf
      rw [if_neg (fun h => h0 h.1)] at hd
      refine ⟨n - 1, by omega, none, i + 1, by omega, by rw [hgo, hd], rfl, rfl, rfl, rfl, ?_, trivial⟩
      · show V.int .i64 (IntKind.i64.wrap (i + 1)) = _
        rw [wrap64 (by omega) (by omega)]; simp
  · rw [hlr, ltB_f (by omega)]
    conv => whnf
    rw [hgo, List.drop_eq_nil_of_le (by omega), hnil]
end Go.Cod

namespace Go.Cod
open Go Go.Proofs
set_option maxRecDepth 10000

theorem fT_sm {t : T} (ht : t.Small) {x : Int} {s : T} (h : fT t x = some s) : s.Small := by
  rw [fT_sp t x 0 1] at h
  cases e : (spT t 0 1).find? (isId x) with
  | none => rw [e] at h; cases h
  | some o =>
    rw [e] at h
    cases h
    exact spT_small t 0 1 ht o (List.mem_of_find?_eq_some e)
def orders1 (a b : Option T) : Bool := match a, b with
  | some s, some s' => ordGo s'.kidIds (-1) s.kidIds
  | _, _ => true
def ordersGo (a b : T) : List Int → Bool
  | [] => true
  | x :: xs => if orders1 (fT a x) (fT b x) = true then ordersGo a b xs else false
theorem ordersGo_drop (a b : T) (ns : List Int) (i : Nat) (h : i < ns.length) : ordersGo a b (ns.drop i) = if orders1 (fT a ns[i]) (fT b ns[i]) = true then ordersGo a b (ns.drop (i + 1)) else false := by
  rw [List.drop_eq_getElem_cons h]; rfl
set_option maxHeartbeats 8000000 in
theorem l6Orders_pure (a b : T) (ha : a.Small) (hb : b.Small) (hn : a.ids.length ≤ 1048577) : Pure Try.prog 24 [.agg a.cells, .agg b.cells] (· = .bool (ordersGo a b a.ids)) := by
  have hi := l2Ids_pure a ha (by omega)
  have ca := fun x => l2Find_pure a ha x
  have cb := fun x => l2Find_pure b hb x
  have sa : ∀ x s, fT a x = some s → s.Small := fun x s h => fT_sm ha h
  have sb : ∀ x s, fT b x = some s → s.Small := fun x s h => fT_sm hb h
  have hg := irows_get a.ids
  have hlr := irows_len a.ids
  have hdr := ordersGo_drop a b a.ids
  have hnn : ∀ i (h : i < a.ids.length), fT a a.ids[i] ≠ none := fun i h e => (fT_none a _).1 e (List.getElem_mem _)
  generalize a.ids = ns at *
  have hres : ordersGo a b ns = ordersGo a b (ns.drop 0) := rfl
  generalize hrr : ordersGo a b ns = res at *
  clear hrr
  have hnil : ordersGo a b [] = true := rfl
  generalize ordersGo a b = gg at *
  generalize fT a = fa at *
  generalize fT b = fb at *
  obtain ⟨ai, ak, ax, aks⟩ := a
  obtain ⟨bi, bk, bx, bks⟩ := b
  refine pure_of_awp good Try.func24 rfl (by kernel_rfl) (by decide) ?_
  conv => whnf
  refine .inl (hi.mono ?_)
  rintro r rfl
  conv => whnf
  refine loop_drop (fun n fr st => ∃ i : Nat, n + i = ns.length ∧ res = gg (ns.drop i) ∧ st = [⟨[(T.mk ai ak ax aks).cells], 4, true, true, true, .cell⟩, ⟨[(T.mk bi bk bx bks).cells], 4, true, true, true, .cell⟩] ∧ Holds fr [(2, .ptr 0 0 0), (3, .ptr 1 0 0), (5, .sl (irows ns)), (6, .int .i64 i)]) ns.length none ?_ ?_
  · exact ⟨0, rfl, hres, rfl, rfl, rfl, rfl, rfl, trivial⟩
  rintro n fr st ⟨i, hi, hgo, rfl, hh⟩
  obtain ⟨fr, rfl⟩ := hh.split
  clear hh
  conv => whnf
  by_cases hlt : i < ns.length
  · rw [hlr, ltB_t (by omega)]
    conv => whnf
    have hgi := hg i hlt
    have hd := hdr i hlt
    have hnx := hnn i hlt
    clear hnn
    generalize ns[i] = x at hgi hd hnx
    have cax := ca x
    have cbx := cb x
    have sax := sa x
    have sbx := sb x
    generalize fa x = va at *
    generalize fb x = vb at *
    have w1 : IntKind.i64.wrap ((i : Int) + 1) = ((i + 1 : Nat) : Int) := by rw [wrap64 (by omega) (by omega)]; simp
    rcases va with _ | ⟨⟨ia, ka, xa, ksa⟩⟩
    · exact absurd rfl hnx
    · rcases vb with _ | ⟨⟨ib, kb, xb, ksb⟩⟩
      · rw [if_pos (show orders1 (some (.mk ia ka xa ksa)) none = true from rfl)] at hd
        repeat' (first
        | (refine And.intro (by
                (conv => whnf)
                first
                  | exact ⟨by omega, irows ns, _, 1, rfl, hgi, rfl, rfl, rfl⟩
                  | exact ⟨_, .inl cax, rfl⟩
                  | exact ⟨_, .inl cbx, rfl⟩) ?_
           conv => whnf)
        | (refine ⟨by omega, irows ns, _, 1, rfl, hgi, rfl, rfl, ?_⟩
           conv => whnf)
        | (refine ⟨_, .inl cax, ?_⟩
           conv => whnf)
        | (refine ⟨_, .inl cbx, ?_⟩
           conv => whnf))
        refine ⟨n - 1, by omega, some [0, 1], ?_⟩
        conv => whnf
        refine ⟨i + 1, by omega, by rw [hgo, hd], rfl, rfl, rfl, rfl, ?_, trivial⟩
        show V.int .i64 (IntKind.i64.wrap (i + 1)) = _
        rw [w1]
      · have la := (sax _ rfl).len
        have lb := (sbx _ rfl).len
        have n1 := l5Numbers_pure _ la
        have n2 := l5Numbers_pure _ lb
        have n3 := l6Order_pure (T.mk ia ka xa ksa).kidIds (T.mk ib kb xb ksb).kidIds (by unfold T.kidIds; rw [List.length_map]; exact la) (by unfold T.kidIds; rw [List.length_map]; exact lb)
        have ho : orders1 (some (.mk ia ka xa ksa)) (some (.mk ib kb xb ksb)) = ordGo (T.mk ib kb xb ksb).kidIds (-1) (T.mk ia ka xa ksa).kidIds := rfl
        rw [ho] at hd
        generalize ordGo (T.mk ib kb xb ksb).kidIds (-1) (T.mk ia ka xa ksa).kidIds = r at n3 hd
        generalize irows (T.mk ia ka xa ksa).kidIds = ra at n1 n3
        generalize irows (T.mk ib kb xb ksb).kidIds = rb at n2 n3
        repeat' (first
        | (refine And.intro (by
                (conv => whnf)
                first
                  | exact ⟨by omega, irows ns, _, 1, rfl, hgi, rfl, rfl, rfl⟩
                  | exact ⟨_, .inl cax, rfl⟩
                  | exact ⟨_, .inl cbx, rfl⟩) ?_
           conv => whnf)
        | (refine ⟨by omega, irows ns, _, 1, rfl, hgi, rfl, rfl, ?_⟩
           conv => whnf)
        | (refine ⟨_, .inl cax, ?_⟩
           conv => whnf)
        | (refine ⟨_, .inl cbx, ?_⟩
           conv => whnf))
        repeat' (first
          | (refine ⟨_, .inl n1, ?_⟩
             conv => whnf)
          | (refine ⟨_, .inl n2, ?_⟩
             conv => whnf)
          | (refine ⟨_, .inl n3, ?_⟩
             conv => whnf))
        cases r
        · conv => whnf
          rw [hgo, hd, if_neg (by decide)]
        · conv => whnf
          rw [if_pos rfl] at hd
          refine ⟨n - 1, by omega, some [0, 1], ?_⟩
          conv => whnf
          refine ⟨i + 1, by omega, by rw [hgo, hd], rfl, rfl, rfl, rfl, ?_, trivial⟩
          show V.int .i64 (IntKind.i64.wrap (i + 1)) = _
          rw [w1]
  · rw [hlr, ltB_f (by omega)]
    conv => whnf
    rw [hgo, List.drop_eq_nil_of_le (by omega), hnil]
end Go.Cod

namespace Go.Cod
open Go Go.Proofs
set_option maxRecDepth 10000

def fitsS (o a b : T) : Bool := okT o && okT a && okT b && decide (o.id = a.id) && decide (o.id = b.id) && oversGo o a o.ids && oversGo o b o.ids && oversGo a b a.ids && ordersGo o a o.ids && ordersGo o b o.ids && ordersGo a b a.ids
set_option maxHeartbeats 8000000 in
theorem specMergeFits_pure (o a b : T) (ho : o.Small) (ha : a.Small) (hb : b.Small) (no : o.ids.length ≤ 1048577) (na : a.ids.length ≤ 1048577) (nb : b.ids.length ≤ 1048577) : Pure Try.prog 9 [.agg o.cells, .agg a.cells, .agg b.cells] (· = .bool (fitsS o a b)) := by
  have h1 := specTreeOk_pure o ho (by omega)
  have h2 := specTreeOk_pure a ha (by omega)
  have h3 := specTreeOk_pure b hb (by omega)
  have h4 := l6Overs_pure o a ho ha no
  have h5 := l6Overs_pure o b ho hb no
  have h6 := l6Overs_pure a b ha hb na
  have h7 := l6Orders_pure o a ho ha no
  have h8 := l6Orders_pure o b ho hb no
  have h9 := l6Orders_pure a b ha hb na
  have hr : fitsS o a b = (okT o && okT a && okT b && decide (o.id = a.id) && decide (o.id = b.id) && oversGo o a o.ids && oversGo o b o.ids && oversGo a b a.ids && ordersGo o a o.ids && ordersGo o b o.ids && ordersGo a b a.ids) := rfl
  generalize fitsS o a b = r at *
  generalize okT o = r1 at *
  generalize okT a = r2 at *
  generalize okT b = r3 at *
  generalize oversGo o a o.ids = r4 at *
  generalize oversGo o b o.ids = r5 at *
  generalize oversGo a b a.ids = r6 at *
  generalize ordersGo o a o.ids = r7 at *
  generalize ordersGo o b o.ids = r8 at *
  generalize ordersGo a b a.ids = r9 at *
  clear no na nb
  obtain ⟨oi, ok, ox, oks⟩ := o
  obtain ⟨ai, ak, ax, aks⟩ := a
  obtain ⟨bi, bk, bx, bks⟩ := b
  simp only [T.id] at hr
  refine pure_of_box good Try.func9 rfl (by kernel_rfl) (by decide) fun A hA => ?_
  conv => whnf
  refine box_cut hA 1 fun K1 hK1 => ?_
  conv => whnf
  refine hK1 _ [⟨[[.int .i64 oi, .str ok, .str ox, .sl (T.rows oks)]], 4, true, true, true, .cell⟩] ?_
  clear hK1 K1
  refine box_cut hA 1 fun K1 hK1 => ?_
  conv => whnf
  refine hK1 _ [⟨[[.int .i64 oi, .str ok, .str ox, .sl (T.rows oks)]], 4, true, true, true, .cell⟩, ⟨[[.int .i64 ai, .str ak, .str ax, .sl (T.rows aks)]], 4, true, true, true, .cell⟩] ?_
  clear hK1 K1
  refine box_cut hA 1 fun K1 hK1 => ?_
  conv => whnf
  refine hK1 _ [⟨[[.int .i64 oi, .str ok, .str ox, .sl (T.rows oks)]], 4, true, true, true, .cell⟩, ⟨[[.int .i64 ai, .str ak, .str ax, .sl (T.rows aks)]], 4, true, true, true, .cell⟩, ⟨[[.int .i64 bi, .str bk, .str bx, .sl (T.rows bks)]], 4, true, true, true, .cell⟩] ?_
  clear hK1 K1
  refine box_go hA ?_
  conv => whnf
  refine box_cut hA 20 fun K1 hK1 => ?_
  conv => whnf
  refine .inl (h1.mono ?_)
  rintro r rfl
  cases r1
  · conv => whnf
    refine hK1 _ _ ?_
    refine box_with hA [(3, .ptr 0 0 0), (4, .ptr 1 0 0), (5, .ptr 2 0 0), (26, .bool true)] ⟨rfl, rfl, rfl, rfl, trivial⟩ fun fr => ?_
    conv => whnf
    refine box_go hA ?_
    conv => whnf
    rw [hr]; simp
  conv => whnf
  refine .inl (h2.mono ?_)
  rintro r rfl
  cases r2
  · conv => whnf
    refine hK1 _ _ ?_
    refine box_with hA [(3, .ptr 0 0 0), (4, .ptr 1 0 0), (5, .ptr 2 0 0), (26, .bool true)] ⟨rfl, rfl, rfl, rfl, trivial⟩ fun fr => ?_
    conv => whnf
    refine box_go hA ?_
    conv => whnf
    rw [hr]; simp
  conv => whnf
  refine .inl (h3.mono ?_)
  rintro r rfl
  cases r3
  · conv => whnf
    refine hK1 _ _ ?_
    refine box_with hA [(3, .ptr 0 0 0), (4, .ptr 1 0 0), (5, .ptr 2 0 0), (26, .bool true)] ⟨rfl, rfl, rfl, rfl, trivial⟩ fun fr => ?_
    conv => whnf
    refine box_go hA ?_
    conv => whnf
    rw [hr]; simp
  conv => whnf
  by_cases e1 : oi = ai
  · rw [eqB_t e1]
    conv => whnf
    refine hK1 _ _ ?_
    refine box_cutw hA 7 [(3, .ptr 0 0 0), (4, .ptr 1 0 0), (5, .ptr 2 0 0), (26, .bool false)] ⟨rfl, rfl, rfl, rfl, trivial⟩ fun K2 hK2 fr => ?_
    conv => whnf
    by_cases e2 : oi = bi
    · rw [eqB_t e2]
      conv => whnf
      refine hK2 _ _ ?_
      refine box_with hA [(3, .ptr 0 0 0), (4, .ptr 1 0 0), (5, .ptr 2 0 0), (33, .bool false)] ⟨rfl, rfl, rfl, rfl, trivial⟩ fun fr => ?_
      conv => whnf
      refine box_with hA [(3, .ptr 0 0 0), (4, .ptr 1 0 0), (5, .ptr 2 0 0)] ⟨rfl, rfl, rfl, trivial⟩ fun fr => ?_
      conv => whnf
      refine .inl (h4.mono ?_)
      rintro r rfl
      cases r4
      · conv => whnf
        rw [hr]; simp
      conv => whnf
      refine .inl (h5.mono ?_)
      rintro r rfl
      cases r5
      · conv => whnf
        rw [hr]; simp
      conv => whnf
      refine .inl (h6.mono ?_)
      rintro r rfl
      cases r6
      · conv => whnf
        rw [hr]; simp
      conv => whnf
      refine .inl (h7.mono ?_)
      rintro r rfl
      cases r7
      · conv => whnf
        rw [hr]; simp
      conv => whnf
      refine .inl (h8.mono ?_)
      rintro r rfl
      cases r8
      · conv => whnf
        rw [hr]; simp
      conv => whnf
      refine .inl (h9.mono ?_)
      rintro r rfl
      cases r9
      · conv => whnf
        rw [hr]; simp
      conv => whnf
      rw [hr]; simp [e1, ← e2]
    · rw [eqB_f e2]
      conv => whnf
      refine hK2 _ _ ?_
      refine box_with hA [(3, .ptr 0 0 0), (4, .ptr 1 0 0), (5, .ptr 2 0 0), (33, .bool true)] ⟨rfl, rfl, rfl, rfl, trivial⟩ fun fr => ?_
      conv => whnf
      refine box_go hA ?_
      conv => whnf
      rw [hr]; simp [e2]
  · rw [eqB_f e1]
    conv => whnf
    refine hK1 _ _ ?_
    refine box_with hA [(3, .ptr 0 0 0), (4, .ptr 1 0 0), (5, .ptr 2 0 0), (26, .bool true)] ⟨rfl, rfl, rfl, rfl, trivial⟩ fun fr => ?_
    conv => whnf
    refine box_go hA ?_
    conv => whnf
    rw [hr]; simp [e1]
end Go.Cod

namespace Go.Cod
open Go Go.Proofs

/- Two ways to say: in one order. -/
def ix (x : Int) : List Int → Nat
  | [] => 0
  | y :: ys => if x = y then 0 else ix x ys + 1
theorem ordIn_out (x : Int) : ∀ (bs : List Int) (j : Nat) (last : Int), x ∉ bs → ordIn x j last bs = some last
  | [], _, _, _ => rfl
  | y :: ys, j, last, hx => by
    simp only [List.mem_cons, not_or] at hx
    simp only [ordIn]
    rw [if_neg hx.1]
    exact ordIn_out x ys (j + 1) last hx.2
theorem ordIn_no (x : Int) : ∀ (bs : List Int) (j : Nat) (last : Int), x ∈ bs → ((j + ix x bs : Nat) : Int) < last → ordIn x j last bs = none
  | y :: ys, j, last, hx, h => by
    simp only [ix] at h
    simp only [ordIn]
    by_cases e : x = y
    · rw [if_pos e] at h
      rw [if_pos e, if_pos (by omega)]
    · rw [if_neg e] at h
      rw [if_neg e]
      exact ordIn_no x ys (j + 1) last (by simpa [e] using hx) (by omega)
theorem ordIn_in (x : Int) : ∀ (bs : List Int) (j : Nat) (last : Int), bs.Nodup → x ∈ bs → ¬ ((j + ix x bs : Nat) : Int) < last → ordIn x j last bs = some ((j + ix x bs : Nat) : Int)
  | y :: ys, j, last, hn, hx, h => by
    simp only [List.nodup_cons] at hn
    simp only [ix] at h
    by_cases e : x = y
    · rw [if_pos e] at h
      have e0 : ix x (y :: ys) = 0 := if_pos e
      rw [e0]
      simp only [ordIn]
      rw [if_pos e, if_neg (by omega), ordIn_out x ys _ _ (e ▸ hn.1)]
      rfl
    · rw [if_neg e] at h
      have e0 : ix x (y :: ys) = ix x ys + 1 := if_neg e
      rw [e0]
      simp only [ordIn]
      rw [if_neg e, ordIn_in x ys (j + 1) last hn.2 (by simpa [e] using hx) (by omega)]
      congr 1; omega
theorem ordGo_iff (bs : List Int) (hb : bs.Nodup) : ∀ (l : List Int) (last : Int), ordGo bs last l = true ↔ (∀ x ∈ l, x ∈ bs → last ≤ (ix x bs : Nat)) ∧ (l.filter (fun x => decide (x ∈ bs))).Pairwise (fun x y => ix x bs ≤ ix y bs)
  | [], _ => by simp [ordGo]
  | x :: xs, last => by
    simp only [ordGo]
    by_cases hx : x ∈ bs
    · rw [List.filter_cons, if_pos (by simpa using hx), List.pairwise_cons]
      by_cases hl : ((0 + ix x bs : Nat) : Int) < last
      · rw [ordIn_no x bs 0 last hx hl]
        refine ⟨fun h => (by cases h), fun h => ?_⟩
        have := h.1 x (by simp) hx
        omega
      · rw [ordIn_in x bs 0 last hb hx hl]
        simp only
        rw [ordGo_iff bs hb xs]
        constructor
        · rintro ⟨h1, h2⟩
          refine ⟨fun y hy hyb => ?_, fun y hy => ?_, h2⟩
          · rcases List.mem_cons.1 hy with rfl | hy
            · omega
            · have := h1 y hy hyb; omega
          · have hy := List.mem_filter.1 hy
            have := h1 y hy.1 (by simpa using hy.2); omega
        · rintro ⟨h1, h2, h3⟩
          refine ⟨fun y hy hyb => ?_, h3⟩
          have := h2 y (List.mem_filter.2 ⟨hy, by simpa using hyb⟩)
          omega
    · rw [ordIn_out x bs 0 last hx, List.filter_cons, if_neg (by simpa using hx)]
      simp only
      rw [ordGo_iff bs hb xs]
      constructor
      · rintro ⟨h1, h2⟩
        refine ⟨fun y hy hyb => ?_, h2⟩
        rcases List.mem_cons.1 hy with rfl | hy
        · exact absurd hyb hx
        · exact h1 y hy hyb
      · rintro ⟨h1, h2⟩
        exact ⟨fun y hy hyb => h1 y (by simp [hy]) hyb, h2⟩
theorem ix_sorted : ∀ (bs : List Int), bs.Nodup → bs.Pairwise (fun x y => ix x bs ≤ ix y bs)
  | [], _ => .nil
  | b :: bs, hn => by
    simp only [List.nodup_cons] at hn
    rw [List.pairwise_cons]
    refine ⟨fun y _ => by simp [ix], ?_⟩
    refine (ix_sorted bs hn.2).imp_of_mem ?_
    intro x y hx hy h
    have e1 : x ≠ b := fun e => hn.1 (e ▸ hx)
    have e2 : y ≠ b := fun e => hn.1 (e ▸ hy)
    simp only [ix, e1, e2, if_false]
    omega
theorem ix_inj : ∀ (bs : List Int) (x y : Int), x ∈ bs → y ∈ bs → ix x bs = ix y bs → x = y
  | b :: bs, x, y, hx, hy, h => by
    simp only [ix] at h
    by_cases e1 : x = b
    · by_cases e2 : y = b
      · rw [e1, e2]
      · rw [if_pos e1, if_neg e2] at h; omega
    · by_cases e2 : y = b
      · rw [if_neg e1, if_pos e2] at h; omega
      · rw [if_neg e1, if_neg e2] at h
        simp only [List.mem_cons, e1, e2, false_or] at hx hy
        exact ix_inj bs x y hx hy (by omega)
theorem eq_sorted (f : Int → Nat) : ∀ (l1 l2 : List Int), l1.Nodup → l2.Nodup → (∀ x, x ∈ l1 ↔ x ∈ l2) → l1.Pairwise (fun x y => f x ≤ f y) → l2.Pairwise (fun x y => f x ≤ f y) → (∀ x ∈ l1, ∀ y ∈ l1, f x = f y → x = y) → l1 = l2
  | [], l2, _, _, hm, _, _, _ => by
    cases l2 with
    | nil => rfl
    | cons b l2 => have := (hm b).2 (by simp); cases this
  | a :: l1, [], _, _, hm, _, _, _ => by have := (hm a).1 (by simp); cases this
  | a :: l1, b :: l2, n1, n2, hm, p1, p2, hi => by
    simp only [List.nodup_cons, List.pairwise_cons] at n1 n2 p1 p2
    have hab : a = b := by
      have h1 := (hm a).1 (by simp)
      have h2 := (hm b).2 (by simp)
      rcases List.mem_cons.1 h1 with h | h1'
      · exact h
      rcases List.mem_cons.1 h2 with h | h2'
      · exact h.symm
      exact hi a (by simp) b h2 (by have := p1.1 b h2'; have := p2.1 a h1'; omega)
    subst hab
    congr 1
    refine eq_sorted f l1 l2 n1.2 n2.2 (fun x => ?_) p1.2 p2.2 fun x hx y hy => hi x (by simp [hx]) y (by simp [hy])
    have := hm x
    simp only [List.mem_cons] at this
    constructor
    · intro hx
      rcases this.1 (.inr hx) with h | h
      · exact absurd (h ▸ hx) n1.1
      · exact h
    · intro hx
      rcases this.2 (.inr hx) with h | h
      · exact absurd (h ▸ hx) n2.1
      · exact h
theorem sameOrd_eq (a b : T) (ha : a.kidIds.Nodup) (hb : b.kidIds.Nodup) : sameOrd a b = ordGo b.kidIds (-1) a.kidIds := by
  have h := ordGo_iff b.kidIds hb a.kidIds (-1)
  have hA : sharedT a b = a.kidIds.filter (fun x => decide (x ∈ b.kidIds)) := rfl
  have hB : sharedT b a = b.kidIds.filter (fun x => decide (x ∈ a.kidIds)) := rfl
  rw [← hA] at h
  unfold sameOrd
  rw [Bool.eq_iff_iff, h, decide_eq_true_eq]
  have sB : (sharedT b a).Pairwise (fun x y => ix x b.kidIds ≤ ix y b.kidIds) := by
    rw [hB]; exact (ix_sorted _ hb).sublist List.filter_sublist
  constructor
  · intro e
    refine ⟨fun x _ _ => by omega, ?_⟩
    rw [e]; exact sB
  · rintro ⟨_, hp⟩
    refine eq_sorted (fun x => ix x b.kidIds) _ _ (ha.sublist List.filter_sublist) (hb.sublist List.filter_sublist) (fun x => ?_) hp sB ?_
    · rw [hA, hB, List.mem_filter, List.mem_filter]
      simp [and_comm]
    · intro x hx y hy hxy
      rw [hA, List.mem_filter] at hx hy
      exact ix_inj _ x y (by simpa using hx.2) (by simpa using hy.2) hxy
end Go.Cod

namespace Go.Cod
open Go Go.Proofs

theorem find_self : ∀ (l : List Sp) (s : Sp), (l.map idS).Nodup → s ∈ l → l.find? (isId (idS s)) = some s
  | a :: l, s, hn, hs => by
    simp only [List.map_cons, List.nodup_cons] at hn
    rw [List.find?_cons]
    by_cases e : idS a = idS s
    · have : isId (idS s) a = true := by simp [isId, e]
      rw [this]
      rcases List.mem_cons.1 hs with rfl | hs
      · rfl
      · exact absurd (e ▸ List.mem_map.2 ⟨s, hs, rfl⟩) hn.1
    · have : isId (idS s) a = false := by simp [isId, e]
      rw [this]
      rcases List.mem_cons.1 hs with rfl | hs
      · exact absurd rfl e
      · exact find_self l s hn.2 hs
theorem overs_all (a b : T) : ∀ l : List Int, oversGo a b l = l.all fun x => !(decide (0 ≤ overT b x 0 ∧ overT b x 0 ≠ overT a x 0))
  | [] => rfl
  | x :: xs => by
    simp only [oversGo, List.all_cons, overs_all a b xs]
    by_cases h : 0 ≤ overT b x 0 ∧ overT b x 0 ≠ overT a x 0
    · rw [if_pos h]; simp [h]
    · rw [if_neg h, decide_eq_false h]; simp
theorem orders_all (a b : T) : ∀ l : List Int, ordersGo a b l = l.all fun x => orders1 (fT a x) (fT b x)
  | [] => rfl
  | x :: xs => by
    simp only [ordersGo, List.all_cons, orders_all a b xs]
    cases orders1 (fT a x) (fT b x) <;> simp
theorem all_congr {α : Type} {l : List α} {p q : α → Bool} (h : ∀ x ∈ l, p x = q x) : l.all p = l.all q := by
  induction l with
  | nil => rfl
  | cons a l ih => rw [List.all_cons, List.all_cons, h a (by simp), ih fun x hx => h x (by simp [hx])]
theorem all_and {α : Type} (l : List α) (p q : α → Bool) : (l.all fun x => p x && q x) = (l.all p && l.all q) := by
  induction l with
  | nil => rfl
  | cons a l ih => simp only [List.all_cons, ih]; cases p a <;> cases q a <;> simp
theorem found_kids {t : T} (h : okT t = true) {x : Int} {s : T} (hs : fT t x = some s) : s.kidIds.Nodup := by
  have : findT t x = some s := by rw [findT, if_pos h]; exact hs
  exact okT_kids (findT_spec this).2.2.2.1
theorem pairFits_eq (a b : T) (ha : okT a = true) (hb : okT b = true) : pairFits a b = (oversGo a b a.ids && ordersGo a b a.ids) := by
  rw [overs_all, orders_all, ← all_and, ← spT_ids a 0 1, List.all_map]
  unfold pairFits
  refine all_congr fun s hs => ?_
  have hn : ((spT a 0 1).map idS).Nodup := by rw [spT_ids]; exact ((okT_iff' a).1 ha).2.1
  have hf := find_self _ s hn hs
  have o1 := overT_eq a (idS s) 0 1 (by omega) (okT_ids ha)
  have f1 := fT_sp a (idS s) 0 1
  have o2 := overT_eq b (idS s) 0 1 (by omega) (okT_ids hb)
  have f2 := fT_sp b (idS s) 0 1
  rw [hf] at o1 f1
  have hso : spotOf b (idS s) = (spT b 0 1).find? (isId (idS s)) := by rw [spotOf, if_pos hb]
  show pairOk b s = _
  unfold pairOk
  show _ = (!(decide (0 ≤ overT b (idS s) 0 ∧ overT b (idS s) 0 ≠ overT a (idS s) 0)) && orders1 (fT a (idS s)) (fT b (idS s)))
  rw [hso]
  have k1 := found_kids ha f1
  cases e : (spT b 0 1).find? (isId (idS s)) with
  | none =>
    rw [e] at o2 f2
    have h0 : ¬ 0 ≤ overT b (idS s) 0 := fun h => by have := o2.2.1 h; simp at this
    rw [f2, decide_eq_false (fun h => h0 h.1), f1]
    rfl
  | some o =>
    rw [e] at o2 f2
    have k2 := found_kids hb f2
    have h0 : 0 ≤ overT b (idS s) 0 := o2.2.2 rfl
    have v1 : overT a (idS s) 0 = s.2.1 := o1.1
    have v2 : overT b (idS s) 0 = o.2.1 := o2.1
    rw [f1, f2, v1, v2]
    rw [v2] at h0
    simp only
    rw [sameOrd_eq s.1 o.1 k1 k2]
    show _ = (_ && ordGo o.1.kidIds (-1) s.1.kidIds)
    congr 1
    by_cases h : s.2.1 = o.2.1
    · simp [h]
    · have : 0 ≤ o.2.1 ∧ o.2.1 ≠ s.2.1 := ⟨h0, fun e => h e.symm⟩
      rw [decide_eq_true this, decide_eq_false h]; rfl
theorem fits_eq (o a b : T) : fitsI o a b = fitsS o a b := by
  unfold fitsI fitsS
  cases ho : okT o
  · simp
  cases ha : okT a
  · simp
  cases hb : okT b
  · simp
  rw [pairFits_eq o a ho ha, pairFits_eq o b ho hb, pairFits_eq a b ha hb]
  generalize oversGo o a o.ids = r4
  generalize oversGo o b o.ids = r5
  generalize oversGo a b a.ids = r6
  generalize ordersGo o a o.ids = r7
  generalize ordersGo o b o.ids = r8
  generalize ordersGo a b a.ids = r9
  generalize decide (o.id = a.id) = d1
  generalize decide (o.id = b.id) = d2
  cases d1 <;> cases d2 <;> cases r4 <;> cases r5 <;> cases r6 <;> cases r7 <;> cases r8 <;> cases r9 <;> rfl
end Go.Cod

namespace Go.Cod
open Go Go.Proofs
set_option maxRecDepth 10000

/- Trees of which all the kids stand in one tree's order. -/
def LE (a b : T) : Prop := ∀ i za, fT a i = some za → ∃ zb, fT b i = some zb ∧ za.kidIds.Sublist zb.kidIds
theorem LE.rfl' (a : T) : LE a a := fun _ za h => ⟨za, h, List.Sublist.refl _⟩
theorem LE.tr {a b c : T} (h : LE a b) (h' : LE b c) : LE a c := fun i za hz => by
  obtain ⟨zb, h1, h2⟩ := h i za hz
  obtain ⟨zc, h3, h4⟩ := h' i zb h1
  exact ⟨zc, h3, h2.trans h4⟩
theorem filter_sub : ∀ {M bs : List Int}, bs.Sublist M → M.Nodup → M.filter (fun x => decide (x ∈ bs)) = bs := by
  intro M bs h
  induction h with
  | slnil => intro _; rfl
  | @cons l1 l2 a h ih =>
    intro hn
    obtain ⟨h1, h2⟩ := List.nodup_cons.1 hn
    have : a ∉ l1 := fun q => h1 (h.subset q)
    rw [List.filter_cons, if_neg (by simpa using this)]
    exact ih h2
  | @cons_cons l1 l2 a h ih =>
    intro hn
    obtain ⟨h1, h2⟩ := List.nodup_cons.1 hn
    rw [List.filter_cons, if_pos (by simp)]
    congr 1
    rw [← ih h2]
    refine List.filter_congr fun x hx => ?_
    have hne : x ≠ a := fun e => h1 (e ▸ hx)
    rw [ih h2]
    simp [hne]
theorem ordGo_sub {M a b : List Int} (hn : M.Nodup) (ha : a.Sublist M) (hb : b.Sublist M) : ordGo b (-1) a = true := by
  have bn := hb.nodup hn
  rw [ordGo_iff b bn]
  refine ⟨fun x _ _ => by omega, ?_⟩
  have h1 : (a.filter fun x => decide (x ∈ b)).Sublist (M.filter fun x => decide (x ∈ b)) := ha.filter _
  rw [filter_sub hb hn] at h1
  exact (ix_sorted b bn).sublist h1
theorem over_LE {a M : T} (h : LE a M) (oa : okT a = true) (oM : okT M = true) (hr : a.id = M.id) {i : Int} (hi : i ∈ a.ids) : overT a i 0 = overT M i 0 := by
  have na := ((okT_iff' a).1 oa).2.1
  have nM := ((okT_iff' M).1 oM).2.1
  by_cases e : a.id = i
  · have : ∀ t : T, t.id = i → overT t i 0 = 0 := fun t ht => by
      cases t with
      | mk id k x ks => simp only [overT]; rw [if_pos (show id = i from ht)]
    rw [this a e, this M (hr ▸ e)]
  · have hk : i ∈ T.idsL a.kids := by
      cases a with
      | mk id k x ks =>
      simp only [T.ids, List.mem_cons] at hi
      exact hi.resolve_left fun q => e q.symm
    obtain ⟨h0, s, k, h1, h2, h3⟩ := overT_kid a i 0 na (okT_ids oa) hk
    obtain ⟨s', h4, h5⟩ := h _ s h1
    have : i ∈ s.kidIds := by
      cases s with
      | mk si sk sx sks => exact List.mem_map.2 ⟨k, h2, h3⟩
    have h6 := h5.subset this
    have h7 : i ∈ s'.kids.map T.id := by
      cases s' with
      | mk si sk sx sks => exact h6
    exact (overT_up M _ i 0 s' nM (okT_ids oM) h4 h7).symm
theorem pair_LE {a b M : T} (ha : LE a M) (hb : LE b M) (oa : okT a = true) (ob : okT b = true) (oM : okT M = true) (ra : a.id = M.id) (rb : b.id = M.id) : oversGo a b a.ids = true ∧ ordersGo a b a.ids = true := by
  rw [overs_all, orders_all]
  refine ⟨List.all_eq_true.2 fun i hi => ?_, List.all_eq_true.2 fun i hi => ?_⟩
  · by_cases hib : i ∈ b.ids
    · rw [over_LE ha oa oM ra hi, over_LE hb ob oM rb hib]
      simp
    · rw [overT_no b i 0 hib]
      simp
  · unfold orders1
    cases h1 : fT a i with
    | none => rfl
    | some za =>
      cases h2 : fT b i with
      | none => rfl
      | some zb =>
        obtain ⟨z, h3, h4⟩ := ha i za h1
        obtain ⟨z', h5, h6⟩ := hb i zb h2
        rw [h3] at h5
        cases h5
        exact ordGo_sub (found_kids oM h3) h4 h6
theorem fits_LE {t x y M : T} (ht : LE t M) (hx : LE x M) (hy : LE y M) (ot : okT t = true) (ox : okT x = true) (oy : okT y = true) (oM : okT M = true) (rt : t.id = M.id) (rx : x.id = M.id) (ry : y.id = M.id) : fitsS t x y = true := by
  obtain ⟨a1, a2⟩ := pair_LE ht hx ot ox oM rt rx
  obtain ⟨b1, b2⟩ := pair_LE ht hy ot oy oM rt ry
  obtain ⟨c1, c2⟩ := pair_LE hx hy ox oy oM rx ry
  unfold fitsS
  rw [ot, ox, oy, a1, a2, b1, b2, c1, c2, rt, rx, ry]
  simp
/- Words. -/
theorem kidIds_mapAtL (j : Int) (f : T → T) (hf : ∀ t : T, (f t).id = t.id) (ks : List T) : (T.mapAtL j f ks).map T.id = ks.map T.id := by
  rw [mapAtL_eq, List.map_map]
  exact List.map_congr_left fun t _ => mapAt_id j f hf t
mutual
theorem kl_word (j : Int) (p : Bool) (w : List UInt8) (i : Int) : ∀ t : T, (fT (t.mapAt j (cT p w)) i).map T.kidIds = (fT t i).map T.kidIds
  | .mk id k x ks => by
    by_cases hj : id = j
    · simp only [T.mapAt, if_pos hj]
      by_cases hi : id = i
      · cases p <;> simp only [cT, fT, if_pos hi] <;> rfl
      · cases p <;> simp only [cT, fT, if_neg hi]
    · simp only [T.mapAt, if_neg hj, fT]
      by_cases hi : id = i
      · rw [if_pos hi, if_pos hi]
        exact congrArg some (kidIds_mapAtL j _ (cT_id p w) ks)
      · rw [if_neg hi, if_neg hi]
        exact kl_wordL j p w i ks
theorem kl_wordL (j : Int) (p : Bool) (w : List UInt8) (i : Int) : ∀ ts : List T, (fL (T.mapAtL j (cT p w) ts) i).map T.kidIds = (fL ts i).map T.kidIds
  | [] => rfl
  | t :: ts => by
    have h1 := kl_word j p w i t
    have h2 := kl_wordL j p w i ts
    simp only [T.mapAtL, fL]
    cases a : fT (t.mapAt j (cT p w)) i with
    | some s =>
      rw [a] at h1
      cases b : fT t i with
      | some s' => rw [b] at h1; exact h1
      | none => rw [b] at h1; cases h1
    | none =>
      rw [a] at h1
      cases b : fT t i with
      | some s' => rw [b] at h1; cases h1
      | none => exact h2
end
theorem LE_word (t : T) (j : Int) (p : Bool) (w : List UInt8) : LE (t.mapAt j (cT p w)) t := fun i za h => by
  have := kl_word j p w i t
  rw [h] at this
  cases hz : fT t i with
  | none => rw [hz] at this; cases this
  | some z =>
    rw [hz] at this
    refine ⟨z, rfl, ?_⟩
    rw [Option.some.inj this]
    exact List.Sublist.refl _
/- Cuts. -/
theorem kidIds_cutL (j : Int) : ∀ ks : List T, ((T.cutL j ks).map T.id).Sublist (ks.map T.id)
  | [] => List.Sublist.refl _
  | t :: ts => by
    simp only [T.cutL]
    split
    · exact (kidIds_cutL j ts).trans (List.sublist_cons_self _ _)
    · simp only [List.map_cons, cut_id]
      exact (kidIds_cutL j ts).cons_cons _
theorem fL_in {ts : List T} {i : Int} {s : T} (h : fL ts i = some s) : i ∈ T.idsL ts := Decidable.byContradiction fun hc => by rw [(fL_none ts i).2 hc] at h; cases h
mutual
theorem kl_cut (j : Int) (i : Int) : ∀ (t z : T), t.ids.Nodup → fT (t.cut j) i = some z → ∃ z', fT t i = some z' ∧ z.kidIds.Sublist z'.kidIds
  | .mk id k x ks, z, hn, h => by
    simp only [T.cut, fT] at h
    simp only [T.ids, List.nodup_cons] at hn
    by_cases hi : id = i
    · rw [if_pos hi, Option.some.injEq] at h
      subst h
      exact ⟨.mk id k x ks, by simp only [fT, if_pos hi], kidIds_cutL j ks⟩
    · rw [if_neg hi] at h
      obtain ⟨z', h1, h2⟩ := kl_cutL j i ks z hn.2 h
      exact ⟨z', by simp only [fT, if_neg hi, h1], h2⟩
theorem kl_cutL (j : Int) (i : Int) : ∀ (ts : List T) (z : T), (T.idsL ts).Nodup → fL (T.cutL j ts) i = some z → ∃ z', fL ts i = some z' ∧ z.kidIds.Sublist z'.kidIds
  | [], z, _, h => by simp [T.cutL, fL] at h
  | t :: ts, z, hn, h => by
    simp only [T.idsL, List.nodup_append] at hn
    have hlater : fL (T.cutL j ts) i = some z → ∃ z', fL (t :: ts) i = some z' ∧ z.kidIds.Sublist z'.kidIds := fun h => by
      obtain ⟨z', h1, h2⟩ := kl_cutL j i ts z hn.2.1 h
      have hm := fL_in h1
      have hno : fT t i = none := (fT_none t i).2 fun q => hn.2.2 i q i hm rfl
      exact ⟨z', by simp only [fL, hno, h1], h2⟩
    simp only [T.cutL] at h
    split at h
    · exact hlater h
    · simp only [fL] at h
      cases ht : fT (t.cut j) i with
      | some s =>
        rw [ht, Option.some.injEq] at h
        subst h
        obtain ⟨z', h1, h2⟩ := kl_cut j i t s hn.1 ht
        exact ⟨z', by simp only [fL, h1], h2⟩
      | none =>
        rw [ht] at h
        exact hlater h
end
theorem LE_cut {t : T} (hn : t.ids.Nodup) (j : Int) : LE (t.cut j) t := fun i z h => kl_cut j i t z hn h
/- Puts. -/
theorem fL_append (a b : List T) (i : Int) : fL (a ++ b) i = match fL a i with | some s => some s | none => fL b i := by
  induction a with
  | nil => rfl
  | cons t ts ih =>
    simp only [List.cons_append, fL]
    cases fT t i with
    | some s => rfl
    | none => exact ih
mutual
theorem kl_put (p : Int) (n : Nat) (y : T) (i : Int) (hy : i ∉ y.ids) : ∀ (t z : T), t.ids.Nodup → fT t i = some z → ∃ z', fT (t.mapAt p (putKidT n y)) i = some z' ∧ z.kidIds.Sublist z'.kidIds
  | .mk id k x ks, z, hn, h => by
    simp only [T.ids, List.nodup_cons] at hn
    simp only [fT] at h
    by_cases hp : id = p
    · simp only [T.mapAt, if_pos hp, putKidT, fT]
      by_cases hi : id = i
      · rw [if_pos hi, Option.some.injEq] at h
        subst h
        refine ⟨_, if_pos hi, ?_⟩
        show (ks.map T.id).Sublist ((ks.take n ++ y :: ks.drop n).map T.id)
        refine List.Sublist.map _ ?_
        have : (ks.take n ++ ks.drop n).Sublist (ks.take n ++ y :: ks.drop n) := List.Sublist.append (List.Sublist.refl _) (List.sublist_cons_self _ _)
        rwa [List.take_append_drop] at this
      · rw [if_neg hi] at h
        rw [if_neg hi]
        refine ⟨z, ?_, List.Sublist.refl _⟩
        have e : fL ks i = match fL (ks.take n) i with | some s => some s | none => fL (ks.drop n) i := by rw [← fL_append, List.take_append_drop]
        rw [fL_append]
        simp only [fL, (fT_none y i).2 hy]
        rw [← e]; exact h
    · simp only [T.mapAt, if_neg hp, fT]
      by_cases hi : id = i
      · rw [if_pos hi, Option.some.injEq] at h
        subst h
        refine ⟨_, if_pos hi, ?_⟩
        show (ks.map T.id).Sublist ((T.mapAtL p (putKidT n y) ks).map T.id)
        rw [kidIds_mapAtL p _ (putKidT_id n y) ks]
        exact List.Sublist.refl _
      · rw [if_neg hi] at h
        rw [if_neg hi]
        exact kl_putL p n y i hy ks z hn.2 h
theorem kl_putL (p : Int) (n : Nat) (y : T) (i : Int) (hy : i ∉ y.ids) : ∀ (ts : List T) (z : T), (T.idsL ts).Nodup → fL ts i = some z → ∃ z', fL (T.mapAtL p (putKidT n y) ts) i = some z' ∧ z.kidIds.Sublist z'.kidIds
  | [], z, _, h => by simp [fL] at h
  | t :: ts, z, hn, h => by
    simp only [T.idsL, List.nodup_append] at hn
    simp only [fL] at h
    cases ht : fT t i with
    | some s =>
      rw [ht, Option.some.injEq] at h
      subst h
      obtain ⟨z', h1, h2⟩ := kl_put p n y i hy t s hn.1 ht
      exact ⟨z', by simp only [T.mapAtL, fL, h1], h2⟩
    | none =>
      rw [ht] at h
      obtain ⟨z', h1, h2⟩ := kl_putL p n y i hy ts z hn.2.1 h
      have hno : fT (t.mapAt p (putKidT n y)) i = none := by
        rw [fT_none]
        cases hp : fT t p with
        | none => rw [T.mapAt_none p _ t ((fT_none t p).1 hp)]; exact (fT_none t i).1 ht
        | some w =>
          intro hm
          have hc := put_count p n y i t w hn.1 hp
          have c1 := List.count_pos_iff.2 hm
          have c2 := List.count_eq_zero.2 ((fT_none t i).1 ht)
          have c3 := List.count_eq_zero.2 hy
          omega
      exact ⟨z', by simp only [T.mapAtL, fL, hno, h1], h2⟩
end
theorem LE_put {t y : T} {p : Int} {n : Nat} (hn : t.ids.Nodup) (hy : ∀ i ∈ t.ids, i ∉ y.ids) : LE t (t.mapAt p (putKidT n y)) := fun i z h => kl_put p n y i (hy i (fT_mem h)) t z hn h
theorem LE_edit {t y : T} {s : Stp} (ho : okT t = true) (d : doT t s = some y) : (s.kind = 1 → LE t y) ∧ (¬ s.kind = 1 → LE y t) ∧ okT y = true ∧ y.id = t.id := by
  obtain ⟨e, o⟩ := doT_ed ho d
  obtain ⟨_, ⟨z, hz⟩, _⟩ := doT_kind d
  have hn := ((okT_iff' t).1 ho).2.1
  refine ⟨fun k => ?_, fun k => ?_, o, ?_⟩
  · subst e
    unfold edT at o ⊢
    rw [if_pos k] at o ⊢
    exact LE_put hn (put_new hn hz o)
  · rw [e]
    unfold edT
    rw [if_neg k]
    split
    · exact LE_cut hn _
    · exact LE_word t _ _ _
  · rw [e]
    unfold edT
    repeat' split
    · exact mapAt_id _ _ (putKidT_id _ _) _
    · exact cut_id _ _
    · exact mapAt_id _ _ (cT_id _ _) _
/-- What two single steps make of one tree goes together, unless both put. -/
theorem merge_fits {t x y : T} {s u : Stp} (ho : okT t = true) (d1 : doT t s = some x) (d2 : doT t u = some y) (h : ¬ (s.kind = 1 ∧ u.kind = 1)) : fitsS t x y = true := by
  obtain ⟨a1, a2, a3, a4⟩ := LE_edit ho d1
  obtain ⟨b1, b2, b3, b4⟩ := LE_edit ho d2
  by_cases ks : s.kind = 1
  · have ku : ¬ u.kind = 1 := fun k => h ⟨ks, k⟩
    exact fits_LE (a1 ks) (LE.rfl' x) ((b2 ku).tr (a1 ks)) ho a3 b3 a3 a4.symm rfl (b4.trans a4.symm)
  · by_cases ku : u.kind = 1
    · exact fits_LE (b1 ku) ((a2 ks).tr (b1 ku)) (LE.rfl' y) ho a3 b3 b3 b4.symm (a4.trans b4.symm) rfl
    · exact fits_LE (LE.rfl' t) (a2 ks) (b2 ku) ho a3 b3 ho rfl a4 b4
end Go.Cod

namespace Go.Cod
open Go Go.Proofs Go.ChangeShapes Go.WideShapes Go.ChangeAt Go.RowKit
set_option maxRecDepth 10000

theorem ownK : ownKnob Try.prog.godebug = none := by kernel_rfl
def byteOf : List V → UInt8
  | [.int _ i] => UInt8.ofNat i.toNat
  | _ => 0
theorem argBytes {H : Type} {enc : TypeId × Value → H} {W : World} : ReadsA enc Try.prog W 22 fun x => ∃ bs : List UInt8, x = .sl (brows bs) := by
  intro base v d p hv h
  obtain ⟨x, ⟨es, hx, _, hr⟩, hrep⟩ := readsA_slice (S := fun vs => ∃ es, vs = [.sl es] ∧ es.length ≤ maxLen ∧ ∀ r ∈ es, (∃ i, r = [.int .u8 i] ∧ IntKind.u8.min ≤ i ∧ i ≤ IntKind.u8.max) ∧ r.length = Try.prog.cellsOf 5 ∧ (∀ v ∈ r, v.leaf = true) ∧ V.clean.cleanL 0 r = true)
    Try.underlying22 (fun n => reads_slice Try.underlying22 (by decide +kernel) fun m _ => reads_int Try.underlying5) base v d p hv h
  cases hx
  refine ⟨_, ⟨es.map byteOf, ?_⟩, hrep⟩
  congr 1
  rw [brows, List.map_map]
  refine (List.map_id es).symm.trans (List.map_congr_left fun r hr' => ?_)
  obtain ⟨⟨i, rfl, h1, h2⟩, _⟩ := hr r hr'
  have h1 : 0 ≤ i := h1
  have h2 : i ≤ 255 := h2
  simp only [id_eq, Function.comp, byteOf, cellB]
  congr 2
  simp only [UInt8.toNat_ofNat']
  omega
end Go.Cod

namespace Go.Cod
open Go Go.Proofs Go.ChangeShapes Go.WideShapes Go.ChangeAt Go.RowKit
set_option maxRecDepth 10000

set_option maxHeartbeats 16000000 in
theorem law_fnMergeFits (b1 b2 : List UInt8) : Pure Try.prog 3 [.sl (brows b1), .sl (brows b2)] (· = .bool true) := by
  have hl1 := brows_len b1
  have hl2 := brows_len b2
  have hd1 := drawStepDo_pure b1
  have hd2 := drawStepDo_pure b2
  refine pure_of_box good Try.func3 rfl (by kernel_rfl) (by decide) fun A hA => ?_
  generalize brows b1 = R1 at *
  generalize brows b2 = R2 at *
  conv => whnf
  refine box_go hA ?_
  conv => whnf
  refine box_go hA ?_
  conv => whnf
  by_cases a1 : 1048576 < R1.length
  · rw [ltB_t (by omega)]
    conv => whnf
    refine box_go hA ?_
    conv => whnf
  rw [ltB_f (by omega)]
  conv => whnf
  by_cases a2 : 1048576 < R2.length
  · rw [ltB_t (by omega)]
    conv => whnf
    refine box_go hA ?_
    conv => whnf
  rw [ltB_f (by omega)]
  conv => whnf
  refine box_with hA [(0, .sl R1), (1, .sl R2)] ⟨rfl, rfl, trivial⟩ fun fr => ?_
  conv => whnf
  refine .inl ((hd1 (by omega)).mono ?_)
  rintro r ⟨t, s, s1, s2, ⟨d1, d2, d3⟩, rfl⟩
  have hid := T.ids_size t
  have hI := fun u h1 h2 => implStepDo_pure t u s1 h1 h2
  have i1 := implStepDo_pure t s s1 d1 (by omega)
  have i3 := specStepDo_pure t s s1 (by omega) d1 (by omega) (by omega)
  have hx := stepT_small (t := t) (s := s) s1 (by omega) d1 (by omega)
  have wx := wcTree_refl (stepT t s).1 hx.1
  have heq : ∀ b : Bool, (!(b == b)) = false := by decide
  have hall : ∀ u : Stp, u.Dr → ∃ y oky, Pure Try.prog 5 [.agg t.cells, .agg u.cells] (· = .tup [.agg (T.cells y), .bool oky]) ∧
      ((stepT t s).2 = true → oky = true → ¬ (s.kind = 1 ∧ u.kind = 1) → Pure Try.prog 8 [.agg t.cells, .agg (stepT t s).1.cells, .agg y.cells] (· = .bool true) ∧ Pure Try.prog 9 [.agg t.cells, .agg (stepT t s).1.cells, .agg y.cells] (· = .bool true)) := by
    rintro u ⟨g1, g2, g3⟩
    refine ⟨(stepT t u).1, (stepT t u).2, hI u g1 (by omega), fun e1 e2 hne => ?_⟩
    have hy := stepT_small (t := t) (s := u) s1 (by omega) g1 (by omega)
    have q1 : stepT t s = ((stepT t s).1, true) := by rw [← e1]
    have q2 : stepT t u = ((stepT t u).1, true) := by rw [← e2]
    obtain ⟨ho, p1⟩ := stepT_true q1
    obtain ⟨_, p2⟩ := stepT_true q2
    have hf := merge_fits ho p1 p2 hne
    have j1 := implMergeFits_pure t (stepT t s).1 (stepT t u).1 s1 hx.1 hy.1
    have j2 := specMergeFits_pure t (stepT t s).1 (stepT t u).1 s1 hx.1 hy.1 (by omega) (by rw [T.ids_size]; omega) (by rw [T.ids_size]; omega)
    rw [fits_eq, hf] at j1
    rw [hf] at j2
    exact ⟨j1, j2⟩
  have hd2 := hd2 (by omega)
  clear hd1 hl1 hl2 a1 hI
  generalize stepT t s = xb at *
  obtain ⟨x, okx⟩ := xb
  simp only at i1 i3 hx wx hall
  clear hx hid s1 s2 d1 d2 d3
  obtain ⟨skind, sid, sat, ⟨ni, nk, nx, nks⟩, stext⟩ := s
  obtain ⟨ti, tk, tx, tks⟩ := t
  obtain ⟨xi, xk, xx, xks⟩ := x
  conv => whnf
  refine box_with hA [(1, .sl R2), (5, .ptr 0 0 0), (6, .ptr 1 0 0)] ⟨rfl, rfl, rfl, trivial⟩ fun fr => ?_
  conv => whnf
  refine .inl (hd2.mono ?_)
  rintro r ⟨t2, u, _, _, g, rfl⟩
  obtain ⟨y, oky, i2, i7⟩ := hall u g
  clear hall hd2 a2 g
  obtain ⟨ukind, uid, uat, ⟨mi, mk, mx, mks⟩, utext⟩ := u
  obtain ⟨t2i, t2k, t2x, t2ks⟩ := t2
  obtain ⟨yi, yk, yx, yks⟩ := y
  simp only at i7
  conv => whnf
  refine box_with hA [(5, .ptr 0 0 0), (6, .ptr 1 0 0), (8, .ptr 3 0 0)] ⟨rfl, rfl, rfl, trivial⟩ fun fr => ?_
  conv => whnf
  refine .inl (i1.mono ?_)
  rintro r rfl
  conv => whnf
  refine box_with hA [(5, .ptr 0 0 0), (6, .ptr 1 0 0), (8, .ptr 3 0 0), (9, .ptr 4 0 0), (10, .bool okx)] ⟨rfl, rfl, rfl, rfl, rfl, trivial⟩ fun fr => ?_
  conv => whnf
  refine .inl (i2.mono ?_)
  rintro r rfl
  conv => whnf
  refine box_with hA [(5, .ptr 0 0 0), (6, .ptr 1 0 0), (8, .ptr 3 0 0), (9, .ptr 4 0 0), (10, .bool okx), (11, .ptr 5 0 0), (12, .bool oky)] ⟨rfl, rfl, rfl, rfl, rfl, rfl, rfl, trivial⟩ fun fr => ?_
  conv => whnf
  refine .inl (i3.mono ?_)
  rintro r rfl
  conv => whnf
  refine box_with hA [(5, .ptr 0 0 0), (6, .ptr 1 0 0), (8, .ptr 3 0 0), (9, .ptr 4 0 0), (10, .bool okx), (11, .ptr 5 0 0), (12, .bool oky), (13, .ptr 6 0 0), (14, .bool okx)] ⟨rfl, rfl, rfl, rfl, rfl, rfl, rfl, rfl, rfl, trivial⟩ fun fr => ?_
  conv => whnf
  rw [heq]
  conv => whnf
  refine .inl (wx.mono ?_)
  rintro r rfl
  conv => whnf
  cases okx with
  | false =>
    conv => whnf
    refine box_with hA [(9, .ptr 4 0 0), (10, .bool false), (13, .ptr 6 0 0), (14, .bool false)] ⟨rfl, rfl, rfl, rfl, trivial⟩ fun fr => ?_
    conv => whnf
    refine .inl (wx.mono ?_)
    rintro r rfl
    conv => whnf
  | true =>
    conv => whnf
    cases oky with
    | false =>
      conv => whnf
      refine box_with hA [(9, .ptr 4 0 0), (10, .bool true), (13, .ptr 6 0 0), (14, .bool true)] ⟨rfl, rfl, rfl, rfl, trivial⟩ fun fr => ?_
      conv => whnf
      refine .inl (wx.mono ?_)
      rintro r rfl
      conv => whnf
    | true =>
      have i7 := i7 rfl rfl
      conv => whnf
      by_cases ks : skind = 1
      · rw [eqB_t ks]
        conv => whnf
        by_cases ku : ukind = 1
        · rw [eqB_t ku]
          conv => whnf
          refine box_with hA [(9, .ptr 4 0 0), (10, .bool true), (13, .ptr 6 0 0), (14, .bool true)] ⟨rfl, rfl, rfl, rfl, trivial⟩ fun fr => ?_
          conv => whnf
          refine .inl (wx.mono ?_)
          rintro r rfl
          conv => whnf
        · rw [eqB_f ku]
          obtain ⟨j1, j2⟩ := i7 (fun h => ku h.2)
          conv => whnf
          refine box_with hA [(5, .ptr 0 0 0), (9, .ptr 4 0 0), (11, .ptr 5 0 0)] ⟨rfl, rfl, rfl, trivial⟩ fun fr => ?_
          conv => whnf
          refine .inl (j1.mono ?_)
          rintro r rfl
          conv => whnf
          refine box_with hA [(5, .ptr 0 0 0), (9, .ptr 4 0 0), (11, .ptr 5 0 0), (15, .bool true)] ⟨rfl, rfl, rfl, rfl, trivial⟩ fun fr => ?_
          conv => whnf
          refine .inl (j2.mono ?_)
          rintro r rfl
          conv => whnf
      · rw [eqB_f ks]
        obtain ⟨j1, j2⟩ := i7 (fun h => ks h.1)
        conv => whnf
        refine box_with hA [(5, .ptr 0 0 0), (9, .ptr 4 0 0), (11, .ptr 5 0 0)] ⟨rfl, rfl, rfl, trivial⟩ fun fr => ?_
        conv => whnf
        refine .inl (j1.mono ?_)
        rintro r rfl
        conv => whnf
        refine box_with hA [(5, .ptr 0 0 0), (9, .ptr 4 0 0), (11, .ptr 5 0 0), (15, .bool true)] ⟨rfl, rfl, rfl, rfl, trivial⟩ fun fr => ?_
        conv => whnf
        refine .inl (j2.mono ?_)
        rintro r rfl
        conv => whnf
theorem lawFnMergeFits (b1 b2 : List UInt8) : Pure Try.prog 3 [.sl (brows b1), .sl (brows b2)] (· = .bool true) := law_fnMergeFits b1 b2
theorem conFnMergeFits (H : Type) (enc : TypeId × Value → H) (W : World) (base : Nat) (args : Array Value) (ds gs : List (DataW H)) (before : List MemPlace)
    (hval : ∀ (j : Nat) t v, Try.f3.params[j]? = some t → args[j]? = some v → Value.okWide Try.prog W .any base t v)
    (hW : DataW.Whole enc Try.prog Try.f3.params.toList Ythcpngaoggdebaa.Rows.fnMergeFitsSpec.vars false W args.toList ds gs before) {fresh handsOn again : Bool} :
    Calls Try.prog 3 args W fun e W' => ∃ v, e = .returned v ∧ Ythcpngaoggdebaa.Rows.fnMergeFitsSpec.post enc Try.prog Try.f3 false fresh handsOn again W args v W' := by
  refine law_calls kids full (tb := 4) rfl Try.underlying4 (by decide +kernel) rfl hW (fun ds h => by match ds, h with | [_, _], _ => exact ⟨rfl, rfl, rfl⟩) hval
    (Ss := [fun x => ∃ bs : List UInt8, x = .sl (brows bs), fun x => ∃ bs : List UInt8, x = .sl (brows bs)]) laid0 ?_ ?_
  · rw [Try.params3]
    exact ⟨argBytes, argBytes, trivial⟩
  · intro xs h
    obtain ⟨_, _, rfl, ⟨t0, rfl⟩, ⟨t1, rfl⟩⟩ := hold2 h
    exact lawFnMergeFits t0 t1

set_option maxRecDepth 100000 in
theorem overFnMergeFits : Ythcpngaoggdebaa.Rows.FnMergeFitsSaid :=
  OpenClaim.holds_of_wide 3 Try.f3 rfl rfl rfl rfl rfl rfl rfl ⟨rfl, rfl, rfl, rfl, rfl⟩ rfl rfl rfl rfl rfl (by kernel_rfl) Try.func3 (by kernel_rfl)
    (of_decide_eq_true (by kernel_rfl)) (by unfold Func.isWrapper; first | (rw [if_pos (by decide +kernel)]; kernel_rfl) | (rw [if_neg (by decide +kernel)]; exact ⟨rfl, rfl⟩))
    (fun os started H enc _ => returnsInHanded_of_change ownK started (by kernel_rfl) Try.func3
      (ChangeSpec.witness6 (enc := enc) (C := Try.checked) false ⟨#[], #[.slice none 0 0, .slice none 0 0], []⟩ 8 (by kernel_rfl) (by kernel_rfl) (by kernel_rfl) (by kernel_rfl))
      (fun W base args ds gs before hval hW _ _ => conFnMergeFits H enc W base args ds gs before hval hW))
end Go.Cod

