/- Contracts of this seat's functions, and the law. -/
import Derived.ChangeArms
import Derived.Deep.Slices
import Derived.OpenShut
import Derived.JoinedOf
import Derived.Handed
import Derived.Test.YtaekcebacghjoaaDoorChecked
import Derived.Test.YtaekcebacghjoaaDoorRows
import Derived.WalkKit
import Derived.ProofKit
import Derived.Test.YtaekcebacghjoaaDoorCodC
/-! Arguments: out of what a statement reads, abstract values. -/
namespace Go.Cod
open Go Go.ChangeShapes Go.WideShapes
variable [Lam]

section
variable {H : Type} (enc : TypeId × Value → H) (P : Program) (w : World)

/-- What is read at a type at most n deep is what S says. -/
def Reads (n : Nat) (t : TypeId) (S : List V → Prop) : Prop := ∀ cs x, DataW.trod enc P w 0 (fun _ => true) true n t cs = some x →
  ∃ vs, S vs ∧ RepL (oldP w) [] w vs cs ∧ (∀ v ∈ vs, v.leaf = true) ∧ V.clean.cleanL 0 vs = true

variable {enc P w}

omit [Lam] in
theorem reads_int {n : Nat} {t : TypeId} {k : IntKind} (ht : P.underlying t = some (.int k)) : Reads enc P w n t fun vs => ∃ i, vs = [.int k i] ∧ k.min ≤ i ∧ i ≤ k.max := by
  intro cs x h
  obtain ⟨i, rfl, _, hw⟩ := DataW.trod_int ht h
  simp only [Lit.wf, Bool.and_eq_true, decide_eq_true_eq] at hw
  refine ⟨_, ⟨i, rfl, hw⟩, ⟨rfl, ?_⟩, by simp [V.leaf], rfl⟩
  intro j a b h1 h2
  cases j with
  | zero => simp at h1 h2; subst h1 h2; exact .int _ _
  | succ j => simp at h1

omit [Lam] in
theorem reads_bool {n : Nat} {t : TypeId} (ht : P.underlying t = some .bool) : Reads enc P w n t fun vs => ∃ b, vs = [.bool b] := by
  intro cs x h
  obtain ⟨i, rfl, _⟩ := DataW.trod_bool ht h
  refine ⟨_, ⟨i, rfl⟩, ⟨rfl, ?_⟩, by simp [V.leaf], rfl⟩
  intro j a b h1 h2
  cases j with
  | zero => simp at h1 h2; subst h1 h2; exact .bool _
  | succ j => simp at h1

omit [Lam] in
theorem reads_str {n : Nat} {t : TypeId} (ht : P.underlying t = some .string) : Reads enc P w n t fun vs => ∃ s, vs = [.str s] ∧ s.length ≤ maxLen := by
  intro cs x h
  obtain ⟨s, rfl, _, hw⟩ := DataW.trod_string ht h
  refine ⟨_, ⟨s.data.toList, rfl, hw⟩, ⟨rfl, ?_⟩, by simp [V.leaf], rfl⟩
  intro j a b h1 h2
  cases j with
  | zero =>
    simp at h1 h2; subst h1 h2
    have := Rep.str (Pr := oldP w) (γ := []) (w := w) s.data.toList
    simpa using this
  | succ j => simp at h1

omit [Lam] in
theorem addr_off {a : Addr} (h : a.spot = none) (n : Nat) : a.add n = ⟨a.block, a.off + n, none⟩ := by
  cases a
  simp at h
  subst h
  unfold Addr.add
  split
  · rename_i h; subst h; simp
  · rfl

omit [Lam] in
theorem RepL.len {Pr γ w vs cs} (h : RepL Pr γ w vs cs) : vs.length = cs.length := h.1

omit [Lam] in
theorem reads_slice {n : Nat} {t e : TypeId} {S : List V → Prop} (ht : P.underlying t = some (.slice e)) (hc : 0 < P.cellsOf e) (he : ∀ m, m < n → Reads enc P w m e S) :
    Reads enc P w n t fun vs => ∃ es, vs = [.sl es] ∧ es.length ≤ maxLen ∧ ∀ r ∈ es, S r ∧ r.length = P.cellsOf e ∧ (∀ v ∈ r, v.leaf = true) ∧ V.clean.cleanL 0 r = true := by
  intro cs x h
  rcases DataW.trod_slice ht h with ⟨rfl, _⟩ | ⟨a, len, cap, elems, rest, m, rfl, rfl, rfl, hb, hl, hm, hlen, hel, hsp, hns⟩
  · refine ⟨_, ⟨[], rfl, by simp, by simp⟩, ⟨rfl, ?_⟩, by simp [V.leaf], rfl⟩
    intro j a b h1 h2
    cases j with
    | zero => simp at h1 h2; subst h1 h2; exact .sl0 _ _
    | succ j => simp at h1
  have key : ∀ i, i < len → ∃ (cs' : List Value) (vs : List V), w.cells? 0 (a.add (i * P.cellsOf e)) (P.cellsOf e) = some cs' ∧ S vs ∧ RepL (oldP w) [] w vs cs' ∧ (∀ v ∈ vs, v.leaf = true) ∧ V.clean.cleanL 0 vs = true := by
    intro i hi
    have h1 := hel i hi
    rw [List.getElem?_eq_getElem (by omega)] at h1
    obtain ⟨cs', h2, h3⟩ := Option.bind_eq_some_iff.1 h1
    obtain ⟨vs, h4, h5, h6⟩ := he m (by omega) _ _ h3
    exact ⟨cs', vs, h2, h4, h5, h6⟩
  by_cases h0 : len = 0
  · subst h0
    refine ⟨_, ⟨[], rfl, by simp, by simp⟩, ⟨rfl, ?_⟩, by simp [V.leaf], rfl⟩
    intro j a b h1 h2
    cases j with
    | zero => simp at h1 h2; subst h1 h2; exact .sl0 _ _
    | succ j => simp at h1
  have hspot : a.spot = none := by
    obtain ⟨cs', vs, h1, _⟩ := key 0 (by omega)
    obtain ⟨_, h2, h3⟩ := World.cells?_some h1
    have h4 := h3 0 hc
    rw [List.getElem?_eq_getElem (by omega)] at h4
    simp [Addr.add] at h4
    unfold World.cell? at h4
    split at h4
    · split at h4
      · cases h4
      · rename_i hn; simpa using hn
    · cases h4
  obtain ⟨C, hC⟩ := Classical.axiomOfChoice (r := fun (i : Fin len) (q : List Value × List V) => w.cells? 0 (a.add (i.1 * P.cellsOf e)) (P.cellsOf e) = some q.1 ∧ S q.2 ∧ RepL (oldP w) [] w q.2 q.1 ∧ (∀ v ∈ q.2, v.leaf = true) ∧ V.clean.cleanL 0 q.2 = true)
    (fun i => by obtain ⟨cs', vs, h⟩ := key i.1 i.2; exact ⟨(cs', vs), h⟩)
  let es : List (List V) := List.ofFn fun i => (C i).2
  have hes : es.length = len := by simp [es]
  have hrow : ∀ (i : Nat) r, es[i]? = some r → ∃ h : i < len, r = (C ⟨i, h⟩).2 := by
    intro i r hi
    obtain ⟨h1, h2⟩ := List.getElem?_eq_some_iff.1 hi
    rw [hes] at h1
    exact ⟨h1, by rw [← h2]; simp [es]⟩
  have hw : ∀ (i : Nat) r, es[i]? = some r → S r ∧ r.length = P.cellsOf e ∧ (∀ v ∈ r, v.leaf = true) ∧ V.clean.cleanL 0 r = true := by
    intro i r hi
    obtain ⟨h, rfl⟩ := hrow i r hi
    obtain ⟨a1, a2, a3, a4⟩ := hC ⟨i, h⟩
    exact ⟨a2, by rw [a3.1]; exact (World.cells?_some a1).2.1, a4⟩
  have hw' : ∀ r ∈ es, S r ∧ r.length = P.cellsOf e ∧ (∀ v ∈ r, v.leaf = true) ∧ V.clean.cleanL 0 r = true := by
    intro r hr
    obtain ⟨i, hi, rfl⟩ := List.mem_iff_getElem.1 hr
    exact hw i _ (List.getElem?_eq_getElem hi)
  refine ⟨[.sl es], ⟨es, rfl, by rw [hes]; omega, hw'⟩, ⟨rfl, ?_⟩, by simp [V.leaf], rfl⟩
  intro j x u h1 h2
  cases j with
  | succ j => simp at h1
  | zero =>
    simp at h1 h2; subst h1 h2
    obtain ⟨b, off, sp⟩ := a
    simp only at hspot
    subst hspot
    have cellat : ∀ (i : Nat) r (j : Nat) v, es[i]? = some r → r[j]? = some v → ∃ u, w.cell? ⟨b, off + (i * P.cellsOf e + j), none⟩ = some u ∧ Rep (oldP w) [] w v u := by
      intro i r j v hi hj
      obtain ⟨h, rfl⟩ := hrow i r hi
      obtain ⟨a1, a2, a3, a4⟩ := hC ⟨i, h⟩
      obtain ⟨_, b2, b3⟩ := World.cells?_some a1
      have hjl := (List.getElem?_eq_some_iff.1 hj).1
      rw [a3.1, b2] at hjl
      have b4 := b3 j hjl
      rw [Go.Deep.add_add, addr_off rfl] at b4
      rw [b4, List.getElem?_eq_getElem (by omega)]
      exact ⟨_, rfl, a3.2 j _ _ hj (List.getElem?_eq_getElem (by omega))⟩
    have := Rep.sl (Pr := oldP w) (γ := []) (w := w) (es := es) (b := b) (off := off) (cap := cap) (c := P.cellsOf e) (fun i j => (w.cell? ⟨b, off + (i * P.cellsOf e + j), none⟩).getD undef)
      (V.cleanLL_take fun e he => (hw' e he).2.2.2) (by omega) (fun e he => (hw' e he).2.1) (fun e he => (hw' e he).2.2.1) ?_ ?_
    · rw [hes] at this; exact this
    · intro i r j v hi hj
      obtain ⟨u, hu, hr⟩ := cellat i r j v hi hj
      refine ⟨by rw [hu]; rfl, ?_⟩
      unfold World.cell? at hu
      show b < w.heap.size
      split at hu
      · rename_i hh; exact (Array.getElem?_eq_some_iff.1 hh).1
      · cases hu
    · intro i r j v hi hj
      obtain ⟨u, hu, hr⟩ := cellat i r j v hi hj
      rw [hu]; exact hr

/-- The fields of a struct, one behind the other. -/
def SFields : List (List V → Prop) → List V → Prop
  | [], vs => vs = []
  | S :: Ss, vs => ∃ a b, vs = a ++ b ∧ S a ∧ SFields Ss b

omit [Lam] in
theorem cleanL_append {n : Nat} : ∀ {xs ys : List V}, V.clean.cleanL n xs = true → V.clean.cleanL n ys = true → V.clean.cleanL n (xs ++ ys) = true
  | [], _, _, h => h
  | x :: xs, _, h, h' => by
    simp only [List.cons_append, V.clean.cleanL, Bool.and_eq_true] at h ⊢
    exact ⟨h.1, cleanL_append h.2 h'⟩

omit [Lam] in
theorem reads_fields {n : Nat} {cs : List Value} : ∀ (fs : List Field) (Ss : List (List V → Prop)) (off : Nat) (xs : List (DataW H × List MemPlace)), fs.length = Ss.length →
    (∀ (j : Nat) f S, fs[j]? = some f → Ss[j]? = some S → Reads enc P w n f.type S) →
    (∀ (j : Nat) f, fs[j]? = some f → f.offset = off + ((fs.take j).map fun f => P.cellsOf f.type).sum) →
    (∀ (j : Nat) f, fs[j]? = some f → ∃ x, DataW.trod enc P w 0 (fun _ => true) true n f.type ((cs.drop f.offset).take (P.cellsOf f.type)) = some x) →
    cs.length = off + (fs.map fun f => P.cellsOf f.type).sum →
    ∃ vs, SFields Ss vs ∧ RepL (oldP w) [] w vs (cs.drop off) ∧ (∀ v ∈ vs, v.leaf = true) ∧ V.clean.cleanL 0 vs = true
  | [], [], off, xs, _, _, _, _, hl => by
    refine ⟨[], rfl, ?_, by simp, rfl⟩
    rw [List.drop_of_length_le (by simp at hl; omega)]
    exact ⟨rfl, fun i x u h => by simp at h⟩
  | f :: fs, S :: Ss, off, xs, hlen, hR, hoff, htr, hl => by
    have h0 := hoff 0 f rfl
    simp at h0
    obtain ⟨x, hx⟩ := htr 0 f rfl
    rw [h0] at hx
    obtain ⟨va, a1, a2, a3, a4⟩ := hR 0 f S rfl rfl _ _ hx
    simp only [List.map_cons, List.sum_cons] at hl
    obtain ⟨vb, b1, b2, b3, b4⟩ := reads_fields fs Ss (off + P.cellsOf f.type) xs (by simpa using hlen) (fun j f' S' h1 h2 => hR (j + 1) f' S' (by simpa using h1) (by simpa using h2))
      (fun j f' h1 => by have := hoff (j + 1) f' (by simpa using h1); simp only [List.take_succ_cons, List.map_cons, List.sum_cons] at this; omega) (fun j f' h1 => htr (j + 1) f' (by simpa using h1)) (by omega)
    refine ⟨va ++ vb, ⟨va, vb, rfl, a1, b1⟩, ?_, fun v hv => ?_, cleanL_append a4 b4⟩
    · have hs : cs.drop off = (cs.drop off).take (P.cellsOf f.type) ++ cs.drop (off + P.cellsOf f.type) := by
        rw [← List.drop_drop]; exact (List.take_append_drop _ _).symm
      rw [hs]
      exact a2.append b2
    · rcases List.mem_append.1 hv with hv | hv
      · exact a3 v hv
      · exact b3 v hv
  | [], _ :: _, _, _, hlen, _, _, _, _ => by simp at hlen
  | _ :: _, [], _, _, hlen, _, _, _, _ => by simp at hlen

omit [Lam] in
theorem reads_struct {n : Nat} {t : TypeId} {fs : Array Field} {Ss : List (List V → Prop)} (K : Kids P (· < P.types.size)) (htl : t < P.types.size) (ht : P.underlying t = some (.struct fs)) (hlen : fs.toList.length = Ss.length)
    (hR : ∀ m, m < n → ∀ (j : Nat) f S, fs.toList[j]? = some f → Ss[j]? = some S → Reads enc P w m f.type S) : Reads enc P w n t (SFields Ss) := by
  intro cs x h
  obtain ⟨xs, m, rfl, rfl, hl, hxl, hx⟩ := DataW.trod_struct ht h
  obtain ⟨h1, h2, h3⟩ := K.struct htl ht
  have := reads_fields (enc := enc) (w := w) (n := m) (cs := cs) fs.toList Ss 0 xs hlen (hR m (by omega)) (fun j f hf => by rw [h3 j f hf]; simp) (fun j f hf => ?_) (by rw [hl, h2]; simp)
  · simpa using this
  · have hj := (List.getElem?_eq_some_iff.1 hf).1
    have h4 := hx j f (by simpa using hf)
    rw [List.getElem?_eq_getElem (by simp at hj; omega)] at h4
    exact ⟨_, h4⟩
end
end Go.Cod

/-! A law's call, out of its contract: arguments of any number. -/
namespace Go.Cod
open Go Go.ChangeShapes Go.WideShapes
variable [Lam]

section
variable {H : Type} (enc : TypeId × Value → H) (P : Program) (W : World)

/-- An argument of a type is what S says. -/
def ReadsA (t : TypeId) (S : V → Prop) : Prop := ∀ base v d p, Value.okWide P W .any base t v → DataW.Trod enc P W 0 (fun _ => true) true t v d p → ∃ x, S x ∧ Rep (oldP W) [] W x v
def ReadsAll : List TypeId → List (V → Prop) → Prop
  | [], [] => True
  | t :: ts, S :: Ss => ReadsA enc P W t S ∧ ReadsAll ts Ss
  | _, _ => False
def HoldAll : List (V → Prop) → List V → Prop
  | [], [] => True
  | S :: Ss, x :: xs => S x ∧ HoldAll Ss xs
  | _, _ => False
omit [Lam] in
theorem hold_nil {xs : List V} (h : HoldAll [] xs) : xs = [] := by
  cases xs with
  | nil => rfl
  | cons _ _ => exact h.elim
omit [Lam] in
theorem hold_cons {S : V → Prop} {Ss : List (V → Prop)} {xs : List V} (h : HoldAll (S :: Ss) xs) : ∃ a as, xs = a :: as ∧ S a ∧ HoldAll Ss as := by
  cases xs with
  | nil => exact h.elim
  | cons a as => exact ⟨a, as, rfl, h⟩
omit [Lam] in
theorem hold1 {S1 : V → Prop} {xs : List V} (h : HoldAll [S1] xs) : ∃ a, xs = [a] ∧ S1 a := by
  obtain ⟨a, _, rfl, h1, h⟩ := hold_cons h
  obtain rfl := hold_nil h
  exact ⟨a, rfl, h1⟩
omit [Lam] in
theorem hold2 {S1 S2 : V → Prop} {xs : List V} (h : HoldAll [S1, S2] xs) : ∃ a b, xs = [a, b] ∧ S1 a ∧ S2 b := by
  obtain ⟨a, _, rfl, h1, h⟩ := hold_cons h
  obtain ⟨b, rfl, h2⟩ := hold1 h
  exact ⟨a, b, rfl, h1, h2⟩
omit [Lam] in
theorem hold3 {S1 S2 S3 : V → Prop} {xs : List V} (h : HoldAll [S1, S2, S3] xs) : ∃ a b c, xs = [a, b, c] ∧ S1 a ∧ S2 b ∧ S3 c := by
  obtain ⟨a, _, rfl, h1, h⟩ := hold_cons h
  obtain ⟨b, c, rfl, h2⟩ := hold2 h
  exact ⟨a, b, c, rfl, h1, h2⟩
omit [Lam] in
theorem hold4 {S1 S2 S3 S4 : V → Prop} {xs : List V} (h : HoldAll [S1, S2, S3, S4] xs) : ∃ a b c d, xs = [a, b, c, d] ∧ S1 a ∧ S2 b ∧ S3 c ∧ S4 d := by
  obtain ⟨a, _, rfl, h1, h⟩ := hold_cons h
  obtain ⟨b, c, d, rfl, h2⟩ := hold3 h
  exact ⟨a, b, c, d, rfl, h1, h2⟩

variable {enc P W}

omit [Lam] in
theorem readsA_agg {t : TypeId} {fs : Array Field} {S : List V → Prop} (ht : P.underlying t = some (.struct fs)) (h : ∀ n, Reads enc P W n t S) : ReadsA enc P W t fun x => ∃ vs, x = .agg vs ∧ S vs := by
  intro base v d p hv ⟨n, h0⟩
  obtain ⟨cs, rfl, hcs⟩ := okWide_struct ht hv
  obtain ⟨vs, hS, hr, hlf⟩ := h n _ _ h0
  refine ⟨_, ⟨vs, rfl, hS⟩, ?_⟩
  have := Rep.agg (Pr := oldP W) (γ := []) (w := W) hr.1 hr.2
  simpa [Value.cells] using this

omit [Lam] in
theorem readsA_one {t : TypeId} {S : List V → Prop} (h : ∀ n, Reads enc P W n t S) (hc : ∀ base v, Value.okWide P W .any base t v → v.cells.toList = [v]) : ReadsA enc P W t fun x => S [x] := by
  intro base v d p hv ⟨n, h0⟩
  obtain ⟨vs, hS, hr, hlf⟩ := h n _ _ h0
  rw [hc base v hv] at hr
  obtain ⟨x, rfl⟩ : ∃ x, vs = [x] := by
    have := hr.1
    cases vs with
    | nil => simp at this
    | cons x xs => cases xs with
      | nil => exact ⟨x, rfl⟩
      | cons y ys => simp at this
  exact ⟨x, hS, hr.2 0 x v rfl rfl⟩
omit [Lam] in
theorem readsA_int {t : TypeId} {k : IntKind} (ht : P.underlying t = some (.int k)) : ReadsA enc P W t fun x => ∃ i, [x] = [.int k i] ∧ k.min ≤ i ∧ i ≤ k.max :=
  readsA_one (fun _ => reads_int ht) fun base v hv => by obtain ⟨n, rfl⟩ := okWide_int ht hv; rfl
omit [Lam] in
theorem readsA_str {t : TypeId} (ht : P.underlying t = some .string) : ReadsA enc P W t fun x => ∃ s, [x] = [.str s] ∧ s.length ≤ maxLen :=
  readsA_one (fun _ => reads_str ht) fun base v hv => by obtain ⟨n, rfl⟩ := okWide_string ht hv; rfl
omit [Lam] in
theorem readsA_bool {t : TypeId} (ht : P.underlying t = some .bool) : ReadsA enc P W t fun x => ∃ b, [x] = [.bool b] :=
  readsA_one (fun _ => reads_bool ht) fun base v hv => by obtain ⟨n, rfl⟩ := okWide_bool ht hv; rfl
omit [Lam] in
theorem readsA_slice {t e : TypeId} {S : List V → Prop} (ht : P.underlying t = some (.slice e)) (h : ∀ n, Reads enc P W n t S) : ReadsA enc P W t fun x => S [x] :=
  readsA_one h fun base v hv => by obtain ⟨a, b, c, rfl⟩ := okWide_slice ht hv; rfl

omit [Lam] in
theorem args_of : ∀ {ts : List TypeId} {Ss : List (V → Prop)} {args : List Value} {ds : List (DataW H)} {ps : List MemPlace} {base : Nat}, ReadsAll enc P W ts Ss → DataW.TrodAll enc P W 0 (fun _ => true) true ts args ds ps →
    (∀ (j : Nat) t v, ts[j]? = some t → args[j]? = some v → Value.okWide P W .any base t v) → ∃ xs, HoldAll Ss xs ∧ RepL (oldP W) [] W xs args
  | [], [], args, ds, ps, base, _, hA, _ => by
    obtain ⟨rfl, rfl, rfl⟩ := trodAll_nil hA
    exact ⟨[], trivial, rfl, by simp⟩
  | t :: ts, S :: Ss, args, ds, ps, base, hR, hA, hv => by
    obtain ⟨v, vs', d, ds', p, q, rfl, rfl, rfl, h0, h1⟩ := trodAll_cons hA
    obtain ⟨x, hx, hr⟩ := hR.1 _ _ _ _ (hv 0 t v rfl rfl) h0
    obtain ⟨xs, hxs, hl, hrs⟩ := args_of hR.2 h1 fun j t v a b => hv (j + 1) t v a b
    refine ⟨x :: xs, ⟨hx, hxs⟩, by simp [hl], fun i a u e1 e2 => ?_⟩
    cases i with
    | zero => simp at e1 e2; subst e1 e2; exact hr
    | succ i => exact hrs i a u (by simpa using e1) (by simpa using e2)
  | [], _ :: _, _, _, _, _, h, _, _ => h.elim
  | _ :: _, [], _, _, _, _, h, _, _ => h.elim

omit [Lam] in
theorem trodAll_len : ∀ {ts : List TypeId} {args : List Value} {ds : List (DataW H)} {ps : List MemPlace}, DataW.TrodAll enc P W 0 (fun _ => true) true ts args ds ps → ds.length = ts.length
  | [], _, _, _, h => by obtain ⟨rfl, rfl, rfl⟩ := trodAll_nil h; rfl
  | _ :: _, _, _, _, h => by
    obtain ⟨v, vs', d, ds', p, q, rfl, rfl, rfl, h0, h1⟩ := trodAll_cons h
    simp [trodAll_len h1]

/-- THE CALL OF A LAW that answers true. -/
theorem law_calls {f : FuncId} {F : Func} {s : ChangeSpec} {apart fresh handsOn again : Bool} {tb : TypeId} (K : Kids P (· < P.types.size)) (hz : ∀ t e, t < P.types.size → P.underlying t = some (.slice e) → 0 < P.cellsOf e)
    (hres : F.resultTypes = #[tb]) (htb : P.underlying tb = some .bool) (hpar : ∀ t ∈ F.params.toList, t < P.types.size) (hvars : s.vars = [])
    {args : Array Value} {ds gs : List (DataW H)} {before : List MemPlace} (hW : DataW.Whole enc P F.params.toList s.vars apart W args.toList ds gs before)
    (hs : ∀ ds : List (DataW H), ds.length = F.params.toList.length → (s.fn H ds).results = [.lit (.bool true)] ∧ (s.fn H ds).args = ds ∧ (s.fn H ds).vars = [])
    {base : Nat} (hval : ∀ (j : Nat) t v, F.params[j]? = some t → args[j]? = some v → Value.okWide P W .any base t v)
    {Ss : List (V → Prop)} (hlaid : Laid (oldP W) W) (hR : ReadsAll enc P W F.params.toList Ss) (hp : ∀ xs, HoldAll Ss xs → Pure P f xs (· = .bool true)) :
    Calls P f args W fun e W' => ∃ v, e = .returned v ∧ s.post enc P F apart fresh handsOn again W args v W' := by
  have hW' := hW
  obtain ⟨p, q, hA, hV, rfl, hfz, hnd⟩ := hW'
  obtain ⟨xs, h1, h2⟩ := args_of hR hA (base := base) fun j t v a b => hval j t v (by simpa using a) (by simpa using b)
  rw [hvars] at hV
  obtain ⟨rfl, rfl⟩ := trodVars_none hV
  obtain ⟨q1, q2, q3⟩ := hs ds (trodAll_len hA)
  exact change_of_pure K hz hres htb hpar hvars hW (by rwa [List.append_nil]) (by rwa [List.append_nil]) (by rwa [List.append_nil]) h2 hlaid (hp xs h1)
end
end Go.Cod

/-! Contracts: pools begin, take in what is one's own, are lent, are shared. -/
namespace Go.Cod
open Go
variable [Lam]

variable {P : Program} {ok : OkY}

/-- No block is in pools twice. -/
def LabsOk (st : St) : Prop := ∀ (k k' : Nat) (o o' : O) (i i' : Nat) (e e' : List V), st[k]? = some o → st[k']? = some o' → o.kind = .pool → o'.kind = .pool → o.es[i]? = some e → o'.es[i']? = some e' → labOf e = labOf e' → k = k' ∧ i = i'

/-- What is known of blocks at a call. -/
theorem Full.given {f : FuncId} {args : List V} {st0 : St} {R : Out → St → Prop} (hc : Callable P f) (h : LabsOk st0 → Full P ok f args st0 R) : Full P ok f args st0 R :=
  ⟨hc, fun E C Pr γ w cargs a b c => (h c.pools.one).2 E C Pr γ w cargs a b c⟩
theorem Full.givenEnd {f : FuncId} {args : List V} {st0 : St} {R : Out → St → Prop} (h : Full P ok f args st0 R) : Full P ok f args st0 fun o st' => R o st' ∧ LabsOk st' :=
  ⟨h.1, fun E C Pr γ w cargs a b c => (h.2 E C Pr γ w cargs a b c).mono fun _ _ ⟨o, st', γ', Pr', C', h1, h2, h3, h4, h5, h6⟩ => ⟨o, st', γ', Pr', C', h1, ⟨h2, h5.pools.one⟩, h3, h4, h5, h6⟩⟩

omit [Lam] in
theorem ObjOk.anyNames {Pr w o g} {γ γ' : List G} (hb : o.box = false) (h : ObjOk Pr γ w o g) : ObjOk Pr γ' w o g := by
  obtain ⟨cur, fz, h1, h2, h3⟩ := h.row
  refine ⟨h.len, h.wid, h.le, h.max, h.sz, h.lf, ⟨cur, fz, h1, h2, fun i e j x a b => ?_⟩, h.spare, h.excl, h.cl, h.kd⟩
  obtain ⟨u, hu, hr⟩ := h3 i e j x a b
  exact ⟨u, hu, hr.names (n := 0) (fun k hk => absurd hk (Nat.not_lt_zero _)) (V.cleanL_mem (V.cleanLL_mem (h.cl hb) e (List.mem_of_getElem? a)) x (List.mem_of_getElem? b))⟩

/-- A pool begins, without a block. -/
theorem Full.start {f : FuncId} {args : List V} {st0 : St} {R : Out → St → Prop} (h : Full P ok f args (st0 ++ [poolO []]) R) : Full P ok f args st0 R := by
  refine ⟨h.1, fun E C Pr γ w cargs hr hst hext => ?_⟩
  let d : G := ⟨0, 0, 0, 0, 0⟩
  have hγ : γ.length = st0.length := hst.len
  have K : Keep Pr Pr γ (γ ++ [d]) w w := ⟨fun _ _ h => h, fun _ _ _ => rfl, fun k g h => by rw [List.getElem?_append_left (List.getElem?_eq_some_iff.1 h).1]; exact h⟩
  have get : ∀ {j : Nat} {p : O} {q : G}, (st0 ++ [poolO []])[j]? = some p → (γ ++ [d])[j]? = some q → (p = poolO []) ∨ (st0[j]? = some p ∧ γ[j]? = some q) := by
    intro j p q hj hq
    by_cases hlt : j < st0.length
    · rw [List.getElem?_append_left hlt] at hj
      rw [List.getElem?_append_left (by omega)] at hq
      exact .inr ⟨hj, hq⟩
    · have : j = st0.length := by
        have := (List.getElem?_eq_some_iff.1 hj).1
        simp at this; omega
      subst this
      simp at hj
      exact .inl hj.symm
  have get1 : ∀ {j : Nat} {p : O}, (st0 ++ [poolO []])[j]? = some p → (p = poolO []) ∨ st0[j]? = some p := by
    intro j p hj
    by_cases hlt : j < st0.length
    · rw [List.getElem?_append_left hlt] at hj; exact .inr hj
    · have : j = st0.length := by
        have := (List.getElem?_eq_some_iff.1 hj).1
        simp at this; omega
      subst this
      simp at hj
      exact .inl hj.symm
  have hmod : ∀ b, modOf (st0 ++ [poolO []]) (γ ++ [d]) b ↔ modOf st0 γ b := by
    intro b
    constructor
    · rintro ⟨k, o, h1, ⟨g, h2, h3, h4⟩ | ⟨h2, e, h3, h4⟩⟩
      · rcases get h1 h2 with rfl | ⟨a1, a2⟩
        · cases h3
        · exact ⟨k, o, a1, .inl ⟨g, a2, h3, h4⟩⟩
      · rcases get1 h1 with rfl | a1
        · simp [poolO] at h3
        · exact ⟨k, o, a1, .inr ⟨h2, e, h3, h4⟩⟩
    · rintro ⟨k, o, h1, h2⟩
      have hk : k < st0.length := (List.getElem?_eq_some_iff.1 h1).1
      refine ⟨k, o, by rw [List.getElem?_append_left hk]; exact h1, ?_⟩
      rcases h2 with ⟨g, h2, h3⟩ | h2
      · exact .inl ⟨g, K.names k g h2, h3⟩
      · exact .inr h2
  have hmodE : modOf (st0 ++ [poolO []]) (γ ++ [d]) = modOf st0 γ := funext fun b => propext (hmod b)
  have hS : StOk Pr (γ ++ [d]) w (st0 ++ [poolO []]) := by
    refine ⟨by simp [hγ], fun k o g h1 h2 hl => ?_, fun k k' o o' g g' h1 h1' h2 h2' hl hl' he => ?_, hst.low, hst.laid⟩
    · rcases get h1 h2 with rfl | ⟨a1, a2⟩
      · cases hl
      · exact (hst.obj k o g a1 a2 hl).same K rfl fun _ h => h
    · rcases get h1 h2 with rfl | ⟨a1, a2⟩
      · cases hl
      · rcases get h1' h2' with rfl | ⟨b1, b2⟩
        · cases hl'
        · exact hst.one k k' o o' g g' a1 b1 a2 b2 hl hl' he
  have hE : Ext P ok E w (modOf (st0 ++ [poolO []]) (γ ++ [d])) C none Pr (γ ++ [d]) (st0 ++ [poolO []]) [] w := by
    rw [hmodE]
    have D := hext
    refine ⟨D.clow, fun k o g h1 h2 hl => ?_, D.prC, fun k o g h1 h2 hl => ?_, fun k k' o o' g g' h1 h1' h2 h2' hl hl' he => ?_, fun k o g h1 h2 hl => ?_, fun k o g h1 h2 hl => ?_, fun k k' o o' h1 h1' hl hl' => ?_, D.marks, D.round, ?_⟩
    · rcases get h1 h2 with rfl | ⟨a1, a2⟩
      · cases hl
      · exact D.apart k o g a1 a2 hl
    · rcases get h1 h2 with rfl | ⟨a1, a2⟩
      · cases hl
      · exact (D.maps k o g a1 a2 hl).keep K rfl
    · rcases get h1 h2 with rfl | ⟨a1, a2⟩
      · cases hl
      · rcases get h1' h2' with rfl | ⟨b1, b2⟩
        · cases hl'
        · exact D.mone k k' o o' g g' a1 b1 a2 b2 hl hl' he
    · rcases get h1 h2 with rfl | ⟨a1, a2⟩
      · cases hl
      · exact D.mmine k o g a1 a2 hl
    · rcases get h1 h2 with rfl | ⟨a1, a2⟩
      · cases hl
      · exact D.yld k o g a1 a2 hl
    · rcases get1 h1 with rfl | a1
      · cases hl
      · rcases get1 h1' with rfl | b1
        · cases hl'
        · exact D.yone k k' o o' a1 b1 hl hl'
    · have Q := D.pools
      refine ⟨fun k o h1 h2 e he => ?_, fun k o e h1 h2 he => ?_, fun k k' o o' i i' e e' h1 h1' h2 h2' he he' hl => ?_, fun k k' o o' g e h1 h2 he h1' h2' hl hq => ?_, fun k o h1 h2 => ?_⟩
      · rcases get1 h1 with rfl | a1
        · simp [poolO] at he
        · exact Q.ent k o a1 h2 e he
      · rcases get1 h1 with rfl | a1
        · simp [poolO] at he
        · exact Q.free k o e a1 h2 he
      · rcases get1 h1 with rfl | a1
        · simp [poolO] at he
        · rcases get1 h1' with rfl | b1
          · simp [poolO] at he'
          · exact Q.one k k' o o' i i' e e' a1 b1 h2 h2' he he' hl
      · rcases get1 h1 with rfl | a1
        · simp [poolO] at he
        · rcases get h1' h2' with rfl | ⟨b1, b2⟩
          · cases hl
          · exact Q.sep k k' o o' g e a1 h2 he b1 b2 hl hq
      · rcases get1 h1 with rfl | a1
        · rfl
        · exact Q.bx k o a1 h2
  refine (h.2 E C Pr (γ ++ [d]) w cargs (hr.keep K) hS hE).mono fun e w' hh => ?_
  obtain ⟨o, st', γ', Pr', C', h1, h2, h3, h4, h5, B⟩ := hh
  rw [hmodE] at h4 h5 B
  exact ⟨o, st', γ', Pr', C', h1, h2, h3, h4, h5, ⟨B.os, B.tape, B.output, B.size, B.old, B.sub, B.new, fun k g hk => B.names k g (K.names k g hk), B.cell, B.csub, B.cnew⟩⟩

/-- The name k stands for a block. -/
def V.dr (k b n c : Nat) : V → V
  | .own j => match decide (j = k) with
    | true => .dref b n c
    | false => .own j
  | .agg cs => .agg (go k b n c cs)
  | .tup cs => .tup (go k b n c cs)
  | .iface t x => .iface t (V.dr k b n c x)
  | v => v
where
  go (k b n c : Nat) : List V → List V
    | [] => []
    | x :: xs => V.dr k b n c x :: go k b n c xs
omit [Lam] in
theorem drL_eq (k b n c : Nat) (cs : List V) : V.dr.go k b n c cs = cs.map (V.dr k b n c) := by
  induction cs with
  | nil => rfl
  | cons x xs ih => simp [V.dr.go, ih]
omit [Lam] in
theorem Rep.dr {Pr w} {γ : List G} {k : Nat} {g : G} (hg : γ[k]? = some g) {v : V} {u : Value} (h : Rep Pr γ w v u) (hu : (v.dr k g.blk g.len g.cap).under k = true) : Rep Pr (γ.take k) w (v.dr k g.blk g.len g.cap) u := by
  have tk : ∀ {j : Nat} {q : G}, j < k → γ[j]? = some q → (γ.take k)[j]? = some q := fun hj h => by rw [List.getElem?_take, if_pos hj]; exact h
  induction h with
  | bool b => exact .bool b
  | int k n => exact .int k n
  | str s => exact .str s
  | agg hl _ ih =>
    simp only [V.dr, drL_eq, V.under] at hu ⊢
    refine .agg (by simpa using hl) fun i x u a b => ?_
    have hx := under_mem hu x (List.mem_of_getElem? a)
    rw [List.getElem?_map, Option.map_eq_some_iff] at a
    obtain ⟨y, hy, rfl⟩ := a
    exact ih i y u hy b hx
  | tup hl _ ih =>
    simp only [V.dr, drL_eq, V.under] at hu ⊢
    refine .tup (by simpa using hl) fun i x u a b => ?_
    have hx := under_mem hu x (List.mem_of_getElem? a)
    rw [List.getElem?_map, Option.map_eq_some_iff] at a
    obtain ⟨y, hy, rfl⟩ := a
    exact ih i y u hy b hx
  | nils a => exact .nils a
  | sl0 a cap => exact .sl0 a cap
  | sl u hcl hn hc hlf hm hr _ =>
    exact .sl u hcl hn hc hlf hm fun i e j x a b => (hr i e j x a b).names (n := 0) (fun k hk => absurd hk (Nat.not_lt_zero _)) (V.cleanL_mem (V.cleanLL_mem hcl e (List.mem_of_getElem? a)) x (List.mem_of_getElem? b))
  | @own j q h =>
    simp only [V.dr] at hu ⊢
    by_cases e : j = k
    · subst e
      rw [hg] at h; cases h
      simp only [decide_true]
      exact .dref _ _ _
    · rw [decide_eq_false e] at hu ⊢
      simp only [V.under, decide_eq_true_eq] at hu
      exact .own (tk hu h)
  | ptr h => simp only [V.dr, V.under, decide_eq_true_eq] at hu; exact .ptr (tk hu h)
  | map h => simp only [V.dr, V.under, decide_eq_true_eq] at hu; exact .map (tk hu h)
  | yld h => simp only [V.dr, V.under, decide_eq_true_eq] at hu; exact .yld (tk hu h)
  | iface _ ih => simp only [V.dr, V.under] at hu; exact .iface (ih hu)
  | rptr u hlf hm hr ih =>
    simp only [V.dr, V.under] at hu
    refine .rptr u hlf hm fun j x a => ?_
    have hx := under_mem hu x (List.mem_of_getElem? a)
    have := (hr j x a).mapNu (γ' := γ.take k) (f := fun i => i) (n := k) (fun j g h1 h2 => tk h1 h2) (by rw [mapN_id]; exact hx)
    rw [mapN_id] at this; exact this
  | fn hl hr ih =>
    simp only [V.dr, V.under] at hu
    refine .fn hl fun i x u a b => ?_
    have hx := under_mem hu x (List.mem_of_getElem? a)
    have := (hr i x u a b).mapNu (γ' := γ.take k) (f := fun i => i) (n := k) (fun j g h1 h2 => tk h1 h2) (by rw [mapN_id]; exact hx)
    rw [mapN_id] at this; exact this
  | raw v => exact .raw v
  | any h => exact .any h
  | dref b n c => exact .dref b n c
  | dptr b n c d => exact .dptr b n c d
where
  mapN_id : ∀ x : V, x.mapN (fun i => i) = x
    | .own _ | .ptr _ _ _ | .map _ | .yld _ | .bool _ | .int _ _ | .str _ | .nils | .sl _ | .raw _ | .any | .dref _ _ _ | .dptr _ _ _ _ => rfl
    | .iface t x => by simp only [V.mapN]; rw [mapN_id x]
    | .agg cs | .tup cs | .rptr cs | .fn _ cs => by simp only [V.mapN]; rw [mapNL_id cs]
  mapNL_id : ∀ cs : List V, V.mapN.go (fun i => i) cs = cs
    | [] => rfl
    | x :: xs => by simp only [V.mapN.go]; rw [mapN_id x, mapNL_id xs]

end Go.Cod

/-! Contracts: a pool takes in what is one's own. -/
namespace Go.Cod
open Go
variable [Lam]

variable {P : Program} {ok : OkY}

/-- At a call's end: the last object, a slice of one's own, goes into pool m. -/
theorem Full.absorb {f : FuncId} {args : List V} {st0 : St} {R R' : Out → St → Prop} (h : Full P ok f args st0 R)
    (hR : ∀ o st', R o st' → ∃ v pre m es rows wid, o = .ret v ∧ st' = pre ++ [⟨rows, wid, true, true, false, .cell⟩] ∧ pre[m]? = some (poolO es) ∧ st0.length ≤ pre.length ∧ (∀ p ∈ pre, p.box = false) ∧
      ∀ b c, (v.dr pre.length b rows.length c).under pre.length = true ∧ R' (.ret (v.dr pre.length b rows.length c)) (pre.set m (poolO (es ++ [ent b c wid rows])))) : Full P ok f args st0 R' := by
  refine ⟨h.1, fun E C Pr γ w cargs hr hst hext => (h.2 E C Pr γ w cargs hr hst hext).mono fun e w' hh => ?_⟩
  obtain ⟨o, st', γ', Pr', C', h1, h2, S, M, X, B⟩ := hh
  obtain ⟨v, pre, m, es, rows, wid, rfl, rfl, hm, hlen, hbx, hv⟩ := hR o st' h2
  cases h1 with
  | ret h1 =>
  rename_i cv
  have hγl : γ'.length = pre.length + 1 := by simpa using S.len
  have hg : γ'[pre.length]? = some γ'[pre.length] := by simp [hγl]
  generalize hgg : γ'[pre.length] = g at hg
  have hcl : (pre ++ [(⟨rows, wid, true, true, false, .cell⟩ : O)])[pre.length]? = some ⟨rows, wid, true, true, false, .cell⟩ := by simp
  have MO := S.obj _ _ g hcl hg rfl
  have hgl : g.len = rows.length := MO.len
  obtain ⟨hu, hR'⟩ := hv g.blk g.cap
  have hmlt : m < pre.length := (List.getElem?_eq_some_iff.1 hm).1
  have prein : ∀ {j : Nat} {p : O}, pre[j]? = some p → (pre ++ [(⟨rows, wid, true, true, false, .cell⟩ : O)])[j]? = some p := fun {j p} hj => by
    rw [List.getElem?_append_left (List.getElem?_eq_some_iff.1 hj).1]; exact hj
  have tk : ∀ {j : Nat} {q : G}, (γ'.take pre.length)[j]? = some q → γ'[j]? = some q := fun {j q} h => by
    rw [List.getElem?_take] at h; split at h
    · exact h
    · cases h
  have get : ∀ {j : Nat} {p : O}, (pre.set m (poolO (es ++ [ent g.blk g.cap wid rows])))[j]? = some p → (j = m ∧ p = poolO (es ++ [ent g.blk g.cap wid rows])) ∨ (j ≠ m ∧ pre[j]? = some p) := by
    intro j p hj
    rw [List.getElem?_set] at hj
    by_cases e : m = j
    · subst e; simp [hmlt] at hj; exact .inl ⟨rfl, hj.symm⟩
    · rw [if_neg e] at hj; exact .inr ⟨Ne.symm e, hj⟩
  have get' : ∀ {j : Nat} {p : O}, (pre.set m (poolO (es ++ [ent g.blk g.cap wid rows])))[j]? = some p → p.kind ≠ .pool → pre[j]? = some p ∧ (pre ++ [(⟨rows, wid, true, true, false, .cell⟩ : O)])[j]? = some p := by
    intro j p hj hp
    rcases get hj with ⟨_, rfl⟩ | ⟨_, h⟩
    · exact absurd rfl hp
    · exact ⟨h, prein h⟩
  have Q := X.pools
  -- the blocks of pools
  have pget : ∀ {j : Nat} {p : O} {i : Nat} {x : List V}, (pre.set m (poolO (es ++ [ent g.blk g.cap wid rows])))[j]? = some p → p.kind = .pool → p.es[i]? = some x →
      (∃ p0, (pre ++ [(⟨rows, wid, true, true, false, .cell⟩ : O)])[j]? = some p0 ∧ p0.kind = .pool ∧ p0.es[i]? = some x) ∨ (j = m ∧ i = es.length ∧ x = ent g.blk g.cap wid rows) := by
    intro j p i x hj hp hx
    rcases get hj with ⟨rfl, rfl⟩ | ⟨_, h⟩
    · simp only [poolO] at hx
      by_cases hi : i < es.length
      · rw [List.getElem?_append_left hi] at hx
        exact .inl ⟨_, prein hm, rfl, hx⟩
      · have : i = es.length := by
          have := (List.getElem?_eq_some_iff.1 hx).1
          simp at this; omega
        subst this
        simp at hx
        exact .inr ⟨rfl, rfl, hx.symm⟩
    · exact .inl ⟨p, prein h, hp, hx⟩
  have live_old : ∀ {j : Nat} {p : O} {q : G}, pre[j]? = some p → γ'[j]? = some q → p.live = true → q.blk ≠ g.blk := by
    intro j p q a1 a2 a3 he
    have := S.one j pre.length p _ q g (prein a1) hcl a2 hg a3 rfl he
    have := (List.getElem?_eq_some_iff.1 a1).1
    omega
  have live_kind' : ∀ {j : Nat} {p : O}, (pre.set m (poolO (es ++ [ent g.blk g.cap wid rows])))[j]? = some p → p.live = true → p.kind ≠ .pool := by
    intro j p hj hl
    rcases get hj with ⟨_, rfl⟩ | ⟨_, h⟩
    · cases hl
    · rw [live_kind S (prein h) hl]; simp
  have gr : Rep Pr' (γ'.take pre.length) w' (v.dr pre.length g.blk rows.length g.cap) cv := by
    have := h1.dr hg (by rw [hgl]; exact hu)
    rw [hgl] at this; exact this
  refine ⟨_, _, γ'.take pre.length, Pr', C', .ret gr, hR', ⟨by simp [hγl], fun k o q a1 a2 a3 => ?_, fun k k' o o' q q' a1 a1' a2 a2' a3 a3' he => ?_, S.low, S.laid⟩, fun k o q a1 a2 a3 => ?_, ⟨X.clow, fun k o q a1 a2 a3 => ?_, X.prC, fun k o q a1 a2 a3 => ?_, fun k k' o o' q q' a1 a1' a2 a2' a3 a3' he => ?_, fun k o q a1 a2 a3 => ?_, fun k o q a1 a2 a3 => ?_, fun k k' o o' a1 a1' a3 a3' => ?_, X.marks, X.round, ?_⟩,
    ⟨B.os, B.tape, B.output, B.size, B.old, B.sub, B.new, fun k q hk => ?_, B.cell, B.csub, B.cnew⟩⟩
  · obtain ⟨b1, b2⟩ := get' a1 (live_kind' a1 a3)
    exact (S.obj k o q b2 (tk a2) a3).anyNames (hbx o (List.mem_of_getElem? b1))
  · obtain ⟨b1, b2⟩ := get' a1 (live_kind' a1 a3)
    obtain ⟨b1', b2'⟩ := get' a1' (live_kind' a1' a3')
    exact S.one k k' o o' q q' b2 b2' (tk a2) (tk a2') a3 a3' he
  · obtain ⟨b1, b2⟩ := get' a1 (live_kind' a1 a3)
    exact M k o q b2 (tk a2) a3
  · have hnp : o.kind ≠ .pool := by
      rcases own_iff.1 a3 with h | h
      · exact live_kind' a1 h
      · rw [h]; simp
    obtain ⟨b1, b2⟩ := get' a1 hnp
    exact X.apart k o q b2 (tk a2) a3
  · obtain ⟨b1, b2⟩ := get' a1 (by rw [a3]; simp)
    exact ((X.maps k o q b2 (tk a2) a3).mapO (f := fun i => i)).2
  · obtain ⟨b1, b2⟩ := get' a1 (by rw [a3]; simp)
    obtain ⟨b1', b2'⟩ := get' a1' (by rw [a3']; simp)
    exact X.mone k k' o o' q q' b2 b2' (tk a2) (tk a2') a3 a3' he
  · obtain ⟨b1, b2⟩ := get' a1 (by rw [a3]; simp)
    exact X.mmine k o q b2 (tk a2) a3
  · obtain ⟨b1, b2⟩ := get' a1 (by rw [a3]; simp)
    exact X.yld k o q b2 (tk a2) a3
  · obtain ⟨b1, b2⟩ := get' a1 (by rw [a3]; simp)
    obtain ⟨b1', b2'⟩ := get' a1' (by rw [a3']; simp)
    exact X.yone k k' o o' b2 b2' a3 a3'
  · have newEnt : EntOk Pr' w' (ent g.blk g.cap wid rows) := by
      refine ⟨g.blk, g.cap, wid, rows, g.ty, rfl, ?_⟩
      have e : (⟨g.blk, rows.length, g.cap, wid, g.ty⟩ : G) = g := by
        have h1 := MO.len
        have h2 := MO.wid
        simp only at h1 h2
        rw [← h1, ← h2]
      rw [e]
      exact MO.anyNames rfl
    refine ⟨fun k o a1 a2 x hx => ?_, fun k o x a1 a2 hx => ?_, fun k k' o o' i i' x x' a1 a1' a2 a2' hx hx' hl => ?_, fun k k' o o' q x a1 a2 hx a1' a2' hl hq => ?_, fun k o a1 a2 => ?_⟩
    · obtain ⟨i, hi⟩ := List.getElem?_of_mem hx
      rcases pget a1 a2 hi with ⟨p0, b1, b2, b3⟩ | ⟨_, _, rfl⟩
      · exact Q.ent k p0 b1 b2 x (List.mem_of_getElem? b3)
      · exact newEnt
    · obtain ⟨i, hi⟩ := List.getElem?_of_mem hx
      rcases pget a1 a2 hi with ⟨p0, b1, b2, b3⟩ | ⟨_, _, rfl⟩
      · exact Q.free k p0 x b1 b2 (List.mem_of_getElem? b3)
      · exact ⟨X.apart _ _ g hcl hg (own_iff.2 (.inl rfl)), M _ _ g hcl hg rfl⟩
    · rcases pget a1 a2 hx with ⟨p0, b1, b2, b3⟩ | ⟨e1, e2, rfl⟩ <;> rcases pget a1' a2' hx' with ⟨p0', c1, c2, c3⟩ | ⟨e1', e2', rfl⟩
      · exact Q.one k k' p0 p0' i i' x x' b1 c1 b2 c2 b3 c3 hl
      · exact absurd hl.symm (Q.sep k pre.length p0 _ g x b1 b2 (List.mem_of_getElem? b3) hcl hg rfl)
      · exact absurd hl (Q.sep k' pre.length p0' _ g x' c1 c2 (List.mem_of_getElem? c3) hcl hg rfl)
      · exact ⟨e1.trans e1'.symm, e2.trans e2'.symm⟩
    · obtain ⟨b1, b2⟩ := get' a1' (live_kind' a1' hl)
      obtain ⟨i, hi⟩ := List.getElem?_of_mem hx
      rcases pget a1 a2 hi with ⟨p0, c1, c2, c3⟩ | ⟨_, _, rfl⟩
      · exact Q.sep k k' p0 o' q x c1 c2 (List.mem_of_getElem? c3) b2 (tk a2') hl hq
      · exact live_old b1 (tk a2') hl hq
    · rcases get a1 with ⟨_, rfl⟩ | ⟨_, b⟩
      · rfl
      · exact Q.bx k o (prein b) a2
  · have hk' : k < γ.length := (List.getElem?_eq_some_iff.1 hk).1
    rw [hst.len] at hk'
    rw [List.getElem?_take, if_pos (by omega)]
    exact B.names k q hk

/-- At a call's end: the pool's blocks are shared for good. -/
theorem Full.freeze {f : FuncId} {args : List V} {R : Out → St → Prop} {R' : V → Prop} (h : Full P noY f args [] R)
    (hR : ∀ o st', R o st' → ∃ v es v', o = .ret v ∧ st' = [poolO es] ∧ View es v v' ∧ v.clean 0 = true ∧ R' v') : Pure P f args R' := by
  refine ⟨h.1, fun E C Pr γ w cargs hr hst hext => (h.2 E C Pr γ w cargs hr hst hext).mono fun e w' hh => ?_⟩
  obtain ⟨o, st', γ', Pr', C', h1, h2, S, M, X, B⟩ := hh
  obtain ⟨v, es, v', rfl, rfl, hv, hcl, hR'⟩ := hR o st' h2
  cases h1 with
  | ret h1 =>
  have hγ0 : γ = [] := by have := hst.len; simpa using this
  subst hγ0
  have nomod : ∀ b, ¬ modOf [] [] b := fun b ⟨k, o, h1, _⟩ => by simp at h1
  have Q := X.pools
  let Pr2 : Nat → Nat → Prop := fun b n => Pr' b n ∨ ∃ e ∈ es, labOf e = b
  have hlab : ∀ {e : List V}, e ∈ es → Lab [poolO es] (labOf e) := fun h => ⟨0, poolO es, _, rfl, rfl, h, rfl⟩
  have rv : Rep Pr2 [] w' v' _ := hv.rep (fun e he => Q.ent 0 (poolO es) rfl rfl e he) (fun _ _ h => .inl h) (fun e he n => .inr ⟨e, he, rfl⟩) _ (h1.names (n := 0) (fun k hk => absurd hk (Nat.not_lt_zero _)) hcl)
  refine ⟨_, [], [], Pr2, C', .ret rv, ⟨rfl, v', rfl, hR'⟩, ⟨rfl, fun k o g h => by simp at h, fun k k' o o' g g' h => by simp at h, fun b n hb => ?_, S.laid.keep (γ := []) (γ' := []) ⟨fun _ _ h => .inl h, fun _ _ _ => rfl, fun _ _ h => h⟩⟩, fun k o g h => by simp at h, ⟨X.clow, fun k o g h => by simp at h, fun b n hb => ?_, fun k o g h => by simp at h, fun k k' o o' g g' h => by simp at h, fun k o g h => by simp at h, fun k o g h => by simp at h, fun k k' o o' h => by simp at h, X.marks, X.round, Pools.none fun k o h => by simp at h⟩,
    ⟨B.os, B.tape, B.output, B.size, B.old, fun b n hb => .inl (B.sub b n hb), fun b n hb => ?_, fun k g h => by simp at h, B.cell, B.csub, B.cnew⟩⟩
  · rcases hb with hb | ⟨e, he, rfl⟩
    · exact S.low b n hb
    · exact Q.lt (hlab he)
  · rcases hb with hb | ⟨e, he, rfl⟩
    · exact X.prC b n hb
    · exact .inr (Q.at (hlab he)).1
  · rcases hb with hb | ⟨e, he, rfl⟩
    · exact B.new b n hb
    · rcases (Q.at (hlab he)).2 with h | h
      · exact .inr (.inl h)
      · exact absurd h (nomod _)

/-- An object that leans on no protected cell. -/
def FlatO (o : O) : Prop := o.box = false ∧ ((o.live = true ∧ ∀ e ∈ o.es, ∀ x ∈ e, x.flat = true) ∨ (o.live = false ∧ o.kind = .pool ∧ ∀ e ∈ o.es, ∀ r ∈ rowsOf e, ∀ x ∈ r, x.flat = true))

end Go.Cod

/-! Contracts: pools are lent for a call. -/
namespace Go.Cod
open Go
variable [Lam]

variable {P : Program} {ok : OkY}

omit [Lam] in
theorem ObjOk.unlend {Pr Pr' w o g} {γ γ' : List G} (hb : o.box = false) (hf : ∀ e ∈ o.es, ∀ x ∈ e, x.flat = true) (hs : ∀ b n, Pr' b n → Pr b n) (h : ObjOk Pr γ w o g) : ObjOk Pr' γ' w o g := by
  obtain ⟨cur, fz, h1, h2, h3⟩ := h.row
  refine ⟨h.len, h.wid, h.le, h.max, h.sz, h.lf, ⟨cur, fz, h1, h2, fun i e j x a b => ?_⟩, fun n hn hp => h.spare n hn (hs _ _ hp), fun he n hp => h.excl he n (hs _ _ hp), h.cl, h.kd⟩
  obtain ⟨u, hu, hr⟩ := h3 i e j x a b
  exact ⟨u, hu, ((hr.flat (Pr' := Pr') (w' := w) (hf e (List.mem_of_getElem? a) x (List.mem_of_getElem? b)))).names (n := 0) (fun k hk => absurd hk (Nat.not_lt_zero _)) (V.cleanL_mem (V.cleanLL_mem (h.cl hb) e (List.mem_of_getElem? a)) x (List.mem_of_getElem? b))⟩
omit [Lam] in
theorem EntOk.unlend {Pr Pr' w e} (hf : ∀ r ∈ rowsOf e, ∀ x ∈ r, x.flat = true) (hs : ∀ b n, Pr' b n → Pr b n) (h : EntOk Pr w e) : EntOk Pr' w e := by
  obtain ⟨b, cap, sz, rows, ty, rfl, hO⟩ := h
  exact ⟨b, cap, sz, rows, ty, rfl, hO.unlend rfl hf hs⟩

theorem Full.lent {f : FuncId} {ps : List (List (List V))} {vs vs' : List V} {R : Out → St → Prop} (h : Full P noY f vs' [] R) (hv : ViewL ps.flatten vs vs') (hcl : V.clean.cleanL 0 vs = true)
    (hfl : ∀ o st1, R o st1 → ∃ v, o = .ret v ∧ v.flat = true ∧ ∀ p ∈ st1, FlatO p) :
    Full P ok f vs (ps.map poolO) fun o st' => ∃ v st1, R (.ret v) st1 ∧ o = .ret (v.mapN (· + ps.length)) ∧ st' = ps.map poolO ++ st1 := by
  refine ⟨h.1, fun E C Pr γ w cargs hr hst hext => ?_⟩
  have Q := hext.pools
  have hγ : γ.length = ps.length := by have := hst.len; simpa using this
  have hps : ∀ e ∈ ps.flatten, ∃ (k : Nat) (es : List (List V)), (ps.map poolO)[k]? = some (poolO es) ∧ e ∈ es := by
    intro e he
    obtain ⟨es, h1, h2⟩ := List.mem_flatten.1 he
    obtain ⟨k, hk⟩ := List.getElem?_of_mem h1
    exact ⟨k, es, by rw [List.getElem?_map, hk]; rfl, h2⟩
  have hes : ∀ e ∈ ps.flatten, EntOk Pr w e := fun e he => by
    obtain ⟨k, es, h1, h2⟩ := hps e he
    exact Q.ent k _ h1 rfl e h2
  let Pr2 : Nat → Nat → Prop := fun b n => Pr b n ∨ ∃ e ∈ ps.flatten, labOf e = b
  have hr0 : RepL Pr [] w vs cargs := hr.names (n := 0) (fun k hk => absurd hk (Nat.not_lt_zero _)) hcl
  have hr2 : RepL Pr2 [] w vs' cargs := ⟨hv.1.symm.trans hr0.1, fun i y u p q => by
    have hi : i < vs.length := by rw [hv.1]; exact (List.getElem?_eq_some_iff.1 p).1
    exact (hv.2 i _ y (List.getElem?_eq_getElem hi) p).rep hes (fun _ _ h => .inl h) (fun e he n => .inr ⟨e, he, rfl⟩) u (hr0.2 i _ u (List.getElem?_eq_getElem hi) q)⟩
  have hlow : ∀ b n, Pr2 b n → b < w.heap.size := by
    rintro b n (h | ⟨e, h, rfl⟩)
    · exact hst.low b n h
    · obtain ⟨cur, ty, f, h1⟩ := (hes e h).lab.1
      exact (Array.getElem?_eq_some_iff.1 h1).1
  have hS : StOk Pr2 [] w [] := ⟨rfl, fun k o g h => by simp at h, fun k k' o o' g g' h => by simp at h, hlow, hst.laid.keep (γ := []) (γ' := []) ⟨fun _ _ h => .inl h, fun _ _ _ => rfl, fun _ _ h => h⟩⟩
  refine (h.2 (Env.none P noY) (fun _ => False) Pr2 [] w cargs hr2 hS (Ext.nil _ _ _ _)).mono fun e w' hh => ?_
  obtain ⟨o, st1, γ1, Pr1, C1, h1, h2, S1, M1, X1, B1⟩ := hh
  obtain ⟨v, rfl, hvf, hO⟩ := hfl o st1 h2
  cases h1 with
  | ret h1 =>
  rename_i cv
  have nomod : ∀ b, ¬ modOf [] [] b := fun b ⟨k, o, h1, _⟩ => by simp at h1
  have hold : ∀ b, b < w.heap.size → w'.heap[b]? = w.heap[b]? := fun b hb => B1.old b hb (nomod b) (fun h => h)
  have hs1 : ∀ b n, Pr b n → Pr1 b n := fun b n h => B1.sub b n (.inl h)
  have hcell : ∀ b n, Pr b n → w'.cell? ⟨b, n, none⟩ = w.cell? ⟨b, n, none⟩ := fun b n h => cell_of_block (hold b (hst.low b n h)) n
  have Q1 := X1.pools
  have get : ∀ {j : Nat} {p : O}, (ps.map poolO ++ st1)[j]? = some p → (j < ps.length ∧ (ps.map poolO)[j]? = some p ∧ p.kind = .pool ∧ p.live = false) ∨ (ps.length ≤ j ∧ st1[j - ps.length]? = some p) := by
    intro j p hj
    by_cases hlt : j < ps.length
    · rw [List.getElem?_append_left (by simpa using hlt)] at hj
      refine .inl ⟨hlt, hj, ?_⟩
      rw [List.getElem?_map, Option.map_eq_some_iff] at hj
      obtain ⟨es, _, rfl⟩ := hj
      exact ⟨rfl, rfl⟩
    · rw [List.getElem?_append_right (by simpa using Nat.le_of_not_lt hlt)] at hj
      exact .inr ⟨by omega, by simpa using hj⟩
  have getg : ∀ {j : Nat} {q : G}, ps.length ≤ j → (γ ++ γ1)[j]? = some q → γ1[j - ps.length]? = some q := by
    intro j q hj hq
    rw [List.getElem?_append_right (by omega), hγ] at hq
    exact hq
  have own1 : ∀ {j : Nat} {p : O}, (ps.map poolO ++ st1)[j]? = some p → p.own = true → ps.length ≤ j ∧ st1[j - ps.length]? = some p ∧ p.live = true ∧ p.kind = .cell ∧ p.box = false ∧ ∀ e ∈ p.es, ∀ x ∈ e, x.flat = true := by
    intro j p hj ho
    rcases get hj with ⟨_, _, a3, a4⟩ | ⟨a1, a2⟩
    · rcases own_iff.1 ho with h | h
      · rw [a4] at h; cases h
      · rw [a3] at h; cases h
    · obtain ⟨b1, ⟨b2, b3⟩ | ⟨b2, b3, _⟩⟩ := hO p (List.mem_of_getElem? a2)
      · exact ⟨a1, a2, b2, live_kind S1 a2 b2, b1, b3⟩
      · rcases own_iff.1 ho with h | h
        · rw [b2] at h; cases h
        · rw [b3] at h; cases h
  have kinds : ∀ {j : Nat} {p : O}, (ps.map poolO ++ st1)[j]? = some p → p.kind = .cell ∨ p.kind = .pool := by
    intro j p hj
    rcases get hj with ⟨_, _, a3, a4⟩ | ⟨a1, a2⟩
    · exact .inr a3
    · obtain ⟨b1, ⟨b2, b3⟩ | ⟨b2, b3, _⟩⟩ := hO p (List.mem_of_getElem? a2)
      · exact .inl (live_kind S1 a2 b2)
      · exact .inr b3
  have new1 : ∀ {j : Nat} {p : O} {x : List V}, st1[j]? = some p → p.kind = .pool → x ∈ p.es → w.heap.size ≤ labOf x := fun a1 a2 a3 => by
    rcases (Q1.free _ _ _ a1 a2 a3).2 with h | h
    · exact h
    · exact absurd h (nomod _)
  have mine1 : ∀ {j : Nat} {p : O} {q : G}, st1[j]? = some p → γ1[j]? = some q → p.live = true → w.heap.size ≤ q.blk := fun a1 a2 a3 => by
    rcases M1 _ _ _ a1 a2 a3 with h | h
    · exact h
    · exact absurd h (nomod _)
  have fin : RepO Pr (γ ++ γ1) w' (.ret (v.mapN (· + ps.length))) (.returned cv) := .ret (((h1.flat (Pr' := Pr) (w' := w') hvf)).mapN (f := (· + ps.length)) fun k g hk => by
    rw [List.getElem?_append_right (by omega), hγ, show k + ps.length - ps.length = k by omega]; exact hk)
  refine ⟨_, ps.map poolO ++ st1, γ ++ γ1, Pr, C, fin, ⟨v, st1, h2, rfl, rfl⟩, ⟨by simp [hγ, S1.len], fun j p q a1 a2 a3 => ?_, fun j j' p p' q q' a1 a1' a2 a2' a3 a3' he => ?_, fun b n hb => Nat.lt_of_lt_of_le (hst.low b n hb) B1.size, hst.laid.keep (γ := []) (γ' := []) ⟨fun _ _ h => h, hcell, fun _ _ h => h⟩⟩, fun j p q a1 a2 a3 => ?_,
    ⟨fun b hb => Nat.lt_of_lt_of_le (hext.clow b hb) B1.size, fun j p q a1 a2 a3 hc => ?_, hext.prC, fun j p q a1 a2 a3 => ?_, fun j j' p p' q q' a1 a1' a2 a2' a3 a3' he => ?_, fun j p q a1 a2 a3 => ?_, fun j p q a1 a2 a3 => ?_, fun j j' p p' a1 a1' a3 a3' => ?_, ⟨[], rfl, by simp, by simp⟩, fun l hl => (by cases hl), ?_⟩,
    ⟨B1.os, B1.tape, B1.output, B1.size, fun b h1 h2 h3 => hold b h1, fun _ _ h => h, fun _ _ h => .inl h, fun k g hk => by rw [List.getElem?_append_left (List.getElem?_eq_some_iff.1 hk).1]; exact hk, hcell, fun _ h => h, fun _ h => .inl h⟩⟩
  · obtain ⟨b1, b2, b3, b4, b5, b6⟩ := own1 a1 (own_iff.2 (.inl a3))
    exact (S1.obj _ p q b2 (getg b1 a2) a3).unlend b5 b6 hs1
  · obtain ⟨b1, b2, _⟩ := own1 a1 (own_iff.2 (.inl a3))
    obtain ⟨b1', b2', _⟩ := own1 a1' (own_iff.2 (.inl a3'))
    have := S1.one _ _ p p' q q' b2 b2' (getg b1 a2) (getg b1' a2') a3 a3' he
    omega
  · obtain ⟨b1, b2, _⟩ := own1 a1 (own_iff.2 (.inl a3))
    exact .inl (mine1 b2 (getg b1 a2) a3)
  · obtain ⟨b1, b2, b3, _⟩ := own1 a1 a3
    have := mine1 b2 (getg b1 a2) b3
    have := hext.clow _ hc
    omega
  · rcases kinds a1 with h | h <;> rw [a3] at h <;> cases h
  · rcases kinds a1 with h | h <;> rw [a3] at h <;> cases h
  · rcases kinds a1 with h | h <;> rw [a3] at h <;> cases h
  · rcases kinds a1 with h | h <;> rw [a3] at h <;> cases h
  · rcases kinds a1 with h | h <;> rw [a3] at h <;> cases h
  · have oldl : ∀ {j : Nat} {p : O} {x : List V}, (ps.map poolO)[j]? = some p → p.kind = .pool → x ∈ p.es → labOf x < w.heap.size := fun a1 a2 a3 => Q.lt ⟨_, _, _, a1, a2, a3, rfl⟩
    have flat1 : ∀ {j : Nat} {p : O}, st1[j]? = some p → p.kind = .pool → p.box = false ∧ ∀ e ∈ p.es, ∀ r ∈ rowsOf e, ∀ x ∈ r, x.flat = true := by
      intro j p a1 a2
      obtain ⟨b1, ⟨b2, b3⟩ | ⟨b2, b3, b4⟩⟩ := hO p (List.mem_of_getElem? a1)
      · have := live_kind S1 a1 b2; rw [a2] at this; cases this
      · exact ⟨b1, b4⟩
    refine ⟨fun j p a1 a2 x hx => ?_, fun j p x a1 a2 hx => ?_, fun j j' p p' i i' x x' a1 a1' a2 a2' hx hx' hl => ?_, fun j j' p p' q x a1 a2 hx a1' a2' hl hq => ?_, fun j p a1 a2 => ?_⟩
    · rcases get a1 with ⟨_, b2, _⟩ | ⟨b1, b2⟩
      · have hE := Q.ent j p b2 a2 x hx
        exact hE.move (hold _ (oldl b2 a2 hx)) (fun _ _ h => h) hcell hE.lab.2
      · exact (Q1.ent _ p b2 a2 x hx).unlend ((flat1 b2 a2).2 x hx) hs1
    · rcases get a1 with ⟨_, b2, _⟩ | ⟨b1, b2⟩
      · exact Q.free j p x b2 a2 hx
      · have := new1 b2 a2 hx
        exact ⟨fun hc => by have := hext.clow _ hc; omega, .inl this⟩
    · rcases get a1 with ⟨_, b2, _⟩ | ⟨b1, b2⟩ <;> rcases get a1' with ⟨_, c2, _⟩ | ⟨c1, c2⟩
      · exact Q.one j j' p p' i i' x x' b2 c2 a2 a2' hx hx' hl
      · have := oldl b2 a2 (List.mem_of_getElem? hx); have := new1 c2 a2' (List.mem_of_getElem? hx'); omega
      · have := oldl c2 a2' (List.mem_of_getElem? hx'); have := new1 b2 a2 (List.mem_of_getElem? hx); omega
      · obtain ⟨d1, d2⟩ := Q1.one _ _ p p' i i' x x' b2 c2 a2 a2' hx hx' hl
        exact ⟨by omega, d2⟩
    · obtain ⟨d1, d2, _⟩ := own1 a1' (own_iff.2 (.inl hl))
      rcases get a1 with ⟨_, b2, _⟩ | ⟨b1, b2⟩
      · have := oldl b2 a2 hx
        have := mine1 d2 (getg d1 a2') hl
        omega
      · exact Q1.sep _ _ p p' q x b2 a2 hx d2 (getg d1 a2') hl hq
    · rcases get a1 with ⟨_, b2, _⟩ | ⟨b1, b2⟩
      · exact Q.bx j p b2 a2
      · exact (flat1 b2 a2).1

end Go.Cod

/-! Contracts: a pool's blocks that are no longer looked at. -/
namespace Go.Cod
open Go
variable [Lam]

variable {P : Program} {ok : OkY}

theorem Full.shrink {f : FuncId} {args : List V} {st0 : St} {R R' : Out → St → Prop} (h : Full P ok f args st0 R)
    (hR : ∀ o st', R o st' → ∃ es es2, st' = [poolO es] ∧ (∀ e ∈ es2, e ∈ es) ∧ (es2.map labOf).Nodup ∧ R' o [poolO es2]) : Full P ok f args st0 R' := by
  refine ⟨h.1, fun E C Pr γ w cargs hr hst hext => (h.2 E C Pr γ w cargs hr hst hext).mono fun e w' hh => ?_⟩
  obtain ⟨o, st', γ', Pr', C', h1, h2, S, M, X, B⟩ := hh
  obtain ⟨es, es2, rfl, hm, hn, hR'⟩ := hR o st' h2
  have get : ∀ {k : Nat} {o : O}, [poolO es2][k]? = some o → k = 0 ∧ o = poolO es2 := by
    intro k o hk
    match k, hk with
    | 0, hk => simp at hk; exact ⟨rfl, hk.symm⟩
  have Q := X.pools
  refine ⟨o, [poolO es2], γ', Pr', C', h1, hR', ⟨S.len, fun k o g a1 a2 a3 => ?_, fun k k' o o' g g' a1 _ _ _ a3 => ?_, S.low, S.laid⟩, fun k o g a1 a2 a3 => ?_, ⟨X.clow, fun k o g a1 a2 a3 => ?_, X.prC, fun k o g a1 a2 a3 => ?_, fun k k' o o' g g' a1 _ _ _ a3 => ?_, fun k o g a1 a2 a3 => ?_, fun k o g a1 a2 a3 => ?_, fun k k' o o' a1 _ a3 => ?_, X.marks, X.round, ?_⟩, B⟩
  · obtain ⟨rfl, rfl⟩ := get a1; cases a3
  · obtain ⟨rfl, rfl⟩ := get a1; cases a3
  · obtain ⟨rfl, rfl⟩ := get a1; cases a3
  · obtain ⟨rfl, rfl⟩ := get a1; cases a3
  · obtain ⟨rfl, rfl⟩ := get a1; cases a3
  · obtain ⟨rfl, rfl⟩ := get a1; cases a3
  · obtain ⟨rfl, rfl⟩ := get a1; cases a3
  · obtain ⟨rfl, rfl⟩ := get a1; cases a3
  · obtain ⟨rfl, rfl⟩ := get a1; cases a3
  · refine ⟨fun k o a1 a2 e he => ?_, fun k o e a1 a2 he => ?_, fun k k' o o' i i' e e' a1 a1' a2 a2' hi hi' hl => ?_, fun k k' o o' g e a1 a2 he a1' _ hl => ?_, fun k o a1 a2 => ?_⟩
    · obtain ⟨rfl, rfl⟩ := get a1; exact Q.ent 0 _ rfl rfl e (hm e he)
    · obtain ⟨rfl, rfl⟩ := get a1; exact Q.free 0 _ e rfl rfl (hm e he)
    · obtain ⟨rfl, rfl⟩ := get a1
      obtain ⟨rfl, rfl⟩ := get a1'
      refine ⟨rfl, ?_⟩
      simp only [poolO] at hi hi'
      have hi1 : (es2.map labOf)[i]? = some (labOf e) := by rw [List.getElem?_map, hi]; rfl
      have hi2 : (es2.map labOf)[i']? = some (labOf e) := by rw [List.getElem?_map, hi', hl]; rfl
      exact (List.getElem?_inj (by simpa using (List.getElem?_eq_some_iff.1 hi).1) hn).1 (hi1.trans hi2.symm)
    · obtain ⟨rfl, rfl⟩ := get a1'; cases hl
    · obtain ⟨rfl, rfl⟩ := get a1; rfl
end Go.Cod

namespace Go.Cod
open Go Go.Proofs
instance lam0 : Lam := ⟨fun _ => none⟩
theorem laid0 {Pr : Nat → Nat → Prop} {w : World} : Laid Pr w := fun g cs h => by cases h

def tauL : List (Nat × TI) := [
  (1, ⟨.other, 1, 8, .raw .nilFunc, [], []⟩),
  (2, ⟨.int .i64, 1, 8, .int .i64 0, [], []⟩),
  (3, ⟨.int .i64, 1, 8, .int .i64 0, [], []⟩),
  (4, ⟨.bool, 1, 1, .bool false, [], []⟩),
  (5, ⟨.int .u8, 1, 1, .int .u8 0, [], []⟩),
  (6, ⟨.int .u8, 1, 1, .int .u8 0, [], []⟩),
  (7, ⟨.agg, 4, 24, .agg [.int .i64 0, .int .i64 0, .bool false, .int .u8 0], [(0, 1, false), (1, 1, false), (2, 1, false), (3, 1, false)], []⟩),
  (8, ⟨.agg, 4, 24, .agg [.int .i64 0, .int .i64 0, .bool false, .int .u8 0], [(0, 1, false), (1, 1, false), (2, 1, false), (3, 1, false)], []⟩),
  (9, ⟨.str, 1, 16, .str [], [], []⟩),
  (10, ⟨.str, 1, 16, .str [], [], []⟩),
  (11, ⟨.str, 1, 16, .str [], [], []⟩),
  (12, ⟨.int .u64, 1, 8, .int .u64 0, [], []⟩),
  (13, ⟨.agg, 2, 24, .agg [.str [], .int .u64 0], [(0, 1, false), (1, 1, false)], []⟩),
  (14, ⟨.agg, 2, 24, .agg [.str [], .int .u64 0], [(0, 1, false), (1, 1, false)], []⟩),
  (15, ⟨.ptr, 1, 8, .raw (.pointer none), [], []⟩),
  (16, ⟨.ptr, 1, 8, .raw (.pointer none), [], []⟩),
  (17, ⟨.ptr, 1, 8, .raw (.pointer none), [], []⟩),
  (18, ⟨.agg, 1, 8, .agg [.raw (.pointer none)], [(0, 1, false)], []⟩),
  (19, ⟨.agg, 1, 8, .agg [.raw (.pointer none)], [(0, 1, false)], []⟩),
  (20, ⟨.iface, 1, 16, .raw .nilIface, [], []⟩),
  (21, ⟨.int .i32, 1, 4, .int .i32 0, [], []⟩),
  (22, ⟨.slice 5, 1, 24, .nils, [], []⟩),
  (23, ⟨.slice 25, 1, 24, .nils, [], []⟩),
  (24, ⟨.agg, 4, 64, .agg [.int .i64 0, .str [], .str [], .nils], [(0, 1, false), (1, 1, false), (2, 1, false), (3, 1, false)], []⟩),
  (25, ⟨.agg, 4, 64, .agg [.int .i64 0, .str [], .str [], .nils], [(0, 1, false), (1, 1, false), (2, 1, false), (3, 1, false)], []⟩),
  (26, ⟨.other, 1, 8, .raw .nilFunc, [], []⟩),
  (27, ⟨.slice 9, 1, 24, .nils, [], []⟩),
  (28, ⟨.other, 1, 8, .raw .nilFunc, [], []⟩),
  (29, ⟨.other, 1, 8, .raw .nilFunc, [], []⟩),
  (30, ⟨.other, 1, 8, .raw .nilFunc, [], []⟩),
  (31, ⟨.slice 3, 1, 24, .nils, [], []⟩),
  (32, ⟨.other, 1, 8, .raw .nilFunc, [], []⟩),
  (34, ⟨.other, 1, 8, .raw .nilFunc, [], []⟩),
  (35, ⟨.other, 1, 8, .raw .nilFunc, [], []⟩),
  (37, ⟨.other, 1, 8, .raw .nilFunc, [], []⟩),
  (38, ⟨.other, 1, 8, .raw .nilFunc, [], []⟩),
  (39, ⟨.other, 1, 8, .raw .nilFunc, [], []⟩),
  (40, ⟨.agg, 8, 104, .agg [.int .i64 0, .int .i64 0, .int .i64 0, .int .i64 0, .str [], .str [], .nils, .str []], [(0, 1, false), (1, 1, false), (2, 1, false), (3, 4, true), (7, 1, false)], []⟩),
  (41, ⟨.agg, 8, 104, .agg [.int .i64 0, .int .i64 0, .int .i64 0, .int .i64 0, .str [], .str [], .nils, .str []], [(0, 1, false), (1, 1, false), (2, 1, false), (3, 4, true), (7, 1, false)], []⟩),
  (42, ⟨.slice 44, 1, 24, .nils, [], []⟩),
  (43, ⟨.agg, 4, 64, .agg [.int .i64 0, .str [], .str [], .nils], [(0, 1, false), (1, 1, false), (2, 1, false), (3, 1, false)], []⟩),
  (44, ⟨.agg, 4, 64, .agg [.int .i64 0, .str [], .str [], .nils], [(0, 1, false), (1, 1, false), (2, 1, false), (3, 1, false)], []⟩),
  (45, ⟨.other, 1, 8, .raw .nilFunc, [], []⟩),
  (46, ⟨.other, 1, 8, .raw .nilFunc, [], []⟩),
  (47, ⟨.other, 1, 8, .raw .nilFunc, [], []⟩),
  (48, ⟨.other, 1, 8, .raw .nilFunc, [], []⟩),
  (49, ⟨.other, 1, 8, .raw .nilFunc, [], []⟩),
  (50, ⟨.other, 1, 8, .raw .nilFunc, [], []⟩),
  (52, ⟨.other, 1, 8, .raw .nilFunc, [], []⟩),
  (53, ⟨.other, 1, 8, .raw .nilFunc, [], []⟩),
  (54, ⟨.other, 1, 8, .raw .nilFunc, [], []⟩),
  (55, ⟨.other, 1, 8, .raw .nilFunc, [], []⟩),
  (56, ⟨.other, 1, 8, .raw .nilFunc, [], []⟩),
  (57, ⟨.other, 1, 8, .raw .nilFunc, [], []⟩),
  (58, ⟨.ptr, 1, 8, .raw (.pointer none), [], [("loop.example/codicil/spec.of", 49), ("loop.example/codicil/spec.pick", 69)]⟩),
  (59, ⟨.other, 1, 8, .raw .nilFunc, [], []⟩),
  (60, ⟨.other, 1, 8, .raw .nilFunc, [], []⟩),
  (61, ⟨.other, 1, 8, .raw .nilFunc, [], []⟩),
  (62, ⟨.map 3 4, 1, 8, .raw (.map none), [], []⟩),
  (63, ⟨.other, 1, 8, .raw .nilFunc, [], []⟩),
  (64, ⟨.other, 1, 8, .raw .nilFunc, [], []⟩),
  (65, ⟨.other, 1, 8, .raw .nilFunc, [], []⟩),
  (66, ⟨.agg, 6, 80, .agg [.int .i64 0, .str [], .str [], .nils, .int .i64 0, .int .i64 0], [(0, 4, true), (4, 1, false), (5, 1, false)], []⟩),
  (67, ⟨.agg, 6, 80, .agg [.int .i64 0, .str [], .str [], .nils, .int .i64 0, .int .i64 0], [(0, 4, true), (4, 1, false), (5, 1, false)], []⟩),
  (68, ⟨.other, 1, 8, .raw .nilFunc, [], []⟩),
  (69, ⟨.other, 1, 8, .raw .nilFunc, [], []⟩),
  (71, ⟨.other, 1, 8, .raw .nilFunc, [], []⟩),
  (72, ⟨.other, 1, 8, .raw .nilFunc, [], []⟩),
  (73, ⟨.other, 1, 8, .raw .nilFunc, [], []⟩),
  (74, ⟨.other, 1, 8, .raw .nilFunc, [], []⟩),
  (75, ⟨.iface, 1, 16, .raw .nilIface, [], []⟩),
  (76, ⟨.iface, 1, 16, .raw .nilIface, [], []⟩),
  (78, ⟨.other, 1, 8, .raw .nilFunc, [], []⟩),
  (79, ⟨.other, 1, 8, .raw .nilFunc, [], []⟩),
  (80, ⟨.other, 1, 8, .raw .nilFunc, [], []⟩),
  (81, ⟨.other, 1, 8, .raw .nilFunc, [], []⟩),
  (82, ⟨.other, 1, 8, .raw .nilFunc, [], []⟩),
  (83, ⟨.other, 1, 8, .raw .nilFunc, [], []⟩),
  (84, ⟨.other, 1, 8, .raw .nilFunc, [], []⟩),
  (85, ⟨.other, 1, 8, .raw .nilFunc, [], []⟩),
  (86, ⟨.other, 1, 8, .raw .nilFunc, [], []⟩),
  (87, ⟨.other, 1, 8, .raw .nilFunc, [], []⟩),
  (88, ⟨.other, 1, 8, .raw .nilFunc, [], []⟩),
  (89, ⟨.other, 1, 8, .raw .nilFunc, [], []⟩),
  (90, ⟨.other, 1, 8, .raw .nilFunc, [], []⟩),
  (91, ⟨.other, 1, 8, .raw .nilFunc, [], []⟩),
  (92, ⟨.other, 1, 8, .raw .nilFunc, [], []⟩),
  (93, ⟨.ptr, 1, 8, .raw (.pointer none), [], []⟩),
  (94, ⟨.other, 1, 8, .raw .nilFunc, [], []⟩),
  (95, ⟨.slice 133, 1, 24, .nils, [], []⟩),
  (96, ⟨.other, 1, 8, .raw .nilFunc, [], []⟩),
  (97, ⟨.slice 31, 1, 24, .nils, [], []⟩),
  (98, ⟨.other, 1, 8, .raw .nilFunc, [], []⟩),
  (99, ⟨.other, 1, 8, .raw .nilFunc, [], []⟩),
  (100, ⟨.agg, 2, 32, .agg [.nils, .int .i64 0], [(0, 1, false), (1, 1, false)], []⟩),
  (101, ⟨.agg, 2, 32, .agg [.nils, .int .i64 0], [(0, 1, false), (1, 1, false)], []⟩),
  (102, ⟨.other, 1, 8, .raw .nilFunc, [], []⟩),
  (103, ⟨.other, 1, 8, .raw .nilFunc, [], []⟩),
  (104, ⟨.other, 1, 8, .raw .nilFunc, [], []⟩),
  (106, ⟨.other, 1, 8, .raw .nilFunc, [], []⟩),
  (107, ⟨.other, 1, 8, .raw .nilFunc, [], []⟩),
  (108, ⟨.other, 1, 8, .raw .nilFunc, [], []⟩),
  (109, ⟨.other, 1, 8, .raw .nilFunc, [], []⟩),
  (110, ⟨.other, 1, 8, .raw .nilFunc, [], []⟩),
  (111, ⟨.other, 1, 8, .raw .nilFunc, [], []⟩),
  (113, ⟨.agg, 6, 80, .agg [.int .i64 0, .int .i64 0, .int .i64 0, .str [], .str [], .nils], [(0, 1, false), (1, 1, false), (2, 4, true)], []⟩),
  (114, ⟨.agg, 6, 80, .agg [.int .i64 0, .int .i64 0, .int .i64 0, .str [], .str [], .nils], [(0, 1, false), (1, 1, false), (2, 4, true)], [("loop.example/codicil/impl.do", 140), ("loop.example/codicil/impl.undo", 141)]⟩),
  (115, ⟨.agg, 1, 8, .agg [.int .i64 0], [(0, 1, false)], []⟩),
  (116, ⟨.agg, 1, 8, .agg [.int .i64 0], [(0, 1, false)], [("loop.example/codicil/impl.do", 148), ("loop.example/codicil/impl.undo", 149)]⟩),
  (117, ⟨.other, 1, 8, .raw .nilFunc, [], []⟩),
  (118, ⟨.agg, 2, 24, .agg [.int .i64 0, .str []], [(0, 1, false), (1, 1, false)], []⟩),
  (119, ⟨.agg, 2, 24, .agg [.int .i64 0, .str []], [(0, 1, false), (1, 1, false)], [("loop.example/codicil/impl.do", 154), ("loop.example/codicil/impl.undo", 155)]⟩),
  (120, ⟨.agg, 2, 24, .agg [.int .i64 0, .str []], [(0, 1, false), (1, 1, false)], []⟩),
  (121, ⟨.agg, 2, 24, .agg [.int .i64 0, .str []], [(0, 1, false), (1, 1, false)], [("loop.example/codicil/impl.do", 156), ("loop.example/codicil/impl.undo", 157)]⟩),
  (122, ⟨.other, 1, 8, .raw .nilFunc, [], []⟩),
  (123, ⟨.other, 1, 8, .raw .nilFunc, [], []⟩),
  (124, ⟨.ptr, 1, 8, .raw (.pointer none), [], []⟩),
  (125, ⟨.other, 1, 8, .raw .nilFunc, [], []⟩),
  (126, ⟨.other, 1, 8, .raw .nilFunc, [], []⟩),
  (127, ⟨.slice 149, 1, 24, .nils, [], []⟩),
  (128, ⟨.agg, 2, 40, .agg [.str [], .nils], [(0, 1, false), (1, 1, false)], []⟩),
  (129, ⟨.agg, 2, 40, .agg [.str [], .nils], [(0, 1, false), (1, 1, false)], []⟩),
  (130, ⟨.other, 1, 8, .raw .nilFunc, [], []⟩),
  (131, ⟨.other, 1, 8, .raw .nilFunc, [], []⟩),
  (132, ⟨.agg, 3, 40, .agg [.str [], .str [], .int .i64 0], [(0, 1, false), (1, 1, false), (2, 1, false)], []⟩),
  (133, ⟨.agg, 3, 40, .agg [.str [], .str [], .int .i64 0], [(0, 1, false), (1, 1, false), (2, 1, false)], []⟩),
  (134, ⟨.other, 1, 8, .raw .nilFunc, [], []⟩),
  (135, ⟨.other, 1, 8, .raw .nilFunc, [], []⟩),
  (136, ⟨.other, 1, 8, .raw .nilFunc, [], []⟩),
  (137, ⟨.map 3 9, 1, 8, .raw (.map none), [], []⟩),
  (138, ⟨.map 9 3, 1, 8, .raw (.map none), [], []⟩),
  (139, ⟨.other, 1, 8, .raw .nilFunc, [], []⟩),
  (140, ⟨.other, 1, 8, .raw .nilFunc, [], []⟩),
  (141, ⟨.other, 1, 8, .raw .nilFunc, [], []⟩),
  (142, ⟨.other, 1, 8, .raw .nilFunc, [], []⟩),
  (143, ⟨.other, 1, 8, .raw .nilFunc, [], []⟩),
  (144, ⟨.other, 1, 8, .raw .nilFunc, [], []⟩),
  (145, ⟨.agg, 3, 24, .agg [.str [], .bool false, .bool false], [(0, 1, false), (1, 1, false), (2, 1, false)], []⟩),
  (146, ⟨.agg, 3, 24, .agg [.str [], .bool false, .bool false], [(0, 1, false), (1, 1, false), (2, 1, false)], []⟩),
  (147, ⟨.slice 146, 1, 24, .nils, [], []⟩),
  (148, ⟨.agg, 3, 48, .agg [.str [], .bool false, .nils], [(0, 1, false), (1, 1, false), (2, 1, false)], []⟩),
  (149, ⟨.agg, 3, 48, .agg [.str [], .bool false, .nils], [(0, 1, false), (1, 1, false), (2, 1, false)], []⟩),
  (150, ⟨.other, 1, 8, .raw .nilFunc, [], []⟩),
  (151, ⟨.other, 1, 8, .raw .nilFunc, [], []⟩),
  (152, ⟨.other, 1, 8, .raw .nilFunc, [], []⟩),
  (153, ⟨.agg, 24, 24, .agg [.int .u8 0, .int .u8 0, .int .u8 0, .int .u8 0, .int .u8 0, .int .u8 0, .int .u8 0, .int .u8 0, .int .u8 0, .int .u8 0, .int .u8 0, .int .u8 0, .int .u8 0, .int .u8 0, .int .u8 0, .int .u8 0, .int .u8 0, .int .u8 0, .int .u8 0, .int .u8 0, .int .u8 0, .int .u8 0, .int .u8 0, .int .u8 0], [], []⟩),
  (154, ⟨.int .u64, 1, 8, .int .u64 0, [], []⟩),
  (155, ⟨.other, 1, 8, .raw .nilFunc, [], []⟩),
  (156, ⟨.other, 1, 8, .raw .nilFunc, [], []⟩),
  (158, ⟨.other, 1, 8, .raw .nilFunc, [], []⟩),
  (159, ⟨.other, 1, 8, .raw .nilFunc, [], []⟩),
  (160, ⟨.agg, 20, 160, .agg [.int .u64 0, .int .u64 0, .int .u64 0, .int .u64 0, .int .u64 0, .int .u64 0, .int .u64 0, .int .u64 0, .int .u64 0, .int .u64 0, .int .u64 0, .int .u64 0, .int .u64 0, .int .u64 0, .int .u64 0, .int .u64 0, .int .u64 0, .int .u64 0, .int .u64 0, .int .u64 0], [], []⟩),
  (161, ⟨.int .u32, 1, 4, .int .u32 0, [], []⟩),
  (162, ⟨.agg, 65, 65, .agg [.int .u8 0, .int .u8 0, .int .u8 0, .int .u8 0, .int .u8 0, .int .u8 0, .int .u8 0, .int .u8 0, .int .u8 0, .int .u8 0, .int .u8 0, .int .u8 0, .int .u8 0, .int .u8 0, .int .u8 0, .int .u8 0, .int .u8 0, .int .u8 0, .int .u8 0, .int .u8 0, .int .u8 0, .int .u8 0, .int .u8 0, .int .u8 0, .int .u8 0, .int .u8 0, .int .u8 0, .int .u8 0, .int .u8 0, .int .u8 0, .int .u8 0, .int .u8 0, .int .u8 0, .int .u8 0, .int .u8 0, .int .u8 0, .int .u8 0, .int .u8 0, .int .u8 0, .int .u8 0, .int .u8 0, .int .u8 0, .int .u8 0, .int .u8 0, .int .u8 0, .int .u8 0, .int .u8 0, .int .u8 0, .int .u8 0, .int .u8 0, .int .u8 0, .int .u8 0, .int .u8 0, .int .u8 0, .int .u8 0, .int .u8 0, .int .u8 0, .int .u8 0, .int .u8 0, .int .u8 0, .int .u8 0, .int .u8 0, .int .u8 0, .int .u8 0, .int .u8 0], [], []⟩),
  (163, ⟨.other, 1, 8, .raw .nilFunc, [], []⟩),
  (164, ⟨.int .u64, 1, 8, .int .u64 0, [], []⟩),
  (165, ⟨.other, 1, 8, .raw .nilFunc, [], []⟩),
  (166, ⟨.other, 1, 8, .raw .nilFunc, [], []⟩),
  (167, ⟨.agg, 32, 32, .agg [.int .u8 0, .int .u8 0, .int .u8 0, .int .u8 0, .int .u8 0, .int .u8 0, .int .u8 0, .int .u8 0, .int .u8 0, .int .u8 0, .int .u8 0, .int .u8 0, .int .u8 0, .int .u8 0, .int .u8 0, .int .u8 0, .int .u8 0, .int .u8 0, .int .u8 0, .int .u8 0, .int .u8 0, .int .u8 0, .int .u8 0, .int .u8 0, .int .u8 0, .int .u8 0, .int .u8 0, .int .u8 0, .int .u8 0, .int .u8 0, .int .u8 0, .int .u8 0], [], []⟩),
  (168, ⟨.agg, 64, 64, .agg [.int .u8 0, .int .u8 0, .int .u8 0, .int .u8 0, .int .u8 0, .int .u8 0, .int .u8 0, .int .u8 0, .int .u8 0, .int .u8 0, .int .u8 0, .int .u8 0, .int .u8 0, .int .u8 0, .int .u8 0, .int .u8 0, .int .u8 0, .int .u8 0, .int .u8 0, .int .u8 0, .int .u8 0, .int .u8 0, .int .u8 0, .int .u8 0, .int .u8 0, .int .u8 0, .int .u8 0, .int .u8 0, .int .u8 0, .int .u8 0, .int .u8 0, .int .u8 0, .int .u8 0, .int .u8 0, .int .u8 0, .int .u8 0, .int .u8 0, .int .u8 0, .int .u8 0, .int .u8 0, .int .u8 0, .int .u8 0, .int .u8 0, .int .u8 0, .int .u8 0, .int .u8 0, .int .u8 0, .int .u8 0, .int .u8 0, .int .u8 0, .int .u8 0, .int .u8 0, .int .u8 0, .int .u8 0, .int .u8 0, .int .u8 0, .int .u8 0, .int .u8 0, .int .u8 0, .int .u8 0, .int .u8 0, .int .u8 0, .int .u8 0, .int .u8 0], [], []⟩),
  (169, ⟨.other, 1, 8, .raw .nilFunc, [], []⟩),
  (170, ⟨.agg, 4, 40, .agg [.raw (.pointer none), .raw (.pointer none), .raw (.pointer none), .str []], [(0, 1, false), (1, 1, false), (2, 1, false), (3, 1, false)], []⟩),
  (171, ⟨.agg, 4, 40, .agg [.raw (.pointer none), .raw (.pointer none), .raw (.pointer none), .str []], [(0, 1, false), (1, 1, false), (2, 1, false), (3, 1, false)], []⟩),
  (175, ⟨.other, 1, 8, .raw .nilFunc, [], []⟩),
  (176, ⟨.int .u8, 1, 1, .int .u8 0, [], []⟩),
  (177, ⟨.int .u8, 1, 1, .int .u8 0, [], []⟩),
  (178, ⟨.other, 1, 8, .raw .nilFunc, [], []⟩),
  (179, ⟨.ptr, 1, 8, .raw (.pointer none), [], []⟩),
  (180, ⟨.int .i32, 1, 4, .int .i32 0, [], []⟩),
  (181, ⟨.int .i32, 1, 4, .int .i32 0, [], []⟩),
  (182, ⟨.agg, 11, 48, .agg [.int .u64 0, .int .u64 0, .int .u32 0, .int .u8 0, .int .u8 0, .int .u8 0, .int .u8 0, .raw .nilFunc, .raw (.pointer none), .int .i32 0, .int .i32 0], [(0, 1, false), (1, 1, false), (2, 1, false), (3, 1, false), (4, 1, false), (5, 1, false), (6, 1, false), (7, 1, false), (8, 1, false), (9, 1, false), (10, 1, false)], []⟩),
  (183, ⟨.agg, 11, 48, .agg [.int .u64 0, .int .u64 0, .int .u32 0, .int .u8 0, .int .u8 0, .int .u8 0, .int .u8 0, .raw .nilFunc, .raw (.pointer none), .int .i32 0, .int .i32 0], [(0, 1, false), (1, 1, false), (2, 1, false), (3, 1, false), (4, 1, false), (5, 1, false), (6, 1, false), (7, 1, false), (8, 1, false), (9, 1, false), (10, 1, false)], []⟩),
  (184, ⟨.other, 1, 8, .raw .nilFunc, [], []⟩),
  (185, ⟨.other, 1, 8, .raw .nilFunc, [], []⟩),
  (186, ⟨.other, 1, 8, .raw .nilFunc, [], []⟩),
  (187, ⟨.other, 1, 8, .raw .nilFunc, [], []⟩),
  (188, ⟨.other, 1, 8, .raw .nilFunc, [], []⟩),
  (189, ⟨.other, 1, 8, .raw .nilFunc, [], []⟩),
  (190, ⟨.other, 1, 8, .raw .nilFunc, [], []⟩)]
theorem good : TauGood Tryd.prog (tauOf tauL) := tauGood (by kernel_rfl) (by kernel_rfl) (by decide)
end Go.Cod

namespace Go.Cod
open Go Go.Proofs
set_option maxRecDepth 10000
theorem l1In_pure (a b c : Int) : Pure Tryd.prog 82 [.int .i64 a, .int .i64 b, .int .i64 c] (· = .bool (decide (b ≤ a ∧ a ≤ c))) := by
  refine pure_of_awp good Tryd.func82 rfl (by kernel_rfl) (by decide) ?_
  conv => whnf
  by_cases h1 : b ≤ a
  · rw [leB_t h1]
    conv => whnf
    simp [h1, leB_def]
  · rw [leB_f (by omega)]
    conv => whnf
    simp [h1]

def lowerB (c : UInt8) : Bool := decide (97 ≤ c.toNat ∧ c.toNat ≤ 122)
def lower (s : List UInt8) : Bool := s.all lowerB
def nameL (s : List UInt8) : Bool := lower s && decide (1 ≤ (s.length : Int) ∧ (s.length : Int) ≤ 8)
theorem take_all {p : UInt8 → Bool} {s : List UInt8} {i : Nat} (h : i < s.length) : (s.take (i + 1)).all p = ((s.take i).all p && p s[i]) := by
  rw [List.take_succ_eq_append_getElem h, List.all_append]; simp
theorem l2Name_pure (s : List UInt8) (hs : s.length ≤ 9223372036854775806) : Pure Tryd.prog 83 [.str s] (· = .bool (nameL s)) := by
  refine pure_of_awp good Tryd.func83 rfl (by kernel_rfl) (by decide) ?_
  conv => whnf
  refine loop_intro (fun n fr st => st = [] ∧ ∃ i : Nat, n + i = s.length ∧ lower (s.take i) = true ∧ Holds fr [(0, .str s), (3, .int .i64 i)]) s.length ⟨rfl, 0, rfl, rfl, rfl, rfl, trivial⟩ ?_
  rintro n fr st ⟨rfl, i, hi, hlow, hh⟩
  obtain ⟨fr, rfl⟩ := hh.split
  clear hh
  conv => whnf
  by_cases hlt : i < s.length
  · rw [ltB_t (by omega)]
    have hstep := take_all (p := lowerB) hlt
    conv => whnf
    refine ⟨by omega, s[i], by simp [hlt], ?_⟩
    conv => whnf
    by_cases h1 : (97 : Int) ≤ (s[i].toNat : Int)
    · rw [ltB_f (by omega)]
      conv => whnf
      refine ⟨by omega, s[i], by simp [hlt], ?_⟩
      conv => whnf
      by_cases h2 : (s[i].toNat : Int) ≤ 122
      · rw [ltB_f (by omega)]
        conv => whnf
        refine ⟨n - 1, by omega, rfl, i + 1, by omega, ?_, ?_⟩
        · unfold lower at *; rw [hstep, hlow]; simp [lowerB]; omega
        · refine ⟨rfl, ?_, trivial⟩
          show V.int .i64 (IntKind.i64.wrap (i + 1)) = _
          rw [wrap64 (by omega) (by omega)]; simp
      · rw [ltB_t (by omega)]
        conv => whnf
        have hf : lower s = false := by
          unfold lower
          rw [List.all_eq_false]
          exact ⟨s[i], List.getElem_mem _, by simp only [lowerB, decide_eq_true_eq]; omega⟩
        simp only [nameL, hf, Bool.false_and]
    · rw [ltB_t (by omega)]
      conv => whnf
      have hf : lower s = false := by
        unfold lower
        rw [List.all_eq_false]
        exact ⟨s[i], List.getElem_mem _, by simp only [lowerB, decide_eq_true_eq]; omega⟩
      simp only [nameL, hf, Bool.false_and]
  · rw [ltB_f (by omega)]
    conv => whnf
    refine .inl ((l1In_pure _ _ _).mono ?_)
    rintro r rfl
    conv => whnf
    have : s.take i = s := List.take_of_length_le (by omega)
    rw [this] at hlow
    simp [nameL, hlow]
end Go.Cod

namespace Go.Cod
open Go Go.Proofs Go.ChangeShapes Go.WideShapes Go.ChangeAt Go.RowKit
set_option maxRecDepth 10000

/-- A tree. -/
inductive T where
  | mk (id : Int) (kind text : List UInt8) (kids : List T)

mutual
def T.cells : T → List V
  | .mk id kind text kids => [.int .i64 id, .str kind, .str text, .sl (T.rows kids)]
def T.rows : List T → List (List V)
  | [] => []
  | t :: ts => t.cells :: T.rows ts
end
theorem T.rows_eq (ts : List T) : T.rows ts = ts.map T.cells := by
  induction ts with
  | nil => rfl
  | cons t ts ih => simp [T.rows, ih]

/-- What a number, a text and a list may be at most. -/
inductive T.Ok : T → Prop
  | mk {id kind text kids} (h1 : -9223372036854775808 ≤ id ∧ id ≤ 9223372036854775807) (h2 : kind.length ≤ maxLen) (h3 : text.length ≤ maxLen) (h4 : kids.length ≤ maxLen) (h5 : ∀ t ∈ kids, T.Ok t) : T.Ok (.mk id kind text kids)

theorem map_of_forall {α β : Type} {f : α → β} {p : α → Prop} : ∀ {es : List β}, (∀ e ∈ es, ∃ a, e = f a ∧ p a) → ∃ xs : List α, es = xs.map f ∧ ∀ a ∈ xs, p a
  | [], _ => ⟨[], rfl, by simp⟩
  | e :: es, h => by
    obtain ⟨a, rfl, hp⟩ := h e (by simp)
    obtain ⟨xs, rfl, hq⟩ := map_of_forall (es := es) fun e he => h e (by simp [he])
    exact ⟨a :: xs, rfl, by simpa using ⟨hp, hq⟩⟩

theorem kids : Kids Tryd.prog (· < Tryd.prog.types.size) := kids_rows (by kernel_rfl) (by kernel_rfl)
theorem full : ∀ t e, t < Tryd.prog.types.size → Tryd.prog.underlying t = some (.slice e) → 0 < Tryd.prog.cellsOf e := slices_full_of Tryd.prog (by kernel_rfl)

def SF4 (id : Int) (a b : List UInt8) (c : V) : List V := [.int .i64 id, .str a, .str b, c]

theorem reads_tree {H : Type} {enc : TypeId × Value → H} {w : World} : ∀ n : Nat, Reads enc Tryd.prog w n 44 fun vs => ∃ t : T, vs = t.cells ∧ t.Ok := by
  intro n
  induction n using Nat.strongRecOn with
  | ind n ih =>
    have hS := reads_struct (enc := enc) (P := Tryd.prog) (w := w) (n := n) (t := 44)
      (Ss := [fun vs => ∃ i, vs = [.int .i64 i] ∧ IntKind.i64.min ≤ i ∧ i ≤ IntKind.i64.max, fun vs => ∃ s, vs = [.str s] ∧ s.length ≤ maxLen, fun vs => ∃ s, vs = [.str s] ∧ s.length ≤ maxLen,
        fun vs => ∃ es, vs = [.sl es] ∧ es.length ≤ maxLen ∧ ∀ r ∈ es, (∃ t : T, r = t.cells ∧ t.Ok) ∧ r.length = Tryd.prog.cellsOf 44 ∧ (∀ v ∈ r, v.leaf = true) ∧ V.clean.cleanL 0 r = true])
      kids (by decide +kernel) Tryd.underlying44 rfl ?_
    · intro cs x h
      obtain ⟨vs, ⟨_, _, rfl, ⟨i, rfl, hi⟩, _, _, rfl, ⟨s, rfl, hs⟩, _, _, rfl, ⟨s', rfl, hs'⟩, _, _, rfl, ⟨es, rfl, hes, hr⟩, rfl⟩, h2⟩ := hS cs x h
      obtain ⟨ts, rfl, hts⟩ := map_of_forall (f := T.cells) (p := T.Ok) fun e he => (hr e he).1
      refine ⟨_, ⟨.mk i s s' ts, ?_, .mk hi hs hs' (by simpa using hes) hts⟩, h2⟩
      simp [T.cells, T.rows_eq]
    · intro m hm j f S h1 h2
      match j with
      | 0 => simp at h1 h2; subst h1 h2; exact reads_int Tryd.underlying3
      | 1 => simp at h1 h2; subst h1 h2; exact reads_str Tryd.underlying9
      | 2 => simp at h1 h2; subst h1 h2; exact reads_str Tryd.underlying9
      | 3 => simp at h1 h2; subst h1 h2; exact reads_slice Tryd.underlying42 (by decide +kernel) fun m' hm' => ih m' (by omega)
      | j + 4 => simp at h1

end Go.Cod

namespace Go.Cod
open Go Go.Proofs
set_option maxRecDepth 10000

def T.kids : T → List T
  | .mk _ _ _ kids => kids
mutual
def szT : T → Int → Int
  | .mk _ kind text kids, left =>
    if left - kind.length < 0 then -1 else
    if left - kind.length - text.length < 0 then -1 else
    let l := if left - kind.length - text.length - kids.length < 0 then -1 else szGo kids (left - kind.length - text.length - kids.length)
    if l < 0 then -1 else l
def szGo : List T → Int → Int
  | [], l => l
  | t :: ts, l => if szT t l < 0 then -1 else szGo ts (szT t l)
end
def szL (ts : List T) (left : Int) : Int := if left - ts.length < 0 then -1 else szGo ts (left - ts.length)

mutual
theorem szT_le : ∀ (t : T) (left : Int), 0 ≤ left → szT t left ≤ left ∧ -1 ≤ szT t left
  | .mk id kind text kids, left, h => by
    simp only [szT]
    have := szGo_le kids (left - kind.length - text.length - kids.length)
    split
    · omega
    split
    · omega
    split
    · simp; omega
    · split <;> omega
theorem szGo_le : ∀ (ts : List T) (left : Int), 0 ≤ left → szGo ts left ≤ left ∧ -1 ≤ szGo ts left
  | [], left, h => by simp [szGo]; omega
  | t :: ts, left, h => by
    simp only [szGo]
    have := szT_le t left h
    split
    · omega
    · have := szGo_le ts (szT t left) (by omega)
      omega
end
theorem szL_le (ts : List T) (left : Int) (h : 0 ≤ left) : szL ts left ≤ left ∧ -1 ≤ szL ts left := by
  unfold szL
  split
  · omega
  · have := szGo_le ts (left - ts.length) (by omega)
    omega

theorem szT_pure1 (t : T) (ht : t.Ok) (left : Int) (h0 : 0 ≤ left) (h1 : left ≤ 4611686018427387904)
    (hL : ∀ left : Int, 0 ≤ left → left ≤ 4611686018427387904 → Pure Tryd.prog 55 [.sl (T.rows t.kids), .int .i64 left] (· = .int .i64 (szL t.kids left))) :
    Pure Tryd.prog 22 [.agg t.cells, .int .i64 left] (· = .int .i64 (szT t left)) := by
  cases ht with
  | @mk id kind text kids g1 g2 g3 g4 g5 =>
  simp only [maxLen] at g2 g3 g4
  refine pure_of_awp good Tryd.func22 rfl (by kernel_rfl) (by decide) ?_
  conv => whnf
  rw [wrap64 (by omega) (by omega)]
  by_cases a1 : left - kind.length < 0
  · rw [ltB_t (by omega)]
    conv => whnf
    simp [szT, a1]
  rw [ltB_f (by omega)]
  conv => whnf
  rw [wrap64 (by omega) (by omega)]
  by_cases a2 : left - kind.length - text.length < 0
  · rw [ltB_t (by omega)]
    conv => whnf
    simp [szT, a1, a2]
  rw [ltB_f (by omega)]
  conv => whnf
  refine .inl ((hL (left - kind.length - text.length) (by omega) (by omega)).mono ?_)
  rintro r rfl
  simp only [T.kids]
  have hb := szL_le kids (left - kind.length - text.length) (by omega)
  have he : szT (.mk id kind text kids) left = if szL kids (left - kind.length - text.length) < 0 then -1 else szL kids (left - kind.length - text.length) := by
    simp only [szT, szL, if_neg a1, if_neg a2]
    rfl
  conv => whnf
  by_cases a3 : szL kids (left - kind.length - text.length) < 0
  · rw [ltB_t (by omega)]
    conv => whnf
    rw [he, if_pos a3]
  rw [ltB_f (by omega)]
  conv => whnf
  rw [he, if_neg a3]

theorem rows_get (ts : List T) (i : Nat) (h : i < ts.length) : (T.rows ts)[i]? = some ts[i].cells := by
  rw [T.rows_eq]; simp [h]
theorem rows_len (ts : List T) : (T.rows ts).length = ts.length := by rw [T.rows_eq]; simp
theorem cells_len (t : T) : t.cells.length = 4 := by cases t; rfl

theorem szGo_drop (ts : List T) (i : Nat) (h : i < ts.length) (l : Int) : szGo (ts.drop i) l = if szT ts[i] l < 0 then -1 else szGo (ts.drop (i + 1)) (szT ts[i] l) := by
  rw [List.drop_eq_getElem_cons h]; simp [szGo]

theorem szL_pure1 (ts : List T) (hl : ts.length ≤ 9223372036854775807) (left : Int) (h0 : 0 ≤ left) (h1 : left ≤ 4611686018427387904)
    (hT : ∀ t ∈ ts, ∀ left : Int, 0 ≤ left → left ≤ 4611686018427387904 → Pure Tryd.prog 22 [.agg t.cells, .int .i64 left] (· = .int .i64 (szT t left))) :
    Pure Tryd.prog 55 [.sl (T.rows ts), .int .i64 left] (· = .int .i64 (szL ts left)) := by
  have hlr := rows_len ts
  refine pure_of_awp good Tryd.func55 rfl (by kernel_rfl) (by decide) ?_
  conv => whnf
  rw [wrap64 (by omega) (by omega)]
  by_cases a1 : left - ts.length < 0
  · rw [ltB_t (by omega)]
    conv => whnf
    simp [szL, a1]
  rw [ltB_f (by omega)]
  conv => whnf
  refine loop_intro (fun n fr st => st = [] ∧ ∃ (i : Nat) (l : Int), n + i = ts.length ∧ 0 ≤ l ∧ l ≤ 4611686018427387904 ∧ szL ts left = szGo (ts.drop i) l ∧ Holds fr [(0, .sl (T.rows ts)), (1, .int .i64 l), (5, .int .i64 i)]) ts.length
    ⟨rfl, 0, left - (T.rows ts).length, by simp, by omega, by omega, by simp [szL, hlr, a1], rfl, rfl, rfl, trivial⟩ ?_
  rintro n fr st ⟨rfl, i, l, hi, b0, b1, hsz, hh⟩
  obtain ⟨fr, rfl⟩ := hh.split
  clear hh
  conv => whnf
  by_cases hlt : i < ts.length
  · rw [ltB_t (by omega)]
    conv => whnf
    refine ⟨by omega, T.rows ts, ts[i].cells, 4, rfl, rows_get ts i hlt, rfl, cells_len _, ?_⟩
    have hc := hT ts[i] (List.getElem_mem _) l b0 b1
    have hb := szT_le ts[i] l b0
    rw [szGo_drop ts i hlt] at hsz
    generalize hg : ts[i] = t at hc hb hsz ⊢
    cases t with
    | mk id kind text kids =>
    conv => whnf
    refine .inl (hc.mono ?_)
    rintro r rfl
    conv => whnf
    by_cases a3 : szT (.mk id kind text kids) l < 0
    · rw [ltB_t (by omega)]
      conv => whnf
      rw [hsz, if_pos a3]
    rw [ltB_f (by omega)]
    conv => whnf
    refine ⟨n - 1, by omega, rfl, i + 1, szT (.mk id kind text kids) l, by omega, by omega, by omega, ?_, rfl, rfl, ?_, trivial⟩
    · rw [hsz, if_neg a3]
    · show V.int .i64 (IntKind.i64.wrap (i + 1)) = _
      rw [wrap64 (by omega) (by omega)]; simp
  · rw [ltB_f (by omega)]
    conv => whnf
    rw [hsz, List.drop_of_length_le (by omega)]
    rfl

theorem szT_pure (t : T) (ht : t.Ok) : ∀ (left : Int), 0 ≤ left → left ≤ 4611686018427387904 → Pure Tryd.prog 22 [.agg t.cells, .int .i64 left] (· = .int .i64 (szT t left)) := by
  induction ht with
  | @mk id kind text kids g1 g2 g3 g4 g5 ih =>
    intro left h0 h1
    exact szT_pure1 _ (.mk g1 g2 g3 g4 g5) left h0 h1 fun left h0 h1 => szL_pure1 kids (by simpa [maxLen] using g4) left h0 h1 ih
end Go.Cod

namespace Go.Cod
open Go Go.Proofs
set_option maxRecDepth 10000

inductive T.Small : T → Prop
  | mk {id kind text kids} (h1 : -9223372036854775808 ≤ id ∧ id ≤ 9223372036854775807) (h2 : kind.length ≤ 1048576) (h3 : text.length ≤ 1048576) (h4 : kids.length ≤ 1048576) (h5 : ∀ t ∈ kids, T.Small t) : T.Small (.mk id kind text kids)

def zrow : List V := [.int .i64 0, .str [], .str [], .nils]
def mix (ts : List T) (i : Nat) : List (List V) := (T.rows ts).take i ++ List.replicate (ts.length - i) zrow
theorem mix_get (ts : List T) (i : Nat) (h : i < ts.length) : (mix ts i)[i]? = some zrow := by
  unfold mix
  rw [List.getElem?_append_right (by rw [List.length_take, rows_len]; omega)]
  rw [List.length_take, rows_len, Nat.min_eq_left (by omega), Nat.sub_self, List.getElem?_replicate, if_pos (by omega)]
theorem mix_set (ts : List T) (i : Nat) (h : i < ts.length) : (mix ts i).set i ts[i].cells = mix ts (i + 1) := by
  unfold mix
  rw [List.set_append_right _ _ (by rw [List.length_take, rows_len]; omega), List.length_take, rows_len, Nat.min_eq_left (by omega), Nat.sub_self]
  rw [show ts.length - i = (ts.length - (i + 1)) + 1 by omega, List.replicate_succ, List.set_cons_zero, List.take_add_one, rows_get ts i h]
  simp
theorem toTreeS_pure1 (ts : List T) (hl : ts.length ≤ 1048576) (hT : ∀ t ∈ ts, Pure Tryd.prog 24 [.agg t.cells] (· = .agg t.cells)) :
    Pure Tryd.prog 58 [.sl (T.rows ts)] (· = .sl (T.rows ts)) := by
  have hlr := rows_len ts
  refine pure_of_awp good Tryd.func58 rfl (by kernel_rfl) (by decide) ?_
  conv => whnf
  refine ⟨by omega, by omega, ?_⟩
  conv => whnf
  refine ⟨by show (Int.toNat _) * 64 ≤ _; omega, by omega, ?_⟩
  conv => whnf
  refine loop_intro (fun n fr st => ∃ i : Nat, n + i = ts.length ∧ st = [⟨mix ts i, 4, true, true, false, .cell⟩] ∧ Holds fr [(0, .sl (T.rows ts)), (3, .own 0), (4, .int .i64 i)]) ts.length
    ⟨0, rfl, by simp [mix, hlr, zrow, V.cells], rfl, rfl, rfl, trivial⟩ ?_
  rintro n fr st ⟨i, hi, rfl, hh⟩
  obtain ⟨fr, rfl⟩ := hh.split
  clear hh
  conv => whnf
  by_cases hlt : i < ts.length
  · rw [ltB_t (by omega)]
    conv => whnf
    refine ⟨by omega, T.rows ts, ts[i].cells, 4, rfl, rows_get ts i hlt, rfl, cells_len _, ?_⟩
    have hc := hT ts[i] (List.getElem_mem _)
    have hm := mix_set ts i hlt
    have hmg := mix_get ts i hlt
    generalize ts[i] = t at hc hm
    cases t with
    | mk id kind text kids =>
    conv => whnf
    refine .inl (hc.mono ?_)
    rintro r rfl
    conv => whnf
    refine ⟨by omega, mix ts i, zrow, 4, rfl, hmg, rfl, rfl, ?_⟩
    conv => whnf
    refine AtRow_intro zrow hmg ?_
    conv => whnf
    refine ⟨n - 1, by omega, i + 1, by omega, ?_, rfl, rfl, ?_, trivial⟩
    · rw [← hm]; rfl
    · show V.int .i64 (IntKind.i64.wrap (i + 1)) = _
      rw [wrap64 (by omega) (by omega)]; simp
  · rw [ltB_f (by omega)]
    conv => whnf
    show V.sl (mix ts i) = _
    rw [mix, show ts.length - i = 0 by omega, List.take_of_length_le (by rw [hlr]; omega)]
    simp

theorem toTree_pure1 (t : T) (ht : t.Small)
    (hL : Pure Tryd.prog 58 [.sl (T.rows t.kids)] (· = .sl (T.rows t.kids))) :
    Pure Tryd.prog 24 [.agg t.cells] (· = .agg t.cells) := by
  cases ht with
  | @mk id kind text kids g1 g2 g3 g4 g5 =>
  simp only [T.kids] at hL
  refine pure_of_awp good Tryd.func24 rfl (by kernel_rfl) (by decide) ?_
  conv => whnf
  refine .inl (hL.mono ?_)
  rintro r rfl
  conv => whnf
  rfl
end Go.Cod

namespace Go.Cod
open Go Go.Proofs
set_option maxRecDepth 10000

theorem eqB_refl (a : Int) : eqB a a = true := by rw [eqB_def]; simp
theorem eqS_refl (a : List UInt8) : eqS a a = true := by rw [eqS_def]; simp

theorem eqTreeS_pure1 (ts : List T) (hl : ts.length ≤ 1048576) (hT : ∀ t ∈ ts, Pure Tryd.prog 26 [.agg t.cells, .agg t.cells] (· = .bool true)) :
    Pure Tryd.prog 61 [.sl (T.rows ts), .sl (T.rows ts)] (· = .bool true) := by
  have hlr := rows_len ts
  refine pure_of_awp good Tryd.func61 rfl (by kernel_rfl) (by decide) ?_
  conv => whnf
  rw [eqB_refl]
  conv => whnf
  refine loop_intro (fun n fr st => ∃ i : Nat, n + i = ts.length ∧ st = [] ∧ Holds fr [(0, .sl (T.rows ts)), (1, .sl (T.rows ts)), (5, .int .i64 i)]) ts.length
    ⟨0, rfl, rfl, rfl, rfl, rfl, trivial⟩ ?_
  rintro n fr st ⟨i, hi, rfl, hh⟩
  obtain ⟨fr, rfl⟩ := hh.split
  clear hh
  conv => whnf
  by_cases hlt : i < ts.length
  · rw [ltB_t (by omega)]
    conv => whnf
    refine ⟨by omega, T.rows ts, ts[i].cells, 4, rfl, rows_get ts i hlt, rfl, cells_len _, ?_⟩
    have hc := hT ts[i] (List.getElem_mem _)
    have hmg := rows_get ts i hlt
    generalize ts[i] = t at hc hmg
    cases t with
    | mk id kind text kids =>
    conv => whnf
    refine ⟨by omega, T.rows ts, _, 4, rfl, hmg, rfl, rfl, ?_⟩
    conv => whnf
    refine ⟨_, .inl hc, ?_⟩
    conv => whnf
    refine ⟨n - 1, by omega, i + 1, by omega, rfl, rfl, rfl, ?_, trivial⟩
    · show V.int .i64 (IntKind.i64.wrap (i + 1)) = _
      rw [wrap64 (by omega) (by omega)]; simp
  · rw [ltB_f (by omega)]
    conv => whnf

theorem eqTree_pure1 (t : T) (hL : Pure Tryd.prog 61 [.sl (T.rows t.kids), .sl (T.rows t.kids)] (· = .bool true)) :
    Pure Tryd.prog 26 [.agg t.cells, .agg t.cells] (· = .bool true) := by
  cases t with
  | mk id kind text kids =>
  simp only [T.kids] at hL
  refine pure_of_awp good Tryd.func26 rfl (by kernel_rfl) (by decide) ?_
  conv => whnf
  rw [eqB_refl]
  conv => whnf
  rw [eqS_refl]
  conv => whnf
  rw [eqS_refl]
  conv => whnf
  refine .inl (hL.mono ?_)
  rintro r rfl
  conv => whnf

theorem toTree_pure (t : T) (ht : t.Small) : Pure Tryd.prog 24 [.agg t.cells] (· = .agg t.cells) := by
  induction ht with
  | @mk id kind text kids g1 g2 g3 g4 g5 ih => exact toTree_pure1 _ (.mk g1 g2 g3 g4 g5) (toTreeS_pure1 kids g4 ih)
theorem eqTree_pure (t : T) (ht : t.Small) : Pure Tryd.prog 26 [.agg t.cells, .agg t.cells] (· = .bool true) := by
  induction ht with
  | @mk id kind text kids g1 g2 g3 g4 g5 ih => exact eqTree_pure1 _ (eqTreeS_pure1 kids g4 ih)

mutual
theorem small_of_sz : ∀ (t : T), t.Ok → ∀ left : Int, left ≤ 1048576 → 0 ≤ szT t left → t.Small
  | .mk id kind text kids, ht, left, h1, h2 => by
    cases ht with
    | mk g1 g2 g3 g4 g5 =>
      simp only [szT] at h2
      split at h2
      · omega
      split at h2
      · omega
      split at h2
      · simp at h2
      rename_i a1 a2 a3
      split at h2
      · omega
      refine .mk g1 (by omega) (by omega) (by omega) (small_of_szGo kids g5 _ (by omega) h2)
theorem small_of_szGo : ∀ (ts : List T), (∀ t ∈ ts, t.Ok) → ∀ left : Int, left ≤ 1048576 → 0 ≤ szGo ts left → ∀ t ∈ ts, t.Small
  | [], _, _, _, _ => by simp
  | t :: ts, h, left, h1, h2 => by
    simp only [szGo] at h2
    split at h2
    · omega
    rename_i a1
    by_cases h0 : 0 ≤ left
    · have h3 := (szT_le t left h0).1
      intro t' ht'
      have hh := small_of_sz t (h _ (by simp)) left h1 (by omega)
      rcases List.mem_cons.1 ht' with rfl | ht'
      · exact hh
      · exact small_of_szGo ts (fun t ht => h t (by simp [ht])) _ (by omega) h2 t' ht'
    · exfalso
      have : szT t left < 0 := by
        cases t with
        | mk id kind text kids => simp only [szT]; rw [if_pos (by omega)]; omega
      omega
end

end Go.Cod

namespace Go.Cod
open Go Go.Proofs
set_option maxRecDepth 10000

/-- Rows of numbers. -/
def irows (ns : List Int) : List (List V) := ns.map fun n => [.int .i64 n]
theorem irows_len (ns : List Int) : (irows ns).length = ns.length := by simp [irows]
theorem irows_get (ns : List Int) (i : Nat) (h : i < ns.length) : (irows ns)[i]? = some [.int .i64 ns[i]] := by simp [irows, h]

theorem l2Has_pure (ns : List Int) (x : Int) (hl : ns.length ≤ 9223372036854775806) : Pure Tryd.prog 46 [.sl (irows ns), .int .i64 x] (· = .bool (decide (x ∈ ns))) := by
  have hlr := irows_len ns
  refine pure_of_awp good Tryd.func46 rfl (by kernel_rfl) (by decide) ?_
  conv => whnf
  refine loop_intro (fun n fr st => ∃ i : Nat, n + i = ns.length ∧ st = [] ∧ x ∉ ns.take i ∧ Holds fr [(0, .sl (irows ns)), (1, .int .i64 x), (5, .int .i64 i)]) ns.length
    ⟨0, rfl, rfl, by simp, rfl, rfl, rfl, trivial⟩ ?_
  rintro n fr st ⟨i, hi, rfl, hx, hh⟩
  obtain ⟨fr, rfl⟩ := hh.split
  clear hh
  conv => whnf
  by_cases hlt : i < ns.length
  · rw [ltB_t (by omega)]
    conv => whnf
    refine ⟨by omega, irows ns, _, 1, rfl, irows_get ns i hlt, rfl, rfl, ?_⟩
    conv => whnf
    by_cases he : ns[i] = x
    · rw [eqB_t he]
      conv => whnf
      have : x ∈ ns := he ▸ List.getElem_mem _
      simp [this]
    · rw [eqB_f he]
      conv => whnf
      refine ⟨n - 1, by omega, i + 1, by omega, rfl, ?_, rfl, rfl, ?_, trivial⟩
      · rw [List.take_succ_eq_append_getElem hlt]
        simp only [List.mem_append, List.mem_singleton, not_or]
        exact ⟨hx, fun h => he h.symm⟩
      · show V.int .i64 (IntKind.i64.wrap (i + 1)) = _
        rw [wrap64 (by omega) (by omega)]; simp
  · rw [ltB_f (by omega)]
    conv => whnf
    rw [List.take_of_length_le (by omega)] at hx
    simp [hx]

mutual
def T.ids : T → List Int
  | .mk id _ _ kids => id :: T.idsL kids
def T.idsL : List T → List Int
  | [] => []
  | t :: ts => t.ids ++ T.idsL ts
end
theorem idsL_append (a b : List T) : T.idsL (a ++ b) = T.idsL a ++ T.idsL b := by
  induction a with
  | nil => rfl
  | cons x xs ih => simp [T.idsL, ih]
theorem idsL_take (ts : List T) (i : Nat) (h : i < ts.length) : T.idsL (ts.take (i + 1)) = T.idsL (ts.take i) ++ ts[i].ids := by
  rw [List.take_succ_eq_append_getElem h, idsL_append]; simp [T.idsL]
theorem irows_append (a b : List Int) : irows (a ++ b) = irows a ++ irows b := by simp [irows]

def textB (c : UInt8) : Bool := decide (32 ≤ c.toNat ∧ c.toNat ≤ 126 ∧ c.toNat ≠ 34)
def textL (s : List UInt8) : Bool := s.all textB && decide ((s.length : Int) ≤ 12)
theorem l2Text_pure (s : List UInt8) (hs : s.length ≤ 9223372036854775806) : Pure Tryd.prog 84 [.str s] (· = .bool (textL s)) := by
  have hno : ∀ (i : Nat) (h : i < s.length), textB s[i] = false → textL s = false := by
    intro i h hb
    have : s.all textB = false := by rw [List.all_eq_false]; exact ⟨s[i], List.getElem_mem _, by simp [hb]⟩
    simp only [textL, this, Bool.false_and]
  refine pure_of_awp good Tryd.func84 rfl (by kernel_rfl) (by decide) ?_
  conv => whnf
  refine loop_intro (fun n fr st => st = [] ∧ ∃ i : Nat, n + i = s.length ∧ (s.take i).all textB = true ∧ Holds fr [(0, .str s), (3, .int .i64 i)]) s.length ⟨rfl, 0, rfl, rfl, rfl, rfl, trivial⟩ ?_
  rintro n fr st ⟨rfl, i, hi, hlow, hh⟩
  obtain ⟨fr, rfl⟩ := hh.split
  clear hh
  conv => whnf
  by_cases hlt : i < s.length
  · rw [ltB_t (by omega)]
    have hstep := take_all (p := textB) hlt
    have hn := hno i hlt
    conv => whnf
    refine ⟨by omega, s[i], by simp [hlt], ?_⟩
    conv => whnf
    by_cases h1 : (s[i].toNat : Int) < 32
    · rw [ltB_t h1]
      conv => whnf
      rw [hn (by simp only [textB, decide_eq_false_iff_not]; omega)]
    rw [ltB_f (by omega)]
    conv => whnf
    refine ⟨by omega, s[i], by simp [hlt], ?_⟩
    conv => whnf
    by_cases h2 : (126 : Int) < s[i].toNat
    · rw [ltB_t h2]
      conv => whnf
      rw [hn (by simp only [textB, decide_eq_false_iff_not]; omega)]
    rw [ltB_f (by omega)]
    conv => whnf
    refine ⟨by omega, s[i], by simp [hlt], ?_⟩
    conv => whnf
    by_cases h3 : (s[i].toNat : Int) = 34
    · rw [eqB_t h3]
      conv => whnf
      rw [hn (by simp only [textB, decide_eq_false_iff_not]; omega)]
    rw [eqB_f h3]
    conv => whnf
    refine ⟨n - 1, by omega, rfl, i + 1, by omega, ?_, rfl, ?_, trivial⟩
    · rw [hstep, hlow]; simp only [textB, Bool.true_and, decide_eq_true_eq]; omega
    · show V.int .i64 (IntKind.i64.wrap (i + 1)) = _
      rw [wrap64 (by omega) (by omega)]; simp
  · rw [ltB_f (by omega)]
    conv => whnf
    rw [List.take_of_length_le (by omega)] at hlow
    show V.bool (leB _ _) = _
    simp [textL, hlow, leB_def]
end Go.Cod

namespace Go.Cod
open Go Go.Proofs
set_option maxRecDepth 10000

mutual
def plainT : T → Int → Bool
  | .mk id kind text kids, lv => !decide (6 < lv) && decide (1 ≤ id ∧ id ≤ 999) && nameL kind && textL text && plainL kids (lv + 1)
def plainL : List T → Int → Bool
  | [], _ => true
  | t :: ts, lv => plainT t lv && plainL ts lv
end
theorem plainL_eq (ts : List T) (lv : Int) : plainL ts lv = ts.all fun t => plainT t lv := by
  induction ts with
  | nil => rfl
  | cons t ts ih => simp [plainL, ih]

theorem l2Plain_pure1 (t : T) (hs : t.Small) (lv : Int) (h0 : 0 ≤ lv) (h7 : lv ≤ 1000) (hT : lv ≤ 6 → ∀ t' ∈ t.kids, Pure Tryd.prog 44 [.agg t'.cells, .int .i64 (lv + 1)] (· = .bool (plainT t' (lv + 1)))) :
    Pure Tryd.prog 44 [.agg t.cells, .int .i64 lv] (· = .bool (plainT t lv)) := by
  cases hs with
  | @mk id kind text kids g1 g2 g3 g4 g5 =>
  simp only [T.kids] at hT
  have hlr := rows_len kids
  refine pure_of_awp good Tryd.func44 rfl (by kernel_rfl) (by decide) ?_
  conv => whnf
  by_cases a1 : 6 < lv
  · rw [ltB_t a1]
    conv => whnf
    simp [plainT, a1]
  rw [ltB_f (by omega)]
  conv => whnf
  refine .inl ((l1In_pure _ _ _).mono ?_)
  rintro r rfl
  by_cases a2 : 1 ≤ id ∧ id ≤ 999
  case neg =>
    rw [decide_eq_false a2]
    conv => whnf
    simp [plainT, a2]
  rw [decide_eq_true a2]
  conv => whnf
  refine .inl ((l2Name_pure kind (by omega)).mono ?_)
  rintro r rfl
  cases a3 : nameL kind
  · conv => whnf
    simp [plainT, a3]
  conv => whnf
  refine .inl ((l2Text_pure text (by omega)).mono ?_)
  rintro r rfl
  cases a4 : textL text
  · conv => whnf
    simp [plainT, a4]
  conv => whnf
  have hp : plainT (.mk id kind text kids) lv = plainL kids (lv + 1) := by simp [plainT, a1, a2, a3, a4]
  rw [plainL_eq] at hp
  refine loop_intro (fun n fr st => ∃ i : Nat, n + i = kids.length ∧ st = [⟨[[.int .i64 id, .str kind, .str text, .sl (T.rows kids)]], 4, true, true, true, .cell⟩] ∧ (kids.take i).all (fun t => plainT t (lv + 1)) = true ∧ Holds fr [(1, .int .i64 lv), (2, .ptr 0 0 0), (5, .int .i64 i)]) kids.length
    ⟨0, rfl, rfl, rfl, rfl, rfl, rfl, trivial⟩ ?_
  rintro n fr st ⟨i, hi, rfl, hx, hh⟩
  obtain ⟨fr, rfl⟩ := hh.split
  clear hh
  conv => whnf
  by_cases hlt : i < kids.length
  · rw [ltB_t (by omega)]
    conv => whnf
    refine ⟨by omega, T.rows kids, kids[i].cells, 4, rfl, rows_get kids i hlt, rfl, cells_len _, ?_⟩
    have hc := hT (by omega) kids[i] (List.getElem_mem _)
    have hst : (kids.take (i + 1)).all (fun t => plainT t (lv + 1)) = plainT kids[i] (lv + 1) := by
      rw [List.take_succ_eq_append_getElem hlt, List.all_append, hx]; simp
    have hno : plainT kids[i] (lv + 1) = false → kids.all (fun t => plainT t (lv + 1)) = false := by
      intro h; rw [List.all_eq_false]; exact ⟨kids[i], List.getElem_mem _, by simp [h]⟩
    generalize kids[i] = t at hc hst hno ⊢
    cases t with
    | mk id' kind' text' kids' =>
    conv => whnf
    rw [wrap64 (by omega) (by omega)]
    refine .inl (hc.mono ?_)
    rintro r rfl
    cases a5 : plainT (.mk id' kind' text' kids') (lv + 1)
    · conv => whnf
      rw [hp, hno a5]
    conv => whnf
    refine ⟨n - 1, by omega, i + 1, by omega, rfl, by rw [hst, a5], rfl, rfl, ?_, trivial⟩
    show V.int .i64 (IntKind.i64.wrap (i + 1)) = _
    rw [wrap64 (by omega) (by omega)]; simp
  · rw [ltB_f (by omega)]
    conv => whnf
    rw [List.take_of_length_le (by omega)] at hx
    rw [hp, hx]

theorem l2Plain_pure (t : T) (hs : t.Small) : ∀ lv : Int, 0 ≤ lv → lv ≤ 1000 → Pure Tryd.prog 44 [.agg t.cells, .int .i64 lv] (· = .bool (plainT t lv)) := by
  induction hs with
  | @mk id kind text kids g1 g2 g3 g4 g5 ih =>
    intro lv h0 h7
    exact l2Plain_pure1 _ (.mk g1 g2 g3 g4 g5) lv h0 h7 fun h t' ht' => ih t' ht' (lv + 1) (by omega) (by omega)
end Go.Cod

namespace Go.Cod
open Go Go.Proofs
set_option maxRecDepth 10000

mutual
theorem ids_sz : ∀ (t : T) (left : Int), 0 ≤ szT t left → szT t left + t.ids.length ≤ left + 1
  | .mk id kind text kids, left, h => by
    simp only [szT] at h ⊢
    split at h
    · omega
    split at h
    · omega
    split at h
    · simp at h
    rename_i a1 a2 a3
    rw [if_neg a1, if_neg a2, if_neg a3]
    split at h
    · omega
    rename_i a4
    rw [if_neg a4]
    have := ids_szGo kids _ h
    simp only [T.ids, List.length_cons]
    omega
theorem ids_szGo : ∀ (ts : List T) (left : Int), 0 ≤ szGo ts left → szGo ts left + (T.idsL ts).length ≤ left + ts.length
  | [], left, h => by simp [szGo, T.idsL]
  | t :: ts, left, h => by
    simp only [szGo] at h ⊢
    split at h
    · omega
    rename_i a1
    rw [if_neg a1]
    have h1 := ids_sz t left (by omega)
    have h2 := ids_szGo ts _ h
    simp only [T.idsL, List.length_append, List.length_cons]
    omega
end
theorem idsL_split (ts : List T) (i : Nat) : T.idsL ts = T.idsL (ts.take i) ++ T.idsL (ts.drop i) := by
  induction ts generalizing i with
  | nil => simp [T.idsL]
  | cons t ts ih => cases i with
    | zero => simp [T.idsL]
    | succ i => simp only [List.take_succ_cons, List.drop_succ_cons, T.idsL, List.append_assoc]; rw [← ih i]
theorem irows_wid (l : List Int) : ∀ m ∈ irows l, m.length = 1 := by simp [irows]

theorem l2Ids_pure1 (t : T) (hs : t.Small) (hn : t.ids.length ≤ 1048577) (hT : ∀ t' ∈ t.kids, (t'.ids).length ≤ 1048577 → Pure Tryd.prog 45 [.agg t'.cells] (· = .sl (irows (t'.ids)))) :
    Pure Tryd.prog 45 [.agg t.cells] (· = .sl (irows t.ids)) := by
  cases hs with
  | @mk id kind text kids g1 g2 g3 g4 g5 =>
  simp only [T.kids, T.ids, List.length_cons] at hT hn ⊢
  have hlr := rows_len kids
  refine pure_of_awp good Tryd.func45 rfl (by kernel_rfl) (by decide) ?_
  conv => whnf
  refine loop_drop (fun n fr st => ∃ i : Nat, n + i = kids.length ∧ st = [⟨[[.int .i64 id, .str kind, .str text, .sl (T.rows kids)]], 4, true, true, true, .cell⟩, ⟨irows (id :: T.idsL (kids.take i)), 1, true, true, false, .cell⟩] ∧ Holds fr [(1, .ptr 0 0 0), (3, .own 1), (4, .int .i64 i)]) kids.length none
    ⟨0, rfl, rfl, rfl, rfl, rfl, trivial⟩ ?_
  rintro n fr st ⟨i, hi, rfl, hh⟩
  obtain ⟨fr, rfl⟩ := hh.split
  clear hh
  conv => whnf
  by_cases hlt : i < kids.length
  · rw [ltB_t (by omega)]
    conv => whnf
    refine ⟨by omega, T.rows kids, kids[i].cells, 4, rfl, rows_get kids i hlt, rfl, cells_len _, ?_⟩
    have hsp := idsL_split kids (i + 1)
    have htk := idsL_take kids i hlt
    have hl1 : (T.idsL kids).length = (T.idsL (kids.take (i + 1))).length + (T.idsL (kids.drop (i + 1))).length := by rw [hsp]; simp
    have hl2 : (T.idsL (kids.take (i + 1))).length = (T.idsL (kids.take i)).length + (kids[i].ids).length := by rw [htk]; simp
    have hc := hT kids[i] (List.getElem_mem _) (by omega)
    generalize kids[i] = t at hc htk hl2 ⊢
    cases t with
    | mk id' kind' text' kids' =>
    conv => whnf
    refine .inl (hc.mono ?_)
    rintro r rfl
    conv => whnf
    refine ⟨irows_wid _, ?_⟩
    conv => whnf
    refine ⟨by rw [irows_len, irows_len]; show (_ + _) * 8 ≤ _; simp only [List.length_cons]; omega, ?_⟩
    conv => whnf
    refine ⟨n - 1, by omega, some [0, 2], ?_⟩
    conv => whnf
    refine ⟨i + 1, by omega, ?_, rfl, rfl, ?_, trivial⟩
    · show [_, _] = [_, _]
      rw [htk]
      simp only [irows, List.map_cons, List.map_append]
      rfl
    · show V.int .i64 (IntKind.i64.wrap (i + 1)) = _
      rw [wrap64 (by omega) (by omega)]; simp
  · rw [ltB_f (by omega)]
    conv => whnf
    rw [List.take_of_length_le (by omega)]

theorem l2Ids_pure (t : T) (hs : t.Small) : t.ids.length ≤ 1048577 → Pure Tryd.prog 45 [.agg t.cells] (· = .sl (irows t.ids)) := by
  induction hs with
  | @mk id kind text kids g1 g2 g3 g4 g5 ih =>
    intro hn
    exact l2Ids_pure1 _ (.mk g1 g2 g3 g4 g5) hn fun t' ht' h => ih t' ht' h

theorem nodup_take {l : List Int} {i : Nat} (h : i < l.length) : (l.take (i + 1)).Nodup ↔ (l.take i).Nodup ∧ l[i] ∉ l.take i := by
  rw [List.take_succ_eq_append_getElem h, List.nodup_append]
  simp
  intro _
  constructor
  · intro h h2; exact h _ h2 rfl
  · intro h a ha e; exact h (e ▸ ha)

def okT (t : T) : Bool := plainT t 1 && decide t.ids.Nodup && decide (t.ids.length ≤ 20)

theorem specTreeOk_pure (t : T) (hs : t.Small) (hn : t.ids.length ≤ 1048577) : Pure Tryd.prog 15 [.agg t.cells] (· = .bool (okT t)) := by
  have hp := l2Plain_pure t hs 1 (by omega) (by omega)
  have hi := l2Ids_pure t hs hn
  have hok : okT t = (plainT t 1 && decide t.ids.Nodup && decide (t.ids.length ≤ 20)) := rfl
  generalize okT t = ok at *
  generalize plainT t 1 = pl at *
  generalize t.ids = ids at *
  cases t with
  | mk id kind text kids =>
  refine pure_of_awp good Tryd.func15 rfl (by kernel_rfl) (by decide) ?_
  conv => whnf
  refine .inl (hp.mono ?_)
  rintro r rfl
  cases pl
  · conv => whnf
    simp at hok; rw [hok]
  conv => whnf
  refine .inl (hi.mono ?_)
  rintro r rfl
  conv => whnf
  refine loop_intro (fun n fr st => ∃ i : Nat, n + i = ids.length ∧ st = [⟨[[.int .i64 id, .str kind, .str text, .sl (T.rows kids)]], 4, true, true, true, .cell⟩] ∧ (ids.take i).Nodup ∧ Holds fr [(3, .sl (irows ids)), (4, .int .i64 i)]) ids.length
    ⟨0, rfl, rfl, by simp, rfl, rfl, trivial⟩ ?_
  rintro n fr st ⟨i, hi, rfl, hx, hh⟩
  obtain ⟨fr, rfl⟩ := hh.split
  clear hh
  conv => whnf
  have hlr := irows_len ids
  by_cases hlt : i < ids.length
  · rw [ltB_t (by omega)]
    conv => whnf
    refine ⟨irows_wid _, ?_⟩
    conv => whnf
    refine ⟨by omega, by show Int.toNat (i : Int) ≤ _; rw [hlr]; omega, rfl, ?_⟩
    conv => whnf
    refine ⟨by omega, irows ids, _, 1, rfl, irows_get ids i hlt, rfl, rfl, ?_⟩
    conv => whnf
    have hcut : ((irows ids).take (Int.toNat (i : Int))).drop 0 = irows (ids.take i) := by simp [irows]
    have hc := l2Has_pure (ids.take i) ids[i] (by simp; omega)
    rw [← hcut] at hc
    refine ⟨_, .inl hc, ?_⟩
    have hnd := nodup_take hlt
    by_cases hm : ids[i] ∈ ids.take i
    · rw [decide_eq_true hm]
      conv => whnf
      have : ¬ ids.Nodup := fun h => (hnd.1 (h.sublist (List.take_sublist _ _))).2 hm
      simp [this] at hok; rw [hok]
    · rw [decide_eq_false hm]
      conv => whnf
      refine ⟨n - 1, by omega, i + 1, by omega, rfl, hnd.2 ⟨hx, hm⟩, rfl, ?_, trivial⟩
      show V.int .i64 (IntKind.i64.wrap (i + 1)) = _
      rw [wrap64 (by omega) (by omega)]; simp
  · rw [ltB_f (by omega)]
    conv => whnf
    rw [List.take_of_length_le (by omega)] at hx
    simp only [hx, decide_true, Bool.true_and, Bool.and_true] at hok
    rw [hok, leB_def, hlr]
    congr 1
    exact decide_eq_decide.2 (by omega)
end Go.Cod

namespace Go.Cod
open Go Go.Proofs
set_option maxRecDepth 10000

theorem textHasOnly_pure (s : List UInt8) (hs : s.length ≤ 9223372036854775806) (g : Nat) (p : UInt8 → Bool) (hp : ∀ b : UInt8, Pure Tryd.prog g [cellB b] (· = .bool (p b))) :
    Pure Tryd.prog 80 [.str s, .fn g []] (· = .bool (s.all p)) := by
  refine pure_of_awp good Tryd.func80 rfl (by kernel_rfl) (by decide) ?_
  conv => whnf
  refine loop_intro (fun n fr st => st = [] ∧ ∃ i : Nat, n + i = s.length ∧ (s.take i).all p = true ∧ Holds fr [(0, .str s), (1, .fn g []), (7, .int .i64 s.length), (8, .int .i64 i)]) s.length ⟨rfl, 0, rfl, rfl, rfl, rfl, rfl, rfl, trivial⟩ ?_
  rintro n fr st ⟨rfl, i, hi, hx, hh⟩
  obtain ⟨fr, rfl⟩ := hh.split
  clear hh
  conv => whnf
  by_cases hlt : i < s.length
  · rw [ltB_t (by omega)]
    conv => whnf
    refine ⟨by omega, s[i], by simp [hlt], ?_⟩
    conv => whnf
    have hst := take_all (p := p) hlt
    have hno : p s[i] = false → s.all p = false := by
      intro h; rw [List.all_eq_false]; exact ⟨s[i], List.getElem_mem _, by simp [h]⟩
    refine .inl ((hp s[i]).mono ?_)
    rintro r rfl
    cases a : p s[i]
    · conv => whnf
      rw [hno a]
    conv => whnf
    refine ⟨n - 1, by omega, rfl, i + 1, by omega, by rw [hst, hx, a]; rfl, rfl, rfl, rfl, ?_, trivial⟩
    show V.int .i64 (IntKind.i64.wrap (i + 1)) = _
    rw [wrap64 (by omega) (by omega)]; simp
  · rw [ltB_f (by omega)]
    conv => whnf
    rw [List.take_of_length_le (by omega)] at hx
    rw [hx]

theorem isLetter_pure (b : UInt8) : Pure Tryd.prog 101 [cellB b] (· = .bool (lowerB b)) := by
  refine pure_of_awp good Tryd.func101 rfl (by kernel_rfl) (by decide) ?_
  conv => whnf
  by_cases h1 : (97 : Int) ≤ (b.toNat : Int)
  · rw [leB_t (by omega)]
    conv => whnf
    congr 1
    rw [leB_def, lowerB]
    exact decide_eq_decide.2 (by omega)
  · rw [leB_f (by omega)]
    conv => whnf
    have : lowerB b = false := by unfold lowerB; simp; omega
    rw [this]
theorem isTreeText_pure (b : UInt8) : Pure Tryd.prog 81 [cellB b] (· = .bool (textB b)) := by
  refine pure_of_awp good Tryd.func81 rfl (by kernel_rfl) (by decide) ?_
  conv => whnf
  by_cases h1 : (32 : Int) ≤ (b.toNat : Int)
  · rw [leB_t (by omega)]
    conv => whnf
    by_cases h2 : (b.toNat : Int) ≤ 126
    · rw [leB_t (by omega)]
      conv => whnf
      congr 1
      rw [eqB_def]
      have : negB (decide ((b.toNat : Int) = 34)) = decide (b.toNat ≠ 34) := by
        by_cases h : b.toNat = 34
        · simp [h, negB]
        · have : ¬ (b.toNat : Int) = 34 := by omega
          simp [h, this, negB]
      rw [this, textB]
      exact decide_eq_decide.2 (by omega)
    · rw [leB_f (by omega)]
      conv => whnf
      have : textB b = false := by unfold textB; simp; omega
      rw [this]
  · rw [leB_f (by omega)]
    conv => whnf
    have : textB b = false := by unfold textB; simp; omega
    rw [this]
theorem nameOk_pure (s : List UInt8) (hs : s.length ≤ 9223372036854775806) : Pure Tryd.prog 79 [.str s] (· = .bool (nameL s)) := by
  refine pure_of_awp good Tryd.func79 rfl (by kernel_rfl) (by decide) ?_
  conv => whnf
  by_cases h1 : (1 : Int) ≤ (s.length : Int)
  case neg =>
    rw [leB_f (by omega)]
    conv => whnf
    simp [nameL]; omega
  rw [leB_t (by omega)]
  conv => whnf
  by_cases h2 : (s.length : Int) ≤ 8
  case neg =>
    rw [leB_f (by omega)]
    conv => whnf
    simp [nameL]; omega
  rw [leB_t (by omega)]
  conv => whnf
  refine .inl ((textHasOnly_pure s hs _ lowerB isLetter_pure).mono ?_)
  rintro r rfl
  conv => whnf
  simp [nameL, lower, h1, h2]

def thingB (id : Int) (kind text : List UInt8) : Bool := decide (1 ≤ id ∧ id ≤ 999) && nameL kind && textL text
theorem treeThingOk_pure (id : Int) (kind text : List UInt8) (kids : List T) (h2 : kind.length ≤ 9223372036854775806) (h3 : text.length ≤ 9223372036854775806) :
    Pure Tryd.prog 43 [.agg (T.mk id kind text kids).cells] (· = .bool (thingB id kind text)) := by
  refine pure_of_awp good Tryd.func43 rfl (by kernel_rfl) (by decide) ?_
  conv => whnf
  by_cases a1 : 1 ≤ id
  case neg =>
    rw [leB_f (by omega)]
    conv => whnf
    simp [thingB]; omega
  rw [leB_t (by omega)]
  conv => whnf
  by_cases a2 : id ≤ 999
  case neg =>
    rw [leB_f (by omega)]
    conv => whnf
    simp [thingB]; omega
  rw [leB_t (by omega)]
  conv => whnf
  refine .inl ((nameOk_pure kind (by omega)).mono ?_)
  rintro r rfl
  cases a3 : nameL kind
  · conv => whnf
    simp [thingB, a3]
  conv => whnf
  by_cases a4 : (text.length : Int) ≤ 12
  case neg =>
    rw [leB_f (by omega)]
    conv => whnf
    simp [thingB, textL]; omega
  rw [leB_t (by omega)]
  conv => whnf
  refine .inl ((textHasOnly_pure text (by omega) _ textB isTreeText_pure).mono ?_)
  rintro r rfl
  conv => whnf
  simp [thingB, textL, a1, a2, a3, a4]
end Go.Cod

namespace Go.Cod
open Go Go.Proofs
set_option maxRecDepth 10000

/-- A thing, that in which it is, its level. -/
abbrev Sp := T × Int × Int
def spV (s : Sp) : V := .agg (s.1.cells ++ [.int .i64 s.2.1, .int .i64 s.2.2])
mutual
def spT : T → Int → Int → List Sp
  | .mk id kind text kids, ov, lv => (.mk id kind text kids, ov, lv) :: spL kids id (IntKind.i64.wrap (lv + 1))
def spL : List T → Int → Int → List Sp
  | [], _, _ => []
  | t :: ts, ov, lv => spT t ov lv ++ spL ts ov lv
end
theorem spL_append (a b : List T) (ov lv : Int) : spL (a ++ b) ov lv = spL a ov lv ++ spL b ov lv := by
  induction a with
  | nil => rfl
  | cons t ts ih => simp [spL, ih]
def spRows (l : List Sp) : List (List V) := l.map fun s => [spV s]
theorem spRows_append (a b : List Sp) : spRows (a ++ b) = spRows a ++ spRows b := by simp [spRows]

/-- What is yielded in order is taken. -/
def Takes (ok : OkY) (log : List (List V)) (l : List Sp) : Prop := ∀ pre v suf, l = pre ++ v :: suf → ok (log ++ spRows pre) [spV v]
theorem Takes.left {ok : OkY} {log : List (List V)} {a b : List Sp} (h : Takes ok log (a ++ b)) : Takes ok log a := fun pre v suf e => h pre v (suf ++ b) (by rw [e]; simp)
theorem Takes.right {ok : OkY} {log : List (List V)} {a b : List Sp} (h : Takes ok log (a ++ b)) : Takes ok (log ++ spRows a) b := fun pre v suf e => by
  have := h (a ++ pre) v suf (by rw [e]; simp)
  rwa [spRows_append, ← List.append_assoc] at this
def Walked (log : List (List V)) (l : List Sp) (o : Out) (st' : St) : Prop := ∃ b log', o = .ret (.bool b) ∧ st' = [logO log' b] ∧ (b = true → log' = log ++ spRows l)

theorem treeWalk_full1 (t : T) (hs : t.Small) (ov lv : Int) (ok : OkY) (log : List (List V)) (hok : Takes ok log (spT t ov lv))
    (hT : ∀ t' ∈ t.kids, ∀ (ov lv : Int) (log : List (List V)), Takes ok log (spT t' ov lv) → Full Tryd.prog ok 78 [spV (t', ov, lv), .yld 0] [logO log true] (Walked log (spT t' ov lv))) :
    Full Tryd.prog ok 78 [spV (t, ov, lv), .yld 0] [logO log true] (Walked log (spT t ov lv)) := by
  cases hs with
  | @mk id kind text kids g1 g2 g3 g4 g5 =>
  simp only [T.kids] at hT
  have hlr := rows_len kids
  have hok0 : ok log [spV (.mk id kind text kids, ov, lv)] := by simpa [spRows] using hok [] _ _ rfl
  have hokL : Takes ok (log ++ [[spV (.mk id kind text kids, ov, lv)]]) (spL kids id (IntKind.i64.wrap (lv + 1))) := Takes.right (a := [(.mk id kind text kids, ov, lv)]) hok
  refine full_of_awp good Tryd.func78 rfl (by kernel_rfl) (by decide) ?_
  conv => whnf
  refine ⟨hok0, ?_⟩
  intro b
  have hfin : log ++ [[spV (.mk id kind text kids, ov, lv)]] ++ spRows (spL kids id (IntKind.i64.wrap (lv + 1))) = log ++ spRows (spT (.mk id kind text kids) ov lv) := by simp [spT, spRows]
  cases b
  · conv => whnf
    refine ⟨[], false, ?_⟩
    conv => whnf
    exact ⟨false, _, rfl, rfl, by simp⟩
  conv => whnf
  refine loop_drop (fun n fr st => ∃ i : Nat, n + i = kids.length ∧ st = [logO (log ++ [[spV (.mk id kind text kids, ov, lv)]] ++ spRows (spL (kids.take i) id (IntKind.i64.wrap (lv + 1)))) true, ⟨[[.int .i64 id, .str kind, .str text, .sl (T.rows kids), .int .i64 ov, .int .i64 lv]], 6, true, true, true, .cell⟩] ∧ Holds fr [(1, .yld 0), (2, .ptr 1 0 0), (13, .sl (T.rows kids)), (14, .int .i64 kids.length), (15, .int .i64 i)]) kids.length none
    ⟨0, rfl, by show [_, _] = [logO (_ ++ []) true, _]; rw [List.append_nil]; rfl, rfl, rfl, rfl, by rw [← hlr]; rfl, rfl, trivial⟩ ?_
  rintro n fr st ⟨i, hi, rfl, hh⟩
  obtain ⟨fr, rfl⟩ := hh.split
  clear hh
  conv => whnf
  by_cases hlt : i < kids.length
  · rw [ltB_t (by omega)]
    conv => whnf
    refine ⟨by omega, T.rows kids, kids[i].cells, 4, rfl, rows_get kids i hlt, rfl, cells_len _, ?_⟩
    have hc := hT kids[i] (List.getElem_mem _) id (IntKind.i64.wrap (lv + 1)) (log ++ [[spV (.mk id kind text kids, ov, lv)]] ++ spRows (spL (kids.take i) id (IntKind.i64.wrap (lv + 1)))) (by
      refine Takes.right (Takes.left (b := spL (kids.drop (i + 1)) id (IntKind.i64.wrap (lv + 1))) ?_)
      refine cast ?_ hokL
      congr 1
      conv => lhs; rw [← List.take_append_drop i kids, List.drop_eq_getElem_cons hlt]
      rw [spL_append]; simp [spL])
    have htk : spL (kids.take (i + 1)) id (IntKind.i64.wrap (lv + 1)) = spL (kids.take i) id (IntKind.i64.wrap (lv + 1)) ++ spT kids[i] id (IntKind.i64.wrap (lv + 1)) := by
      rw [List.take_succ_eq_append_getElem hlt, spL_append]; simp [spL]
    generalize kids[i] = t at hc htk ⊢
    cases t with
    | mk id' kind' text' kids' =>
    conv => whnf
    refine ⟨[0], false, ?_⟩
    conv => whnf
    refine hc.mono ?_
    rintro o st' ⟨b, log', rfl, rfl, hl⟩
    cases b
    · conv => whnf
      refine ⟨[], false, ?_⟩
      conv => whnf
      exact ⟨false, _, rfl, rfl, by simp⟩
    conv => whnf
    refine ⟨n - 1, by omega, some [0, 1], ?_⟩
    conv => whnf
    refine ⟨i + 1, by omega, ?_, rfl, rfl, rfl, rfl, ?_, trivial⟩
    · show [logO _ _, _] = [logO _ _, _]
      rw [hl rfl, htk, spRows_append, List.append_assoc]
      rfl
    · show V.int .i64 (IntKind.i64.wrap (i + 1)) = _
      rw [wrap64 (by omega) (by omega)]; simp
  · rw [ltB_f (by omega)]
    conv => whnf
    rw [List.take_of_length_le (by omega)]
    refine ⟨[], false, ?_⟩
    conv => whnf
    exact ⟨true, _, rfl, rfl, fun _ => hfin⟩
theorem treeWalk_full (t : T) (hs : t.Small) (ok : OkY) : ∀ (ov lv : Int) (log : List (List V)), Takes ok log (spT t ov lv) → Full Tryd.prog ok 78 [spV (t, ov, lv), .yld 0] [logO log true] (Walked log (spT t ov lv)) := by
  induction hs with
  | @mk id kind text kids g1 g2 g3 g4 g5 ih =>
    intro ov lv log hok
    exact treeWalk_full1 _ (.mk g1 g2 g3 g4 g5) ov lv ok log hok fun t' ht' => ih t' ht'
end Go.Cod

namespace Go.Cod
open Go Go.Proofs
set_option maxRecDepth 10000

def boxT (t : T) : O := ⟨[t.cells], 4, true, true, true, .cell⟩
theorem treeSpots1_full (t : T) (hs : t.Small) (ok : OkY) (hok : Takes ok [] (spT t 0 1)) : Full Tryd.prog ok 77 [.yld 0, .ptr 1 0 0] [logO [] true, boxT t] (fun o st' => ∃ r b log', o = .ret r ∧ st' = [logO log' b, boxT t] ∧ (b = true → log' = spRows (spT t 0 1))) := by
  have hc := treeWalk_full t hs ok 0 1 [] hok
  cases t with
  | mk id kind text kids =>
  refine full_of_awp good Tryd.func77 rfl (by kernel_rfl) (by decide) ?_
  conv => whnf
  refine ⟨[0], false, ?_⟩
  conv => whnf
  refine hc.mono ?_
  rintro o st' ⟨b, log', rfl, rfl, hl⟩
  conv => whnf
  refine ⟨[], false, ?_⟩
  conv => whnf
  exact ⟨_, b, log', rfl, rfl, hl⟩

theorem treeSpots_full (t : T) : Full Tryd.prog noY 42 [.agg t.cells] [] (fun o st' => o = .ret (.fn 77 [.ptr 0 0 0]) ∧ st' = [boxT t]) := by
  cases t with
  | mk id kind text kids =>
  refine full_of_awp good Tryd.func42 rfl (by kernel_rfl) (by decide) ?_
  conv => whnf
  refine ⟨[0], false, ?_⟩
  conv => whnf
  exact ⟨rfl, rfl⟩
end Go.Cod

namespace Go.Cod
open Go Go.Proofs
set_option maxRecDepth 10000

def T.id : T → Int
  | .mk id _ _ _ => id
def T.thing : T → Bool
  | .mk id kind text _ => thingB id kind text
def idS (s : Sp) : Int := s.1.id
theorem T.thing_mk (id : Int) (kind text : List UInt8) (kids : List T) : (T.mk id kind text kids).thing = thingB id kind text := rfl
mutual
theorem spT_ids : ∀ (t : T) (ov lv : Int), (spT t ov lv).map idS = t.ids
  | .mk id kind text kids, ov, lv => by simp [spT, T.ids, spL_ids kids, idS, T.id]
theorem spL_ids : ∀ (ts : List T) (ov lv : Int), (spL ts ov lv).map idS = T.idsL ts
  | [], _, _ => rfl
  | t :: ts, ov, lv => by simp [spL, T.idsL, spT_ids t, spL_ids ts]
end
mutual
theorem plainT_sp : ∀ (t : T) (ov lv : Int), 0 ≤ lv → lv ≤ 7 → (plainT t lv = true ↔ ∀ s ∈ spT t ov lv, s.2.2 ≤ 6 ∧ s.1.thing = true)
  | .mk id kind text kids, ov, lv, h0, h7 => by
    have hw : IntKind.i64.wrap (lv + 1) = lv + 1 := wrap64 (by omega) (by omega)
    simp only [plainT, spT, hw, List.mem_cons, forall_eq_or_imp, T.thing_mk, thingB, Bool.and_eq_true]
    by_cases h6 : lv ≤ 6
    · rw [plainL_sp kids id (lv + 1) (by omega) (by omega)]
      have : ¬ 6 < lv := by omega
      simp [this, h6, and_assoc]
    · have : 6 < lv := by omega
      simp [this, h6]
theorem plainL_sp : ∀ (ts : List T) (ov lv : Int), 0 ≤ lv → lv ≤ 7 → (plainL ts lv = true ↔ ∀ s ∈ spL ts ov lv, s.2.2 ≤ 6 ∧ s.1.thing = true)
  | [], _, _, _, _ => by simp [plainL, spL]
  | t :: ts, ov, lv, h0, h7 => by
    simp only [plainL, spL, Bool.and_eq_true, List.mem_append, plainT_sp t ov lv h0 h7, plainL_sp ts ov lv h0 h7]
    constructor
    · rintro ⟨a, b⟩ s (h | h)
      · exact a s h
      · exact b s h
    · intro h
      exact ⟨fun s hs => h s (.inl hs), fun s hs => h s (.inr hs)⟩
end
def AllOk (l : List Sp) : Prop := (∀ s ∈ l, s.2.2 ≤ 6 ∧ s.1.thing = true) ∧ (l.map idS).Nodup ∧ l.length ≤ 20
theorem AllOk.pre {a b : List Sp} (h : AllOk (a ++ b)) : AllOk a := by
  obtain ⟨h1, h2, h3⟩ := h
  refine ⟨fun s hs => h1 s (by simp [hs]), ?_, by simp at h3; omega⟩
  rw [List.map_append, List.nodup_append] at h2
  exact h2.1
theorem okT_iff (t : T) : okT t = true ↔ AllOk (spT t 0 1) := by
  have h := spT_ids t 0 1
  unfold okT AllOk
  rw [h]
  simp only [Bool.and_eq_true, decide_eq_true_eq, plainT_sp t 0 1 (by omega) (by omega), and_assoc]
  rw [← h, List.length_map]
theorem AllOk.snoc {l : List Sp} {s : Sp} : AllOk (l ++ [s]) ↔ AllOk l ∧ s.2.2 ≤ 6 ∧ s.1.thing = true ∧ idS s ∉ l.map idS ∧ l.length ≠ 20 := by
  unfold AllOk
  simp only [List.mem_append, List.mem_singleton, List.map_append, List.map_cons, List.map_nil, List.nodup_append, List.length_append, List.length_singleton]
  constructor
  · rintro ⟨h1, ⟨h2, _, h3⟩, h4⟩
    refine ⟨⟨fun s hs => h1 s (.inl hs), h2, by omega⟩, (h1 s (.inr rfl)).1, (h1 s (.inr rfl)).2, fun hm => h3 _ hm _ (by simp) rfl, by omega⟩
  · rintro ⟨⟨h1, h2, h4⟩, h5, h6, h7, h8⟩
    refine ⟨?_, ⟨h2, by simp, ?_⟩, by omega⟩
    · rintro s' (h | rfl)
      · exact h1 s' h
      · exact ⟨h5, h6⟩
    · intro a ha b hb e
      subst e; rw [hb] at ha; exact h7 ha

def seenRows (l : List Int) : List (List V) := l.map fun i => [.int .i64 i, .bool true]
theorem seenRows_len (l : List Int) : (seenRows l).length = l.length := by simp [seenRows]
theorem findRow_seen (l : List Int) (x : Int) : findRow (.int .i64 x) (seenRows l) = if x ∈ l then some (.bool true) else none := by
  induction l with
  | nil => rfl
  | cons a l ih =>
    by_cases h : a = x
    · subst h; simp [seenRows, findRow, rowKey, keyEq, rowVal]
    · have : ¬ x = a := fun e => h e.symm
      have e : findRow (.int .i64 x) ([.int .i64 a, .bool true] :: seenRows l) = findRow (.int .i64 x) (seenRows l) := by
        show (if decide (a = x) = true then _ else _) = _
        rw [if_neg (by simpa using h)]
      refine e.trans (ih.trans ?_)
      simp [this]
theorem putRow_seen (l : List Int) (x : Int) (h : x ∉ l) : putRow (.int .i64 x) (.bool true) (seenRows l) = seenRows (l ++ [x]) := by
  induction l with
  | nil => rfl
  | cons a l ih =>
    simp only [List.mem_cons, not_or] at h
    simp only [seenRows, List.map_cons, List.cons_append] at ih ⊢
    have h' : ¬ a = x := fun e => h.1 e.symm
    simp only [putRow, rowKey, keyEq, h', decide_false, Bool.false_eq_true, if_false, ih h.2]

def okbT (t : T) : OkY := fun log vs => ∃ pre s suf, spT t 0 1 = pre ++ s :: suf ∧ log = spRows pre ∧ vs = [spV s]
theorem okbT_takes (t : T) : Takes (okbT t) [] (spT t 0 1) := fun pre v suf e => ⟨pre, v, suf, e, by simp, rfl⟩
theorem spRows_len (l : List Sp) : (spRows l).length = l.length := by simp [spRows]
theorem implTreeOk_pure (t : T) (hs : t.Small) (hsps : ∀ s ∈ spT t 0 1, s.1.Small) : Pure Tryd.prog 14 [.agg t.cells] (· = .bool (okT t)) := by
  have hsp := treeSpots_full t
  have hok := okT_iff t
  have hcl := treeSpots1_full t hs _ (okbT_takes t)
  have hbox : boxT t = ⟨[t.cells], 4, true, true, true, .cell⟩ := rfl
  generalize okT t = okt at *
  have hobt : okbT t = fun log vs => ∃ pre s suf, spT t 0 1 = pre ++ s :: suf ∧ log = spRows pre ∧ vs = [spV s] := rfl
  generalize okbT t = okb at *
  generalize spT t 0 1 = sps at *
  cases t with
  | mk id kind text kids =>
  refine pure_of_awp good Tryd.func14 rfl (by kernel_rfl) (by decide) ?_
  conv => whnf
  refine .inr (.inl ⟨[], false, ?_⟩)
  conv => whnf
  refine hsp.mono ?_
  rintro o st' ⟨rfl, rfl⟩
  conv => whnf
  refine ⟨[4], false, okb, fun log st' => AllOk (sps.take log.length) ∧ st' = [⟨[(T.mk id kind text kids).cells], 4, true, true, true, .cell⟩, ⟨[[.bool false]], 1, true, true, true, .cell⟩, ⟨seenRows ((sps.take log.length).map idS), kindCode .i64, false, true, false, .map⟩, ⟨[[.map 2]], 1, true, true, true, .cell⟩, ⟨[(T.mk id kind text kids).cells], 4, false, true, true, .cell⟩], ?_⟩
  conv => whnf
  refine ⟨⟨⟨by simp, by simp, by simp⟩, rfl⟩, ?_, ?_⟩
  · rintro log vs st' ⟨hall, rfl⟩ ho
    rw [hobt] at ho
    obtain ⟨pre, s, suf, rfl, rfl, rfl⟩ := ho
    have htk : (pre ++ s :: suf).take (spRows pre).length = pre := by rw [spRows_len]; simp
    have htk1 : (pre ++ s :: suf).take (spRows pre ++ [[spV s]]).length = pre ++ [s] := by rw [List.length_append, spRows_len]; show List.take (pre.length + 1) _ = _; rw [List.take_append, List.take_of_length_le (by omega)]; simp
    rw [htk] at hall ⊢
    refine ⟨rfl, ?_⟩
    have hsn := AllOk.snoc (l := pre) (s := s)
    have hno : ¬ AllOk (pre ++ [s]) → okt = false := fun h => by
      cases e : okt
      · rfl
      · exact absurd (AllOk.pre (b := suf) (by simpa using hok.1 e)) h
    obtain ⟨⟨id', kind', text', kids'⟩, ov, lv⟩ := s
    simp only [T.thing_mk, idS, T.id] at hsn
    have hfr := findRow_seen (pre.map idS) id'
    have hpr := putRow_seen (pre.map idS) id'
    conv => whnf
    by_cases a1 : 6 < lv
    · rw [ltB_t a1]
      conv => whnf
      rw [hno fun h => by have : lv ≤ 6 := (hsn.1 h).2.1; omega]
    rw [ltB_f (show lv ≤ 6 by omega)]
    conv => whnf
    rw [seenRows_len, List.length_map]
    by_cases a2 : pre.length = 20
    · rw [eqB_t (by omega)]
      conv => whnf
      rw [hno fun h => by have := (hsn.1 h).2.2.2.2; omega]
    rw [eqB_f (by omega)]
    conv => whnf
    by_cases a3 : id' ∈ pre.map idS
    · rw [if_pos a3] at hfr
      refine AtKey_intro _ hfr ?_
      conv => whnf
      rw [hno fun h => (hsn.1 h).2.2.2.1 a3]
    rw [if_neg a3] at hfr
    refine AtKey_intro _ hfr ?_
    conv => whnf
    obtain ⟨b2, b3⟩ : kind'.length ≤ 1048576 ∧ text'.length ≤ 1048576 := by
      have h := hsps (.mk id' kind' text' kids', ov, lv) (by simp)
      cases h
      exact ⟨by assumption, by assumption⟩
    refine .inl ((treeThingOk_pure id' kind' text' kids' (by omega) (by omega)).mono ?_)
    rintro r rfl
    cases a4 : thingB id' kind' text'
    · conv => whnf
      rw [hno fun h => by have := (hsn.1 h).2.2.1; rw [a4] at this; cases this]
    conv => whnf
    refine ⟨some [0, 1, 2, 3, 4], ?_⟩
    conv => whnf
    have hall' : AllOk (pre ++ [(.mk id' kind' text' kids', ov, lv)]) := hsn.2 ⟨hall, (show lv ≤ 6 by omega), a4, a3, a2⟩
    have hpr := hpr a3
    rw [htk1]
    refine ⟨hall', ?_⟩
    have hse : seenRows ((pre ++ [((.mk id' kind' text' kids', ov, lv) : Sp)]).map idS) = putRow (.int .i64 id') (.bool true) (seenRows (pre.map idS)) := by
      rw [hpr, List.map_append]; rfl
    rw [hse]
    rfl
  · refine hcl.mono ?_
    rintro o st' ⟨r, b, log', rfl, rfl, hl⟩
    refine ⟨_, _, _, rfl, rfl, fun hb st' hI => ?_⟩
    obtain ⟨hall, rfl⟩ := hI
    rw [hl hb, List.take_of_length_le (by rw [spRows_len]; omega)] at hall
    conv => whnf
    rw [hok.2 hall]
end Go.Cod

namespace Go.Cod
open Go Go.Proofs
set_option maxRecDepth 10000

mutual
theorem spT_small : ∀ (t : T) (ov lv : Int), t.Small → ∀ s ∈ spT t ov lv, s.1.Small
  | .mk id kind text kids, ov, lv, h => by
    intro s hs
    rcases List.mem_cons.1 hs with rfl | hs
    · exact h
    · cases h with
      | mk g1 g2 g3 g4 g5 => exact spL_small kids _ _ g5 s hs
theorem spL_small : ∀ (ts : List T) (ov lv : Int), (∀ t ∈ ts, t.Small) → ∀ s ∈ spL ts ov lv, s.1.Small
  | [], _, _, _ => by simp [spL]
  | t :: ts, ov, lv, h => by
    intro s hs
    rcases List.mem_append.1 hs with hs | hs
    · exact spT_small t ov lv (h t (by simp)) s hs
    · exact spL_small ts ov lv (fun t ht => h t (by simp [ht])) s hs
end
theorem implTreeOk (t : T) (hs : t.Small) : Pure Tryd.prog 14 [.agg t.cells] (· = .bool (okT t)) := implTreeOk_pure t hs (spT_small t 0 1 hs)

def spZ : V := .agg [.int .i64 0, .str [], .str [], .nils, .int .i64 0, .int .i64 0]
def isId (id : Int) (s : Sp) : Bool := decide (idS s = id)
def spotR : Option Sp → V
  | some s => .tup [spV s, .bool true]
  | none => .tup [spV (.mk 0 [] [] [], 0, 0), .bool false]
def spotOf (t : T) (id : Int) : Option Sp := if okT t then (spT t 0 1).find? (isId id) else none

theorem treeSpotOf_pure (t : T) (hs : t.Small) (x : Int) : Pure Tryd.prog 47 [.agg t.cells, .int .i64 x] (· = spotR (spotOf t x)) := by
  have hio := implTreeOk t hs
  have hsp := treeSpots_full t
  have hcl := treeSpots1_full t hs _ (okbT_takes t)
  have hbox : boxT t = ⟨[t.cells], 4, true, true, true, .cell⟩ := rfl
  have hso : spotOf t x = if okT t then (spT t 0 1).find? (isId x) else none := rfl
  generalize okT t = okt at *
  generalize spotOf t x = so at *
  have hobt : okbT t = fun log vs => ∃ pre s suf, spT t 0 1 = pre ++ s :: suf ∧ log = spRows pre ∧ vs = [spV s] := rfl
  generalize okbT t = okb at *
  generalize spT t 0 1 = sps at *
  cases t with
  | mk id kind text kids =>
  refine pure_of_awp good Tryd.func47 rfl (by kernel_rfl) (by decide) ?_
  conv => whnf
  refine .inl (hio.mono ?_)
  rintro r rfl
  cases okt
  · conv => whnf
    rw [hso]; rfl
  conv => whnf
  refine .inr (.inl ⟨[], false, ?_⟩)
  conv => whnf
  refine hsp.mono ?_
  rintro o st' ⟨rfl, rfl⟩
  conv => whnf
  refine ⟨[4], false, okb, fun log st' => (sps.take log.length).find? (isId x) = none ∧ st' = [⟨[(T.mk id kind text kids).cells], 4, true, true, true, .cell⟩, ⟨[[.int .i64 x]], 1, true, true, true, .cell⟩, ⟨[spZ.cells], 6, true, true, true, .cell⟩, ⟨[[.bool false]], 1, true, true, true, .cell⟩, ⟨[(T.mk id kind text kids).cells], 4, false, true, true, .cell⟩], ?_⟩
  conv => whnf
  refine ⟨⟨by simp, rfl⟩, ?_, ?_⟩
  · rintro log vs st' ⟨hall, rfl⟩ ho
    rw [hobt] at ho
    obtain ⟨pre, s, suf, rfl, rfl, rfl⟩ := ho
    have htk : (pre ++ s :: suf).take (spRows pre).length = pre := by rw [spRows_len]; simp
    have htk1 : (pre ++ s :: suf).take (spRows pre ++ [[spV s]]).length = pre ++ [s] := by rw [List.length_append, spRows_len]; show List.take (pre.length + 1) _ = _; rw [List.take_append, List.take_of_length_le (by omega)]; simp
    rw [htk] at hall
    refine ⟨rfl, ?_⟩
    have hfs : isId x s = true → so = some s := fun h => by
      rw [hso, if_pos rfl, List.find?_append, hall]; simp [h]
    have hfn : isId x s = false → (pre ++ [s]).find? (isId x) = none := fun h => by
      rw [List.find?_append, hall]; simp [h]
    obtain ⟨⟨id', kind', text', kids'⟩, ov, lv⟩ := s
    have hid : isId x (T.mk id' kind' text' kids', ov, lv) = decide (id' = x) := rfl
    rw [hid] at hfs hfn
    conv => whnf
    by_cases a1 : id' = x
    · rw [eqB_t a1]
      conv => whnf
      rw [hfs (by simpa using a1)]
      rfl
    · rw [eqB_f a1]
      conv => whnf
      refine ⟨some [0, 1, 2, 3, 4], ?_⟩
      conv => whnf
      rw [htk1]
      exact ⟨hfn (by simpa using a1), rfl⟩
  · refine hcl.mono ?_
    rintro o st' ⟨r, b, log', rfl, rfl, hl⟩
    refine ⟨_, _, _, rfl, rfl, fun hb st' hI => ?_⟩
    obtain ⟨hall, rfl⟩ := hI
    rw [hl hb, List.take_of_length_le (by rw [spRows_len]; omega)] at hall
    conv => whnf
    rw [hso, if_pos rfl, hall]
    rfl

mutual
def overT : T → Int → Int → Int
  | .mk i _ _ kids, x, ov => if i = x then ov else overL kids x i
def overL : List T → Int → Int → Int
  | [], _, _ => -1
  | t :: ts, x, ov => if 0 ≤ overT t x ov then overT t x ov else overL ts x ov
end
def ovO : Option Sp → Int
  | some s => s.2.1
  | none => -1
mutual
theorem overT_eq : ∀ (t : T) (x ov lv : Int), 0 ≤ ov → (∀ i ∈ t.ids, 0 ≤ i) → overT t x ov = ovO ((spT t ov lv).find? (isId x)) ∧ (0 ≤ overT t x ov ↔ ((spT t ov lv).find? (isId x)).isSome = true)
  | .mk i k tx kids, x, ov, lv, h0, hi => by
    have e : isId x (T.mk i k tx kids, ov, lv) = decide (i = x) := rfl
    simp only [T.ids, List.mem_cons, forall_eq_or_imp] at hi
    simp only [overT, spT, List.find?_cons, e]
    by_cases h : i = x
    · simp [h, ovO, h0]
    · simpa [h] using overL_eq kids x i (IntKind.i64.wrap (lv + 1)) hi.1 hi.2
theorem overL_eq : ∀ (ts : List T) (x ov lv : Int), 0 ≤ ov → (∀ i ∈ T.idsL ts, 0 ≤ i) → overL ts x ov = ovO ((spL ts ov lv).find? (isId x)) ∧ (0 ≤ overL ts x ov ↔ ((spL ts ov lv).find? (isId x)).isSome = true)
  | [], x, ov, lv, h0, hi => by simp [overL, spL, ovO]
  | t :: ts, x, ov, lv, h0, hi => by
    simp only [T.idsL, List.mem_append] at hi
    obtain ⟨h1, h2⟩ := overT_eq t x ov lv h0 fun i h => hi i (.inl h)
    obtain ⟨h3, h4⟩ := overL_eq ts x ov lv h0 fun i h => hi i (.inr h)
    simp only [overL, spL, List.find?_append]
    by_cases h : 0 ≤ overT t x ov
    · rw [if_pos h]
      obtain ⟨s, e⟩ := Option.isSome_iff_exists.1 (h2.1 h)
      rw [e] at h1 ⊢
      simp [h1, ovO] at h ⊢
      exact h
    · rw [if_neg h]
      have : (spT t ov lv).find? (isId x) = none := by
        cases e : (spT t ov lv).find? (isId x) with
        | none => rfl
        | some s => exact absurd (h2.2 (by rw [e]; rfl)) h
      rw [this, Option.none_or]
      exact ⟨h3, h4⟩
end

theorem overL_drop (ts : List T) (i : Nat) (h : i < ts.length) (x ov : Int) : overL (ts.drop i) x ov = if 0 ≤ overT ts[i] x ov then overT ts[i] x ov else overL (ts.drop (i + 1)) x ov := by
  rw [List.drop_eq_getElem_cons h]; simp [overL]

theorem l2Over_pure1 (t : T) (hs : t.Small) (x ov : Int) (hT : ∀ t' ∈ t.kids, ∀ ov : Int, Pure Tryd.prog 56 [.agg t'.cells, .int .i64 x, .int .i64 ov] (· = .int .i64 (overT t' x ov))) :
    Pure Tryd.prog 56 [.agg t.cells, .int .i64 x, .int .i64 ov] (· = .int .i64 (overT t x ov)) := by
  cases hs with
  | @mk id kind text kids g1 g2 g3 g4 g5 =>
  simp only [T.kids] at hT
  have hlr := rows_len kids
  have hov : overT (.mk id kind text kids) x ov = if id = x then ov else overL kids x id := rfl
  refine pure_of_awp good Tryd.func56 rfl (by kernel_rfl) (by decide) ?_
  conv => whnf
  by_cases a1 : id = x
  · rw [eqB_t a1]
    conv => whnf
    rw [hov, if_pos a1]
  rw [eqB_f a1]
  conv => whnf
  rw [if_neg a1] at hov
  refine loop_intro (fun n fr st => ∃ i : Nat, n + i = kids.length ∧ st = [⟨[[.int .i64 id, .str kind, .str text, .sl (T.rows kids)]], 4, true, true, true, .cell⟩] ∧ overL kids x id = overL (kids.drop i) x id ∧ Holds fr [(1, .int .i64 x), (3, .ptr 0 0 0), (7, .int .i64 i)]) kids.length
    ⟨0, rfl, rfl, rfl, rfl, rfl, rfl, trivial⟩ ?_
  rintro n fr st ⟨i, hi, rfl, hx, hh⟩
  obtain ⟨fr, rfl⟩ := hh.split
  clear hh
  conv => whnf
  by_cases hlt : i < kids.length
  · rw [ltB_t (by omega)]
    conv => whnf
    refine ⟨by omega, T.rows kids, kids[i].cells, 4, rfl, rows_get kids i hlt, rfl, cells_len _, ?_⟩
    have hc := hT kids[i] (List.getElem_mem _) id
    rw [overL_drop kids i hlt] at hx
    generalize kids[i] = t at hc hx ⊢
    cases t with
    | mk id' kind' text' kids' =>
    conv => whnf
    refine ⟨_, .inl hc, ?_⟩
    by_cases a2 : 0 ≤ overT (.mk id' kind' text' kids') x id
    · conv => whnf
      rw [leB_t a2]
      conv => whnf
      rw [hov, hx, if_pos a2]
    · conv => whnf
      rw [leB_f (by omega)]
      conv => whnf
      rw [if_neg a2] at hx
      refine ⟨n - 1, by omega, i + 1, by omega, rfl, hx, rfl, rfl, ?_, trivial⟩
      show V.int .i64 (IntKind.i64.wrap (i + 1)) = _
      rw [wrap64 (by omega) (by omega)]; simp
  · rw [ltB_f (by omega)]
    conv => whnf
    rw [List.drop_of_length_le (by omega)] at hx
    rw [hov, hx]
    rfl
theorem l2Over_pure (t : T) (hs : t.Small) (x : Int) : ∀ ov : Int, Pure Tryd.prog 56 [.agg t.cells, .int .i64 x, .int .i64 ov] (· = .int .i64 (overT t x ov)) := by
  induction hs with
  | @mk id kind text kids g1 g2 g3 g4 g5 ih =>
    intro ov
    exact l2Over_pure1 _ (.mk g1 g2 g3 g4 g5) x ov ih

mutual
theorem plainT_ids : ∀ (t : T) (lv : Int), plainT t lv = true → ∀ i ∈ t.ids, 0 ≤ i
  | .mk id kind text kids, lv, h => by
    simp only [plainT, Bool.and_eq_true, decide_eq_true_eq] at h
    simp only [T.ids, List.mem_cons, forall_eq_or_imp]
    exact ⟨by omega, plainL_ids kids _ h.2⟩
theorem plainL_ids : ∀ (ts : List T) (lv : Int), plainL ts lv = true → ∀ i ∈ T.idsL ts, 0 ≤ i
  | [], _, _ => by simp [T.idsL]
  | t :: ts, lv, h => by
    simp only [plainL, Bool.and_eq_true] at h
    simp only [T.idsL, List.mem_append]
    rintro i (hi | hi)
    · exact plainT_ids t lv h.1 i hi
    · exact plainL_ids ts lv h.2 i hi
end
theorem okT_ids {t : T} (h : okT t = true) : ∀ i ∈ t.ids, 0 ≤ i := by
  unfold okT at h
  simp only [Bool.and_eq_true] at h
  exact plainT_ids t 1 h.1.1
def treeOver (t : T) (x : Int) : Int := ovO (spotOf t x)
end Go.Cod

namespace Go.Cod
open Go Go.Proofs
set_option maxRecDepth 10000

mutual
theorem spT_over : ∀ (t : T) (ov lv : Int), ∀ s ∈ spT t ov lv, (s.2.1 = ov ∧ s.2.2 = lv) ∨ ∃ s' ∈ spT t ov lv, idS s' = s.2.1 ∧ s.2.2 = IntKind.i64.wrap (s'.2.2 + 1)
  | .mk id kind text kids, ov, lv => by
    intro s hs
    rcases List.mem_cons.1 hs with rfl | hs
    · exact .inl ⟨rfl, rfl⟩
    · rcases spL_over kids id (IntKind.i64.wrap (lv + 1)) s hs with ⟨h1, h2⟩ | ⟨s', h1, h2⟩
      · exact .inr ⟨_, List.mem_cons_self, h1.symm, h2⟩
      · exact .inr ⟨s', List.mem_cons_of_mem _ h1, h2⟩
theorem spL_over : ∀ (ts : List T) (ov lv : Int), ∀ s ∈ spL ts ov lv, (s.2.1 = ov ∧ s.2.2 = lv) ∨ ∃ s' ∈ spL ts ov lv, idS s' = s.2.1 ∧ s.2.2 = IntKind.i64.wrap (s'.2.2 + 1)
  | [], _, _ => by simp [spL]
  | t :: ts, ov, lv => by
    intro s hs
    rcases List.mem_append.1 hs with hs | hs
    · rcases spT_over t ov lv s hs with h | ⟨s', h1, h2⟩
      · exact .inl h
      · exact .inr ⟨s', List.mem_append_left _ h1, h2⟩
    · rcases spL_over ts ov lv s hs with h | ⟨s', h1, h2⟩
      · exact .inl h
      · exact .inr ⟨s', List.mem_append_right _ h1, h2⟩
end
mutual
theorem spT_low : ∀ (t : T) (ov lv : Int), 0 ≤ lv → plainT t lv = true → ∀ s ∈ spT t ov lv, lv ≤ s.2.2
  | .mk id kind text kids, ov, lv, h0, h => by
    simp only [plainT, Bool.and_eq_true, Bool.not_eq_true', decide_eq_false_iff_not] at h
    have hw : IntKind.i64.wrap (lv + 1) = lv + 1 := wrap64 (by omega) (by omega)
    intro s hs
    rcases List.mem_cons.1 hs with rfl | hs
    · exact Int.le_refl _
    · rw [hw] at hs
      have := spL_low kids id (lv + 1) (by omega) h.2 s hs
      omega
theorem spL_low : ∀ (ts : List T) (ov lv : Int), 0 ≤ lv → plainL ts lv = true → ∀ s ∈ spL ts ov lv, lv ≤ s.2.2
  | [], _, _, _, _ => by simp [spL]
  | t :: ts, ov, lv, h0, h => by
    simp only [plainL, Bool.and_eq_true] at h
    intro s hs
    rcases List.mem_append.1 hs with hs | hs
    · exact spT_low t ov lv h0 h.1 s hs
    · exact spL_low ts ov lv h0 h.2 s hs
end
mutual
theorem plainT_pos : ∀ (t : T) (lv : Int), plainT t lv = true → ∀ i ∈ t.ids, 1 ≤ i
  | .mk id kind text kids, lv, h => by
    simp only [plainT, Bool.and_eq_true, decide_eq_true_eq] at h
    simp only [T.ids, List.mem_cons, forall_eq_or_imp]
    exact ⟨by omega, plainL_pos kids _ h.2⟩
theorem plainL_pos : ∀ (ts : List T) (lv : Int), plainL ts lv = true → ∀ i ∈ T.idsL ts, 1 ≤ i
  | [], _, _ => by simp [T.idsL]
  | t :: ts, lv, h => by
    simp only [plainL, Bool.and_eq_true] at h
    simp only [T.idsL, List.mem_append]
    rintro i (hi | hi)
    · exact plainT_pos t lv h.1 i hi
    · exact plainL_pos ts lv h.2 i hi
end
theorem nodup_inj {l : List Sp} (h : (l.map idS).Nodup) {s s' : Sp} (h1 : s ∈ l) (h2 : s' ∈ l) (e : idS s = idS s') : s = s' := by
  induction l with
  | nil => simp at h1
  | cons a l ih =>
    simp only [List.map_cons, List.nodup_cons, List.mem_map, not_exists, not_and] at h
    rcases List.mem_cons.1 h1 with q1 | q1
    · rcases List.mem_cons.1 h2 with q2 | q2
      · rw [q1, q2]
      · exact absurd (by rw [← e, q1]) (h.1 s' q2)
    · rcases List.mem_cons.1 h2 with q2 | q2
      · exact absurd (by rw [e, q2]) (h.1 s q1)
      · exact ih h.2 q1 q2
theorem find_of {l : List Sp} (h : (l.map idS).Nodup) {s : Sp} (h1 : s ∈ l) : l.find? (isId (idS s)) = some s := by
  cases e : l.find? (isId (idS s)) with
  | none => exact absurd (List.find?_eq_none.1 e s h1) (by simp [isId])
  | some s' =>
    have h2 := List.mem_of_find?_eq_some e
    have h3 := List.find?_some e
    simp [isId] at h3
    rw [nodup_inj h h2 h1 h3]

def lvO : Option Sp → Int
  | some s => s.2.2
  | none => 0
def treeLevel (t : T) (x : Int) : Int := lvO (spotOf t x)

/-- One step up. -/
theorem up_step {t : T} (h : okT t = true) {x : Int} {s : Sp} (hx : spotOf t x = some s) :
    overT t x 0 = s.2.1 ∧ 1 ≤ s.2.2 ∧ s.2.2 ≤ 6 ∧ 1 ≤ x ∧ 0 ≤ s.2.1 ∧ ((s.2.1 = 0 ∧ s.2.2 = 1) ∨ ∃ s', spotOf t s.2.1 = some s' ∧ s'.2.2 + 1 = s.2.2 ∧ 1 ≤ s.2.1) := by
  have hall := (okT_iff t).1 h
  have hpl : plainT t 1 = true := by unfold okT at h; simp only [Bool.and_eq_true] at h; exact h.1.1
  have hso : ∀ y, spotOf t y = (spT t 0 1).find? (isId y) := fun y => by unfold spotOf; rw [if_pos h]
  rw [hso] at hx
  have hm := List.mem_of_find?_eq_some hx
  have hi := List.find?_some hx
  simp [isId] at hi
  have h1 := (overT_eq t x 0 1 (by omega) (okT_ids h)).1
  rw [hx] at h1
  have h2 := spT_low t 0 1 (by omega) hpl s hm
  have h3 := (hall.1 s hm).1
  have hids := spT_ids t 0 1
  have hp : ∀ s' ∈ spT t 0 1, 1 ≤ idS s' := fun s' hs' => plainT_pos t 1 hpl _ (by rw [← hids]; exact List.mem_map_of_mem hs')
  have h4 := hp s hm
  rw [hi] at h4
  rcases spT_over t 0 1 s hm with ⟨e1, e2⟩ | ⟨s', m', e1, e2⟩
  · exact ⟨h1, h2, h3, h4, by omega, .inl ⟨e1, e2⟩⟩
  · have h5 := spT_low t 0 1 (by omega) hpl s' m'
    have h6 := (hall.1 s' m').1
    rw [wrap64 (by omega) (by omega)] at e2
    have h7 := hp s' m'
    refine ⟨h1, h2, h3, h4, by omega, .inr ⟨s', ?_, by omega, by omega⟩⟩
    rw [hso, ← e1]
    exact find_of hall.2.1 m'

end Go.Cod

namespace Go.Cod
open Go Go.Proofs
set_option maxRecDepth 10000

theorem implTreeOver_pure (t : T) (hs : t.Small) (x : Int) : Pure Tryd.prog 30 [.agg t.cells, .int .i64 x] (· = .int .i64 (treeOver t x)) := by
  have h1 := treeSpotOf_pure t hs x
  have h2 : treeOver t x = ovO (spotOf t x) := rfl
  generalize treeOver t x = r at *
  generalize spotOf t x = so at *
  cases t with
  | mk id kind text kids =>
  refine pure_of_awp good Tryd.func30 rfl (by kernel_rfl) (by decide) ?_
  conv => whnf
  refine .inl (h1.mono ?_)
  rintro r rfl
  cases so with
  | none =>
    conv => whnf
    rw [h2]; rfl
  | some s =>
    obtain ⟨⟨id', kind', text', kids'⟩, ov, lv⟩ := s
    conv => whnf
    rw [h2]; rfl
end Go.Cod

namespace Go.Cod
open Go Go.Proofs
set_option maxRecDepth 10000

/-- A tree whose slices lie in a pool: block and capacity of what is in a thing. -/
inductive LT where
  | mk (id : Int) (kind text : List UInt8) (h : Option (Nat × Nat)) (kids : List LT)

def hdV : Option (Nat × Nat) → Nat → V
  | none, _ => .sl []
  | some (b, c), n => .dref b n c
def LT.cells : LT → List V
  | .mk id kind text h kids => [.int .i64 id, .str kind, .str text, hdV h kids.length]
def LT.rows (ls : List LT) : List (List V) := ls.map LT.cells
mutual
def LT.erase : LT → T
  | .mk id kind text _ kids => .mk id kind text (LT.eraseL kids)
def LT.eraseL : List LT → List T
  | [] => []
  | l :: ls => l.erase :: LT.eraseL ls
end
/-- The blocks of a list and of all in it. -/
def rootE : Option (Nat × Nat) → List LT → List (List V)
  | none, _ => []
  | some (b, c), kids => [ent b c 4 (LT.rows kids)]
mutual
def LT.ents : LT → List (List V)
  | .mk _ _ _ h kids => LT.entsL kids ++ rootE h kids
def LT.entsL : List LT → List (List V)
  | [] => []
  | l :: ls => l.ents ++ LT.entsL ls
end
mutual
/-- Where there is no block nothing is in it. -/
def LT.Wf : LT → Prop
  | .mk _ _ _ h kids => (h = none → kids = []) ∧ LT.WfL kids
def LT.WfL : List LT → Prop
  | [] => True
  | l :: ls => l.Wf ∧ LT.WfL ls
end
theorem LT.eraseL_eq (ls : List LT) : LT.eraseL ls = ls.map LT.erase := by
  induction ls with
  | nil => rfl
  | cons l ls ih => simp [LT.eraseL, ih]
theorem LT.entsL_eq (ls : List LT) : LT.entsL ls = (ls.map LT.ents).flatten := by
  induction ls with
  | nil => rfl
  | cons l ls ih => simp [LT.entsL, ih]
theorem LT.entsL_append (a b : List LT) : LT.entsL (a ++ b) = LT.entsL a ++ LT.entsL b := by simp [LT.entsL_eq]
theorem LT.WfL_iff (ls : List LT) : LT.WfL ls ↔ ∀ l ∈ ls, l.Wf := by
  induction ls with
  | nil => simp [LT.WfL]
  | cons l ls ih => simp [LT.WfL, ih]
theorem LT.eraseL_len (ls : List LT) : (LT.eraseL ls).length = ls.length := by simp [LT.eraseL_eq]
theorem LT.rows_len (ls : List LT) : (LT.rows ls).length = ls.length := by simp [LT.rows]
theorem LT.cells_len (l : LT) : l.cells.length = 4 := by cases l; rfl
theorem LT.rows_get (ls : List LT) (i : Nat) (h : i < ls.length) : (LT.rows ls)[i]? = some ls[i].cells := by simp [LT.rows, h]
theorem hdV_ok (h : Option (Nat × Nat)) (n : Nat) : (hdV h n).leaf = true ∧ (hdV h n).clean 0 = true ∧ (hdV h n).flat = true := by
  rcases h with _ | ⟨b, c⟩ <;> exact ⟨rfl, rfl, rfl⟩
theorem T.cells_ok (t : T) : V.clean.cleanL 0 t.cells = true ∧ ∀ x ∈ t.cells, x.leaf = true := by
  cases t with
  | mk id kind text kids => exact ⟨rfl, by simp [T.cells, V.leaf]⟩
theorem T.rows_ok (ts : List T) : V.clean.cleanLL 0 (T.rows ts) = true ∧ ∀ e ∈ T.rows ts, ∀ x ∈ e, x.leaf = true := by
  rw [T.rows_eq]
  refine ⟨?_, fun e he => ?_⟩
  · rw [cleanLL_iff]
    intro e he
    obtain ⟨t, _, rfl⟩ := List.mem_map.1 he
    exact t.cells_ok.1
  · obtain ⟨t, _, rfl⟩ := List.mem_map.1 he
    exact t.cells_ok.2

mutual
/-- As others see it. -/
theorem LT.view {es : List (List V)} : ∀ (l : LT), l.Wf → (∀ e ∈ l.ents, e ∈ es) → ViewL es l.cells l.erase.cells
  | .mk id kind text h kids, hw, he => by
    simp only [LT.Wf] at hw
    simp only [LT.ents, List.mem_append] at he
    have hk := LT.viewL kids hw.2 (fun e h => he e (.inl h))
    simp only [LT.cells, LT.erase, T.cells]
    refine ⟨rfl, fun i x y a b => ?_⟩
    match i, a, b with
    | 0, a, b => simp at a b; subst a; subst b; exact .same _
    | 1, a, b => simp at a b; subst a; subst b; exact .same _
    | 2, a, b => simp at a b; subst a; subst b; exact .same _
    | 3, a, b =>
      simp at a b; subst a; subst b
      rcases h with _ | ⟨b, c⟩
      · rw [hw.1 rfl]; exact .same _
      · refine .dref (sz := 4) (rows := LT.rows kids) (he _ (.inr (by simp [rootE]))) (LT.rows_len kids).symm (by rw [T.rows_eq, List.length_map, LT.eraseL_len, LT.rows_len]) (T.rows_ok _).1 (T.rows_ok _).2 (fun i r r' p q => ?_) (fun i r r' j x y p q u v => ?_)
        · simp only [LT.rows, List.getElem?_map, Option.map_eq_some_iff] at p
          obtain ⟨l, _, rfl⟩ := p
          rw [T.rows_eq, List.getElem?_map, Option.map_eq_some_iff] at q
          obtain ⟨t, _, rfl⟩ := q
          rw [LT.cells_len, _root_.Go.Cod.cells_len]
        · simp only [LT.rows, List.getElem?_map, Option.map_eq_some_iff] at p
          obtain ⟨l, hl, rfl⟩ := p
          rw [T.rows_eq, LT.eraseL_eq, List.map_map, List.getElem?_map, hl] at q
          simp only [Option.map_some, Option.some.injEq] at q
          subst q
          exact (hk l (List.mem_of_getElem? hl)).2 j x y u (by simpa [Function.comp] using v)
    | i + 4, a, b => simp at a
theorem LT.viewL {es : List (List V)} : ∀ (ls : List LT), LT.WfL ls → (∀ e ∈ LT.entsL ls, e ∈ es) → ∀ l ∈ ls, ViewL es l.cells l.erase.cells
  | [], _, _, l, h => by simp at h
  | l :: ls, hw, he, l', h => by
    simp only [LT.WfL] at hw
    simp only [LT.entsL, List.mem_append] at he
    have h0 := LT.view l hw.1 fun e h => he e (.inl h)
    rcases List.mem_cons.1 h with h | h
    · rw [h]; exact h0
    · exact LT.viewL ls hw.2 (fun e h => he e (.inr h)) l' h
end
theorem LT.viewA {es : List (List V)} (l : LT) (hw : l.Wf) (he : ∀ e ∈ l.ents, e ∈ es) : View es (.agg l.cells) (.agg l.erase.cells) := .agg (LT.view l hw he).1 (LT.view l hw he).2

/-- Slices made so far, and what is nothing yet. -/
def lmix (ls : List LT) (n : Nat) : List (List V) := LT.rows ls ++ List.replicate (n - ls.length) zrow
theorem lmix_get (ls : List LT) (n : Nat) (h : ls.length < n) : (lmix ls n)[ls.length]? = some zrow := by
  unfold lmix
  rw [List.getElem?_append_right (by rw [LT.rows_len]; exact Nat.le_refl _), LT.rows_len, Nat.sub_self, List.getElem?_replicate, if_pos (by omega)]
theorem lmix_set (ls : List LT) (n : Nat) (h : ls.length < n) (l : LT) : (lmix ls n).set ls.length l.cells = lmix (ls ++ [l]) n := by
  unfold lmix
  rw [List.set_append_right _ _ (by rw [LT.rows_len]; exact Nat.le_refl _), LT.rows_len, Nat.sub_self, show n - ls.length = (n - (ls ++ [l]).length) + 1 by simp; omega, List.replicate_succ, List.set_cons_zero]
  simp [LT.rows]
theorem lmix_all (ls : List LT) (n : Nat) (h : ls.length = n) : lmix ls n = LT.rows ls := by
  unfold lmix
  rw [h, Nat.sub_self]; simp

/-- A tree in one's own memory. -/
def TreeAcc (t : T) (es : List (List V)) (o : Out) (st' : St) : Prop := ∃ b c ls, LT.eraseL ls = t.kids ∧ LT.WfL ls ∧ (∃ id kind text, t = .mk id kind text t.kids ∧ o = .ret (.agg [.int .i64 id, .str kind, .str text, .dref b ls.length c])) ∧ st' = [poolO (es ++ (LT.entsL ls ++ [ent b c 4 (LT.rows ls)]))]
theorem toTreeS_acc (ts : List T) (hl : ts.length ≤ 1048576) (es : List (List V)) (hT : ∀ t ∈ ts, ∀ es, Full Tryd.prog noY 24 [.agg t.cells] [poolO es] (TreeAcc t es)) :
    Full Tryd.prog noY 58 [.sl (T.rows ts)] [poolO es] fun o st' => ∃ b c ls, LT.eraseL ls = ts ∧ LT.WfL ls ∧ o = .ret (.dref b ls.length c) ∧ st' = [poolO (es ++ (LT.entsL ls ++ [ent b c 4 (LT.rows ls)]))] := by
  have hlr := Go.Cod.rows_len ts
  refine Full.absorb (R := fun o st' => ∃ ls, LT.eraseL ls = ts ∧ LT.WfL ls ∧ o = .ret (.own 1) ∧ st' = [poolO (es ++ LT.entsL ls), ⟨LT.rows ls, 4, true, true, false, .cell⟩]) ?_ ?_
  · refine full_of_awp good Tryd.func58 rfl (by kernel_rfl) (by decide) ?_
    conv => whnf
    refine ⟨by omega, by omega, ?_⟩
    conv => whnf
    refine ⟨by show (Int.toNat _) * 64 ≤ _; omega, by omega, ?_⟩
    conv => whnf
    refine loop_drop (fun n fr st => ∃ ls : List LT, n + ls.length = ts.length ∧ LT.eraseL ls = ts.take ls.length ∧ LT.WfL ls ∧ st = [poolO (es ++ LT.entsL ls), ⟨lmix ls ts.length, 4, true, true, false, .cell⟩] ∧ Holds fr [(0, .sl (T.rows ts)), (3, .own 1), (4, .int .i64 ls.length)]) ts.length none
      ⟨[], rfl, rfl, trivial, by simp [lmix, hlr, zrow, V.cells, LT.entsL, LT.rows]; rfl, rfl, rfl, rfl, trivial⟩ ?_
    rintro n fr st ⟨ls, hi, her, hwf, rfl, hh⟩
    obtain ⟨fr, rfl⟩ := hh.split
    clear hh
    conv => whnf
    by_cases hlt : ls.length < ts.length
    · rw [ltB_t (by omega)]
      conv => whnf
      refine ⟨by omega, T.rows ts, ts[ls.length].cells, 4, rfl, Go.Cod.rows_get ts ls.length hlt, rfl, Go.Cod.cells_len _, ?_⟩
      have hc := hT ts[ls.length] (List.getElem_mem _) (es ++ LT.entsL ls)
      have hm := lmix_set ls ts.length hlt
      have hmg := lmix_get ls ts.length hlt
      have htk : ts.take (ls.length + 1) = ts.take ls.length ++ [ts[ls.length]] := by rw [List.take_succ_eq_append_getElem hlt]
      generalize ts[ls.length] = t at hc hm htk
      cases t with
      | mk id kind text kids =>
      conv => whnf
      refine .inr (.inl ⟨[0], false, ?_⟩)
      conv => whnf
      refine hc.mono ?_
      rintro o st' ⟨b, c, ks, hks, hkw, ⟨id', kind', text', ht, rfl⟩, rfl⟩
      simp only [T.kids] at hks ht
      obtain ⟨rfl, rfl, rfl, _⟩ := T.mk.inj ht
      conv => whnf
      refine ⟨by omega, lmix ls ts.length, zrow, 4, rfl, hmg, rfl, rfl, ?_⟩
      conv => whnf
      refine AtRow_intro zrow hmg ?_
      conv => whnf
      have hm' := hm (.mk id kind text (some (b, c)) ks)
      refine ⟨n - 1, by omega, none, ls ++ [.mk id kind text (some (b, c)) ks], by simp; omega, ?_, ?_, ?_, rfl, rfl, ?_, trivial⟩
      · rw [List.length_append, List.length_singleton, htk, LT.eraseL_eq, List.map_append, ← LT.eraseL_eq, her]
        simp [LT.erase, hks]
      · rw [LT.WfL_iff] at hwf ⊢
        intro l hl
        rcases List.mem_append.1 hl with hl | hl
        · exact hwf l hl
        · simp at hl; subst hl; exact ⟨by simp, hkw⟩
      · rw [← hm', LT.entsL_append]
        simp only [LT.entsL, LT.ents, rootE, List.append_nil, List.append_assoc]
        rfl
      · show V.int .i64 (IntKind.i64.wrap (ls.length + 1)) = _
        rw [wrap64 (by omega) (by omega)]; simp
    · rw [ltB_f (by omega)]
      conv => whnf
      have he : ls.length = ts.length := by
        have : (LT.eraseL ls).length = (ts.take ls.length).length := by rw [her]
        rw [LT.eraseL_len] at this; simp at this; omega
      refine ⟨[1], false, ?_⟩
      conv => whnf
      refine ⟨ls, ?_, hwf, rfl, ?_⟩
      · rw [her, he]; simp
      · rw [lmix_all _ _ he]; rfl
  · rintro o st' ⟨ls, h1, h2, rfl, rfl⟩
    refine ⟨.own 1, [poolO (es ++ LT.entsL ls)], 0, es ++ LT.entsL ls, LT.rows ls, 4, rfl, rfl, rfl, Nat.le_refl _, by simp [poolO], fun b c => ⟨rfl, b, c, ls, h1, h2, ?_, ?_⟩⟩
    · rw [LT.rows_len]; rfl
    · simp
theorem toTree_acc1 (t : T) (es : List (List V)) (hL : Full Tryd.prog noY 58 [.sl (T.rows t.kids)] [poolO es] fun o st' => ∃ b c ls, LT.eraseL ls = t.kids ∧ LT.WfL ls ∧ o = .ret (.dref b ls.length c) ∧ st' = [poolO (es ++ (LT.entsL ls ++ [ent b c 4 (LT.rows ls)]))]) :
    Full Tryd.prog noY 24 [.agg t.cells] [poolO es] (TreeAcc t es) := by
  cases t with
  | mk id kind text kids =>
  simp only [T.kids] at hL
  refine full_of_awp good Tryd.func24 rfl (by kernel_rfl) (by decide) ?_
  conv => whnf
  refine .inr (.inl ⟨[0], false, ?_⟩)
  conv => whnf
  refine hL.mono ?_
  rintro o st' ⟨b, c, ls, h1, h2, rfl, rfl⟩
  conv => whnf
  refine ⟨[], false, ?_⟩
  conv => whnf
  exact ⟨b, c, ls, h1, h2, ⟨id, kind, text, rfl, rfl⟩, rfl⟩
theorem toTree_acc (t : T) (ht : t.Small) : ∀ es, Full Tryd.prog noY 24 [.agg t.cells] [poolO es] (TreeAcc t es) := by
  induction ht with
  | @mk id kind text kids g1 g2 g3 g4 g5 ih => exact fun es => toTree_acc1 _ es (toTreeS_acc kids g4 es ih)
end Go.Cod

namespace Go.Cod
open Go Go.Proofs
set_option maxRecDepth 10000

def digs (k : Nat) (acc : List UInt8) : List UInt8 := if h : k = 0 then acc else digs (k / 10) (UInt8.ofNat (48 + k % 10) :: acc)
termination_by k
decreasing_by omega
def mt (k : Int) : List UInt8 := if k ≤ 0 then [109, 48] else 109 :: digs k.toNat []

end Go.Cod

namespace Go.Cod
open Go Go.Proofs
set_option maxRecDepth 10000

/- Things counted; marked. -/
mutual
def LT.size : LT → Nat
  | .mk _ _ _ _ kids => 1 + LT.sizeL kids
def LT.sizeL : List LT → Nat
  | [] => 0
  | l :: ls => l.size + LT.sizeL ls
end
mutual
def LT.marked : LT → Int → LT
  | .mk _ _ _ h kids, k => .mk k (mt (k + 1)) (mt (k + 2)) h (LT.markedL kids (k + 3))
def LT.markedL : List LT → Int → List LT
  | [], _ => []
  | l :: ls, k => l.marked k :: LT.markedL ls (k + 3 * l.size)
end
mutual
def LT.labs : LT → List Nat
  | .mk _ _ _ h kids => LT.labsL kids ++ (match h with | none => [] | some (b, _) => [b])
def LT.labsL : List LT → List Nat
  | [] => []
  | l :: ls => l.labs ++ LT.labsL ls
end
theorem LT.size_pos (l : LT) : 1 ≤ l.size := by cases l; simp [LT.size]
theorem LT.sizeL_append (a b : List LT) : LT.sizeL (a ++ b) = LT.sizeL a + LT.sizeL b := by
  induction a with
  | nil => simp [LT.sizeL]
  | cons l ls ih => simp [LT.sizeL, ih]; omega
theorem LT.labsL_append (a b : List LT) : LT.labsL (a ++ b) = LT.labsL a ++ LT.labsL b := by
  induction a with
  | nil => rfl
  | cons l ls ih => simp [LT.labsL, ih]
theorem LT.markedL_len : ∀ (ls : List LT) (k : Int), (LT.markedL ls k).length = ls.length
  | [], _ => rfl
  | l :: ls, k => by simp [LT.markedL, LT.markedL_len ls]
theorem LT.markedL_append : ∀ (a b : List LT) (k : Int), LT.markedL (a ++ b) k = LT.markedL a k ++ LT.markedL b (k + 3 * LT.sizeL a)
  | [], b, k => by simp [LT.markedL, LT.sizeL]
  | l :: a, b, k => by
    simp only [List.cons_append, LT.markedL, LT.markedL_append a b, LT.sizeL]
    congr 3
    push_cast; omega
mutual
theorem LT.labs_marked : ∀ (l : LT) (k : Int), (l.marked k).labs = l.labs
  | .mk _ _ _ h kids, k => by simp only [LT.marked, LT.labs, LT.labsL_marked kids]
theorem LT.labsL_marked : ∀ (ls : List LT) (k : Int), LT.labsL (LT.markedL ls k) = LT.labsL ls
  | [], _ => rfl
  | l :: ls, k => by simp only [LT.markedL, LT.labsL, LT.labs_marked l, LT.labsL_marked ls]
end
mutual
theorem LT.wf_marked : ∀ (l : LT) (k : Int), l.Wf → (l.marked k).Wf
  | .mk _ _ _ h kids, k, hw => by
    simp only [LT.marked, LT.Wf] at hw ⊢
    refine ⟨fun e => by rw [hw.1 e]; rfl, LT.wfL_marked kids _ hw.2⟩
theorem LT.wfL_marked : ∀ (ls : List LT) (k : Int), LT.WfL ls → LT.WfL (LT.markedL ls k)
  | [], _, _ => trivial
  | l :: ls, k, hw => by
    simp only [LT.markedL, LT.WfL] at hw ⊢
    exact ⟨LT.wf_marked l k hw.1, LT.wfL_marked ls _ hw.2⟩
end
mutual
theorem LT.labs_ents : ∀ (l : LT), l.ents.map labOf = l.labs
  | .mk _ _ _ h kids => by
    simp only [LT.ents, LT.labs, List.map_append, LT.labsL_ents kids]
    rcases h with _ | ⟨b, c⟩ <;> rfl
theorem LT.labsL_ents : ∀ (ls : List LT), (LT.entsL ls).map labOf = LT.labsL ls
  | [] => rfl
  | l :: ls => by simp only [LT.entsL, LT.labsL, List.map_append, LT.labs_ents l, LT.labsL_ents ls]
end
/- Trees, marked. -/
mutual
def T.size : T → Nat
  | .mk _ _ _ kids => 1 + T.sizeL kids
def T.sizeL : List T → Nat
  | [] => 0
  | t :: ts => t.size + T.sizeL ts
end
mutual
def T.marked : T → Int → T
  | .mk _ _ _ kids, k => .mk k (mt (k + 1)) (mt (k + 2)) (T.markedL kids (k + 3))
def T.markedL : List T → Int → List T
  | [], _ => []
  | t :: ts, k => t.marked k :: T.markedL ts (k + 3 * t.size)
end
mutual
theorem LT.size_erase : ∀ (l : LT), l.erase.size = l.size
  | .mk _ _ _ _ kids => by simp only [LT.erase, T.size, LT.size, LT.sizeL_erase kids]
theorem LT.sizeL_erase : ∀ (ls : List LT), T.sizeL (LT.eraseL ls) = LT.sizeL ls
  | [] => rfl
  | l :: ls => by simp only [LT.eraseL, T.sizeL, LT.sizeL, LT.size_erase l, LT.sizeL_erase ls]
end
mutual
theorem LT.erase_marked : ∀ (l : LT) (k : Int), (l.marked k).erase = l.erase.marked k
  | .mk _ _ _ _ kids, k => by simp only [LT.erase, LT.marked, T.marked, LT.eraseL_marked kids]
theorem LT.eraseL_marked : ∀ (ls : List LT) (k : Int), LT.eraseL (LT.markedL ls k) = T.markedL (LT.eraseL ls) k
  | [], _ => rfl
  | l :: ls, k => by simp only [LT.eraseL, LT.markedL, T.markedL, LT.erase_marked l, LT.eraseL_marked ls, LT.size_erase]
end

theorem putEnt_mem {b c s : Nat} {rows rows' : List (List V)} {es : List (List V)} (h : ent b c s rows ∈ es) : ent b c s rows' ∈ putEnt b rows' es := by
  unfold putEnt
  exact List.mem_map.2 ⟨_, h, by rw [if_pos (labOf_ent b c s rows)]; rfl⟩
theorem putEnt_other {b : Nat} {rows' : List (List V)} {es : List (List V)} {e : List V} (h : e ∈ es) (hb : labOf e ≠ b) : e ∈ putEnt b rows' es := by
  unfold putEnt
  exact List.mem_map.2 ⟨e, h, by rw [if_neg hb]⟩

/-- The slice of what is in a thing, as it is handed on. -/
def hdS : Option (Nat × Nat) → Nat → V
  | none, _ => .sl []
  | some (b, c), n => .dref b n c
/-- Pools of which no block is another one, with a list's blocks. -/
def MarkR (h : Option (Nat × Nat)) (ls : List LT) (k : Int) (es : List (List V)) (o : Out) (st' : St) : Prop :=
  ∃ es', o = .ret (.int .i64 (k + 3 * LT.sizeL ls)) ∧ st' = [poolO es'] ∧ (∀ e ∈ LT.entsL (LT.markedL ls k) ++ rootE h (LT.markedL ls k), e ∈ es') ∧ ∀ e ∈ es, labOf e ∉ (LT.entsL ls ++ rootE h ls).map labOf → e ∈ es'

end Go.Cod

namespace Go.Cod
open Go Go.Proofs
set_option maxRecDepth 10000

theorem LT.entsL_take (ls : List LT) (i : Nat) (h : i < ls.length) : LT.entsL (ls.drop i) = ls[i].ents ++ LT.entsL (ls.drop (i + 1)) := by
  rw [List.drop_eq_getElem_cons h]; rfl
theorem LT.sizeL_take (ls : List LT) (i : Nat) (h : i < ls.length) : LT.sizeL (ls.take (i + 1)) = LT.sizeL (ls.take i) + ls[i].size := by
  rw [List.take_succ_eq_append_getElem h, LT.sizeL_append]; simp [LT.sizeL]
theorem LT.sizeL_le (ls : List LT) (i : Nat) : LT.sizeL (ls.take i) ≤ LT.sizeL ls := by
  conv => rhs; rw [← List.take_append_drop i ls, LT.sizeL_append]
  omega
theorem LT.markedL_take (ls : List LT) (i : Nat) (h : i < ls.length) (k : Int) : LT.markedL (ls.take (i + 1)) k = LT.markedL (ls.take i) k ++ [ls[i].marked (k + 3 * LT.sizeL (ls.take i))] := by
  rw [List.take_succ_eq_append_getElem h, LT.markedL_append]; rfl
theorem LT.len_sizeL : ∀ ls : List LT, ls.length ≤ LT.sizeL ls
  | [] => by simp
  | l :: ls => by have := l.size_pos; have := LT.len_sizeL ls; simp [LT.sizeL]; omega
theorem set_get {rows : List (List V)} {i : Nat} {x : List V} (h : rows[i]? = some x) (y : List V) : (rows.set i y)[i]? = some y := by
  have := (List.getElem?_eq_some_iff.1 h).1
  simp [this]
/-- Marked up to a place. -/
def mixM (ls : List LT) (k : Int) (i : Nat) : List LT := LT.markedL (ls.take i) k ++ ls.drop i
theorem mixM_get (ls : List LT) (k : Int) (i : Nat) (h : i < ls.length) : (LT.rows (mixM ls k i))[i]? = some ls[i].cells := by
  unfold LT.rows mixM
  rw [List.map_append, List.getElem?_append_right (by simp [LT.markedL_len]; omega)]
  simp [LT.markedL_len, Nat.min_eq_left (Nat.le_of_lt h), h]
theorem mixM_set (ls : List LT) (k : Int) (i : Nat) (h : i < ls.length) : (LT.rows (mixM ls k i)).set i (ls[i].marked (k + 3 * LT.sizeL (ls.take i))).cells = LT.rows (mixM ls k (i + 1)) := by
  unfold LT.rows mixM
  have hl : ((LT.markedL (ls.take i) k).map LT.cells).length = i := by simp [LT.markedL_len]; omega
  rw [List.map_append, List.set_append_right _ _ (by omega), hl, Nat.sub_self, List.drop_eq_getElem_cons h, List.map_cons, List.set_cons_zero, LT.markedL_take ls i h k]
  simp

end Go.Cod

namespace Go.Cod
open Go Go.Proofs
set_option maxRecDepth 10000

/-- What is in it, marked. -/
def LT.markedK : LT → Int → LT
  | .mk id kind text h kids, k => .mk id kind text h (LT.markedL kids k)
def LT.kids : LT → List LT
  | .mk _ _ _ _ kids => kids

theorem T.sizeL_append (a b : List T) : T.sizeL (a ++ b) = T.sizeL a + T.sizeL b := by
  induction a with
  | nil => simp [T.sizeL]
  | cons l ls ih => simp [T.sizeL, ih]; omega
theorem T.markedL_get : ∀ (ts : List T) (k : Int) (i : Nat) (h : i < ts.length), (T.markedL ts k)[i]? = some (ts[i].marked (k + 3 * T.sizeL (ts.take i)))
  | t :: ts, k, 0, _ => by simp [T.markedL, T.sizeL]
  | t :: ts, k, i + 1, h => by
    simp only [T.markedL, List.getElem?_cons_succ, List.getElem_cons_succ, List.take_succ_cons, T.sizeL]
    rw [T.markedL_get ts _ i (by simpa using h)]
    congr 2
    push_cast; omega
theorem T.markedL_len : ∀ (ts : List T) (k : Int), (T.markedL ts k).length = ts.length
  | [], _ => rfl
  | t :: ts, k => by simp [T.markedL, T.markedL_len ts]
theorem T.sizeL_take (ls : List T) (i : Nat) (h : i < ls.length) : T.sizeL (ls.take (i + 1)) = T.sizeL (ls.take i) + ls[i].size := by
  rw [List.take_succ_eq_append_getElem h, T.sizeL_append]; simp [T.sizeL]
theorem T.sizeL_le (ls : List T) (i : Nat) : T.sizeL (ls.take i) ≤ T.sizeL ls := by
  conv => rhs; rw [← List.take_append_drop i ls, T.sizeL_append]
  omega

end Go.Cod

namespace Go.Cod
open Go Go.Proofs
set_option maxRecDepth 10000

theorem T.rows_take (ts : List T) (i : Nat) (h : i < ts.length) : T.rows (ts.take (i + 1)) = T.rows (ts.take i) ++ [ts[i].cells] := by
  rw [T.rows_eq, T.rows_eq, List.take_succ_eq_append_getElem h, List.map_append]; rfl
theorem T.rows_wid (ts : List T) : ∀ m ∈ T.rows ts, m.length = 4 := by
  intro m hm
  rw [T.rows_eq] at hm
  obtain ⟨t, _, rfl⟩ := List.mem_map.1 hm
  exact Go.Cod.cells_len t
theorem l2Copy_pure1 (t : T) (ht : t.Small) (hT : ∀ t' ∈ t.kids, Pure Tryd.prog 95 [.agg t'.cells] (· = .agg t'.cells)) :
    Pure Tryd.prog 95 [.agg t.cells] (· = .agg t.cells) := by
  cases ht with
  | @mk id kind text kids g1 g2 g3 g4 g5 =>
  simp only [T.kids] at hT
  have hlr := Go.Cod.rows_len kids
  refine pure_of_awp good Tryd.func95 rfl (by kernel_rfl) (by decide) ?_
  conv => whnf
  refine loop_drop (fun n fr st => ∃ i : Nat, n + i = kids.length ∧ Holds fr [(1, .ptr 0 0 0), (2, .ptr 1 0 0), (3, .ptr 2 0 0), (4, .int .i64 i)] ∧
      ((i = 0 ∧ st = [⟨[[.int .i64 id, .str kind, .str text, .sl (T.rows kids)]], 4, true, true, true, .cell⟩, ⟨[zrow], 4, true, true, true, .cell⟩, ⟨[[.int .i64 id, .str kind, .str text, .nils]], 4, true, true, true, .cell⟩]) ∨
       (0 < i ∧ st = [⟨[[.int .i64 id, .str kind, .str text, .sl (T.rows kids)]], 4, true, true, true, .cell⟩, ⟨[zrow], 4, true, true, true, .cell⟩, ⟨[[.int .i64 id, .str kind, .str text, .own 3]], 4, true, true, true, .cell⟩, ⟨T.rows (kids.take i), 4, true, true, false, .cell⟩]))) kids.length none
    ⟨0, rfl, ⟨rfl, rfl, rfl, rfl, trivial⟩, .inl ⟨rfl, rfl⟩⟩ ?_
  rintro n fr st ⟨i, hi, hh, hst⟩
  obtain ⟨fr, rfl⟩ := hh.split
  clear hh
  rcases hst with ⟨rfl, rfl⟩ | ⟨hi0, rfl⟩
  · conv => whnf
    by_cases hlt : 0 < kids.length
    · rw [hlr, ltB_t (by omega)]
      conv => whnf
      refine ⟨by omega, T.rows kids, kids[0].cells, 4, rfl, rows_get kids 0 hlt, rfl, Go.Cod.cells_len _, ?_⟩
      have hc := hT kids[0] (List.getElem_mem _)
      have htk := T.rows_take kids 0 hlt
      generalize kids[0] = t at hc htk
      cases t with
      | mk id' kind' text' kids' =>
      conv => whnf
      refine ⟨_, .inl hc, ?_⟩
      conv => whnf
      refine ⟨fun m hm => by rw [List.mem_singleton.1 hm]; rfl, ?_⟩
      conv => whnf
      refine ⟨by show 1 * 64 ≤ _; omega, .inr ⟨(by intro e; cases e), ?_⟩⟩
      conv => whnf
      refine ⟨n - 1, by omega, some [0, 1, 2, 4], ?_⟩
      conv => whnf
      refine ⟨1, by omega, ⟨rfl, rfl, rfl, rfl, trivial⟩, .inr ⟨by omega, ?_⟩⟩
      rw [htk]
      rfl
    · rw [hlr, ltB_f (by omega)]
      conv => whnf
      have : kids = [] := List.eq_nil_of_length_eq_zero (by omega)
      subst this
      rfl
  · conv => whnf
    by_cases hlt : i < kids.length
    · rw [hlr, ltB_t (by omega)]
      conv => whnf
      refine ⟨by omega, T.rows kids, kids[i].cells, 4, rfl, rows_get kids i hlt, rfl, Go.Cod.cells_len _, ?_⟩
      have hc := hT kids[i] (List.getElem_mem _)
      have htk := T.rows_take kids i hlt
      generalize kids[i] = t at hc htk
      cases t with
      | mk id' kind' text' kids' =>
      conv => whnf
      refine ⟨_, .inl hc, ?_⟩
      conv => whnf
      refine ⟨fun m hm => by rw [List.mem_singleton.1 hm]; rfl, ?_⟩
      conv => whnf
      refine ⟨by
        show ((T.rows (kids.take i)).length + 1) * 64 ≤ _
        rw [Go.Cod.rows_len, List.length_take]; omega, ?_⟩
      conv => whnf
      refine ⟨n - 1, by omega, some [0, 1, 2, 5], ?_⟩
      conv => whnf
      refine ⟨i + 1, by omega, ⟨rfl, rfl, rfl, ?_, trivial⟩, .inr ⟨by omega, ?_⟩⟩
      · show V.int .i64 (IntKind.i64.wrap (i + 1)) = _
        rw [wrap64 (by omega) (by omega)]; simp
      · rw [htk]
        rfl
    · rw [hlr, ltB_f (by omega)]
      conv => whnf
      rw [List.take_of_length_le (by omega)]
      rfl
theorem l2Copy_pure (t : T) (ht : t.Small) : Pure Tryd.prog 95 [.agg t.cells] (· = .agg t.cells) := by
  induction ht with
  | @mk id kind text kids g1 g2 g3 g4 g5 ih => exact l2Copy_pure1 _ (.mk g1 g2 g3 g4 g5) ih
end Go.Cod

namespace Go.Cod
open Go Go.Proofs
set_option maxRecDepth 10000

/-- A tree copied into one's own memory. -/
def CopyR (t : T) (es : List (List V)) (o : Out) (st' : St) : Prop := ∃ l : LT, l.erase = t ∧ l.Wf ∧ o = .ret (.agg l.cells) ∧ st' = [poolO (es ++ l.ents)]
theorem treeCopy_nil (id : Int) (kind text : List UInt8) (es : List (List V)) : Full Tryd.prog noY 48 [.agg (T.mk id kind text []).cells] [poolO es] (CopyR (.mk id kind text []) es) := by
  refine full_of_awp good Tryd.func48 rfl (by kernel_rfl) (by decide) ?_
  conv => whnf
  refine loop_intro (fun n fr st => st = [poolO es, ⟨[[.int .i64 id, .str kind, .str text, .sl []]], 4, true, true, true, .cell⟩, ⟨[zrow], 4, true, true, true, .cell⟩] ∧ Holds fr [(1, .ptr 1 0 0), (2, .ptr 2 0 0), (3, .nils), (7, .sl []), (8, .int .i64 0), (9, .int .i64 0)]) 0 ⟨rfl, rfl, rfl, rfl, rfl, rfl, rfl, trivial⟩ ?_
  rintro n fr st ⟨rfl, hh⟩
  obtain ⟨fr, rfl⟩ := hh.split
  clear hh
  conv => whnf
  rw [ltB_f (by simp)]
  conv => whnf
  refine ⟨[], false, ?_⟩
  conv => whnf
  exact ⟨.mk id kind text none [], rfl, ⟨fun _ => rfl, trivial⟩, rfl, by rw [show es ++ LT.ents (.mk id kind text none []) = es by simp [LT.ents, LT.entsL, rootE]]; rfl⟩
theorem LT.rows_snoc (ls : List LT) (l : LT) : LT.rows (ls ++ [l]) = LT.rows ls ++ [l.cells] := by simp [LT.rows]
theorem treeCopy_cons (id : Int) (kind text : List UInt8) (kids : List T) (g4 : kids.length ≤ 1048576) (h0 : 0 < kids.length) (es : List (List V)) (hT : ∀ t' ∈ kids, ∀ es, Full Tryd.prog noY 48 [.agg t'.cells] [poolO es] (CopyR t' es)) :
    Full Tryd.prog noY 48 [.agg (T.mk id kind text kids).cells] [poolO es] (CopyR (.mk id kind text kids) es) := by
  have hlr := Go.Cod.rows_len kids
  refine Full.absorb (R := fun o st' => ∃ ls, LT.eraseL ls = kids ∧ LT.WfL ls ∧ o = .ret (.agg [.int .i64 id, .str kind, .str text, .own 1]) ∧ st' = [poolO (es ++ LT.entsL ls), ⟨LT.rows ls, 4, true, true, false, .cell⟩]) ?_ ?_
  · refine full_of_awp good Tryd.func48 rfl (by kernel_rfl) (by decide) ?_
    conv => whnf
    refine loop_drop (fun n fr st => ∃ (i : Nat) (t3 : V) (ls : List LT), n + i = kids.length ∧ ls.length = i ∧ LT.eraseL ls = kids.take i ∧ LT.WfL ls ∧ Holds fr [(1, .ptr 1 0 0), (2, .ptr 2 0 0), (3, t3), (7, .sl (T.rows kids)), (8, .int .i64 kids.length), (9, .int .i64 i)] ∧
        ((i = 0 ∧ t3 = .nils ∧ st = [poolO (es ++ LT.entsL ls), ⟨[[.int .i64 id, .str kind, .str text, .sl (T.rows kids)]], 4, true, true, true, .cell⟩, ⟨[zrow], 4, true, true, true, .cell⟩]) ∨
         (0 < i ∧ t3 = .own 3 ∧ st = [poolO (es ++ LT.entsL ls), ⟨[[.int .i64 id, .str kind, .str text, .sl (T.rows kids)]], 4, true, true, true, .cell⟩, ⟨[zrow], 4, true, true, true, .cell⟩, ⟨LT.rows ls, 4, true, true, false, .cell⟩]))) kids.length none
      ⟨0, .nils, [], rfl, rfl, rfl, trivial, ⟨rfl, rfl, rfl, rfl, by rw [← hlr]; rfl, rfl, trivial⟩, .inl ⟨rfl, rfl, by rw [show es ++ LT.entsL [] = es by simp [LT.entsL]]; rfl⟩⟩ ?_
    rintro n fr st ⟨i, t3, ls, hi, hil, her, hwf, hh, hst⟩
    obtain ⟨fr, rfl⟩ := hh.split
    clear hh
    by_cases hlt : i < kids.length
    · have hg := Go.Cod.rows_get kids i hlt
      have hc := hT kids[i] (List.getElem_mem _) (es ++ LT.entsL ls)
      have htk : kids.take (i + 1) = kids.take i ++ [kids[i]] := by rw [List.take_succ_eq_append_getElem hlt]
      generalize kids[i] = t at hc hg htk
      have hw : IntKind.i64.wrap (i + 1) = (i + 1 : Nat) := by rw [wrap64 (by omega) (by omega)]; simp
      have herS : ∀ l : LT, l.erase = t → LT.eraseL (ls ++ [l]) = kids.take (i + 1) := fun l hl => by
        rw [htk, LT.eraseL_eq, List.map_append, ← LT.eraseL_eq, her]; simp [hl]
      have hwfS : ∀ l : LT, l.Wf → LT.WfL (ls ++ [l]) := fun l hl => by
        rw [LT.WfL_iff] at hwf ⊢
        intro x hx
        rcases List.mem_append.1 hx with hx | hx
        · exact hwf x hx
        · simp at hx; subst hx; exact hl
      have hentS : ∀ l : LT, es ++ LT.entsL ls ++ l.ents = es ++ LT.entsL (ls ++ [l]) := fun l => by
        rw [LT.entsL_append]; simp [LT.entsL]
      cases t with
      | mk id' kind' text' kids' =>
      rcases hst with ⟨rfl, rfl, rfl⟩ | ⟨hi0, rfl, rfl⟩
      · conv => whnf
        rw [ltB_t (by omega)]
        conv => whnf
        refine ⟨by omega, T.rows kids, _, 4, rfl, hg, rfl, rfl, ?_⟩
        conv => whnf
        refine .inr (.inl ⟨[0], false, ?_⟩)
        conv => whnf
        refine hc.mono ?_
        rintro o st' ⟨l, hle, hlw, rfl, rfl⟩
        have e1 := herS l hle
        have e2 := hwfS l hlw
        have e3 := hentS l
        have e4 := LT.rows_snoc ls l
        cases l with
        | mk lid lk lt lh lks =>
        rcases lh with _ | ⟨lb, lc⟩
        all_goals
          conv => whnf
          refine ⟨fun m hm => by rw [List.mem_singleton.1 hm]; rfl, ?_⟩
          conv => whnf
          refine ⟨by show 1 * 64 ≤ _; omega, .inr ⟨(by intro e; cases e), ?_⟩⟩
          conv => whnf
          refine ⟨n - 1, by omega, some [0, 1, 2, 5], ?_⟩
          conv => whnf
          refine ⟨1, .own 3, ls ++ [_], by omega, by simp [hil], e1, e2, ⟨rfl, rfl, rfl, rfl, rfl, rfl, trivial⟩, .inr ⟨by omega, rfl, ?_⟩⟩
          rw [← e3, e4]
          have : ls = [] := List.eq_nil_of_length_eq_zero hil
          subst this
          rfl
      · conv => whnf
        rw [ltB_t (by omega)]
        conv => whnf
        refine ⟨by omega, T.rows kids, _, 4, rfl, hg, rfl, rfl, ?_⟩
        conv => whnf
        refine .inr (.inl ⟨[0], false, ?_⟩)
        conv => whnf
        refine hc.mono ?_
        rintro o st' ⟨l, hle, hlw, rfl, rfl⟩
        have e1 := herS l hle
        have e2 := hwfS l hlw
        have e3 := hentS l
        have e4 := LT.rows_snoc ls l
        cases l with
        | mk lid lk lt lh lks =>
        rcases lh with _ | ⟨lb, lc⟩
        all_goals
          conv => whnf
          refine ⟨fun m hm => by rw [List.mem_singleton.1 hm]; rfl, ?_⟩
          conv => whnf
          refine ⟨by
            show ((LT.rows ls).length + 1) * 64 ≤ _
            rw [LT.rows_len]; omega, ?_⟩
          conv => whnf
          refine ⟨n - 1, by omega, some [0, 1, 2, 6], ?_⟩
          conv => whnf
          refine ⟨i + 1, .own 3, ls ++ [_], by omega, by simp [hil], e1, e2, ⟨rfl, rfl, rfl, rfl, rfl, ?_, trivial⟩, .inr ⟨by omega, rfl, ?_⟩⟩
          · show V.int .i64 (IntKind.i64.wrap (i + 1)) = _
            rw [hw]
          · rw [← e3, e4]
            rfl
    · rcases hst with ⟨rfl, rfl, rfl⟩ | ⟨hi0, rfl, rfl⟩
      · omega
      · conv => whnf
        rw [ltB_f (by omega)]
        conv => whnf
        refine ⟨[3], false, ?_⟩
        conv => whnf
        refine ⟨ls, ?_, hwf, rfl, rfl⟩
        rw [her, List.take_of_length_le (by omega)]
  · rintro o st' ⟨ls, h1, h2, rfl, rfl⟩
    refine ⟨_, [poolO (es ++ LT.entsL ls)], 0, es ++ LT.entsL ls, LT.rows ls, 4, rfl, rfl, rfl, Nat.le_refl _, by simp [poolO], fun b c => ⟨rfl, .mk id kind text (some (b, c)) ls, by simp [LT.erase, h1], ⟨by simp, h2⟩, ?_, ?_⟩⟩
    · rw [LT.rows_len]; rfl
    · simp [LT.ents, rootE]
theorem treeCopy_acc (t : T) (ht : t.Small) : ∀ es, Full Tryd.prog noY 48 [.agg t.cells] [poolO es] (CopyR t es) := by
  induction ht with
  | @mk id kind text kids g1 g2 g3 g4 g5 ih =>
    intro es
    cases kids with
    | nil => exact treeCopy_nil id kind text es
    | cons k ks => exact treeCopy_cons id kind text (k :: ks) g4 (by simp) es ih
end Go.Cod

namespace Go.Cod
open Go Go.Proofs
set_option maxRecDepth 10000

def TZ : T := .mk 0 [] [] []
mutual
def fT : T → Int → Option T
  | .mk id kind text kids, x => if id = x then some (.mk id kind text kids) else fL kids x
def fL : List T → Int → Option T
  | [], _ => none
  | t :: ts, x => match fT t x with
    | some s => some s
    | none => fL ts x
end
def fR : Option T → V
  | some t => .tup [.agg t.cells, .bool true]
  | none => .tup [.agg TZ.cells, .bool false]
mutual
theorem fT_sp : ∀ (t : T) (x ov lv : Int), fT t x = ((spT t ov lv).find? (isId x)).map (·.1)
  | .mk id kind text kids, x, ov, lv => by
    simp only [fT, spT, List.find?_cons]
    by_cases h : id = x
    · have : isId x (.mk id kind text kids, ov, lv) = true := by simp [isId, idS, T.id, h]
      rw [if_pos h, this]; rfl
    · have : isId x (.mk id kind text kids, ov, lv) = false := by simp [isId, idS, T.id, h]
      rw [if_neg h, this]
      exact fL_sp kids x _ _
theorem fL_sp : ∀ (ts : List T) (x ov lv : Int), fL ts x = ((spL ts ov lv).find? (isId x)).map (·.1)
  | [], _, _, _ => rfl
  | t :: ts, x, ov, lv => by
    simp only [fL, spL, List.find?_append, fT_sp t x ov lv, fL_sp ts x ov lv]
    cases (spT t ov lv).find? (isId x) <;> rfl
end
mutual
theorem fT_small : ∀ (t : T) (x : Int), t.Small → ∀ s, fT t x = some s → s.Small
  | .mk id kind text kids, x, h, s, hs => by
    simp only [fT] at hs
    split at hs
    · cases hs; exact h
    · cases h with
      | mk g1 g2 g3 g4 g5 => exact fL_small kids x g5 s hs
theorem fL_small : ∀ (ts : List T) (x : Int), (∀ t ∈ ts, t.Small) → ∀ s, fL ts x = some s → s.Small
  | [], _, _, _, hs => by simp [fL] at hs
  | t :: ts, x, h, s, hs => by
    have h0 := fT_small t x (h t (by simp))
    simp only [fL] at hs
    split at hs
    · rename_i s' hs'; cases hs; exact h0 _ hs'
    · exact fL_small ts x (fun t ht => h t (by simp [ht])) s hs
end
theorem fL_drop (ts : List T) (i : Nat) (h : i < ts.length) (x : Int) : fL (ts.drop i) x = match fT ts[i] x with
    | some s => some s
    | none => fL (ts.drop (i + 1)) x := by
  rw [List.drop_eq_getElem_cons h]; simp [fL]
theorem TZ_small : TZ.Small := .mk (by omega) (by simp) (by simp) (by simp) (by simp)

theorem l2Find_pure1 (t : T) (hs : t.Small) (x : Int) (hT : ∀ t' ∈ t.kids, Pure Tryd.prog 86 [.agg t'.cells, .int .i64 x] (· = fR (fT t' x))) :
    Pure Tryd.prog 86 [.agg t.cells, .int .i64 x] (· = fR (fT t x)) := by
  cases hs with
  | @mk id kind text kids g1 g2 g3 g4 g5 =>
  simp only [T.kids] at hT
  have hlr := Go.Cod.rows_len kids
  have hov : fT (.mk id kind text kids) x = if id = x then some (.mk id kind text kids) else fL kids x := rfl
  refine pure_of_awp good Tryd.func86 rfl (by kernel_rfl) (by decide) ?_
  conv => whnf
  by_cases a1 : id = x
  · rw [eqB_t a1]
    conv => whnf
    rw [hov, if_pos a1]
    rfl
  rw [eqB_f a1]
  conv => whnf
  rw [if_neg a1] at hov
  refine loop_drop (fun n fr st => ∃ i : Nat, n + i = kids.length ∧ st = [⟨[[.int .i64 id, .str kind, .str text, .sl (T.rows kids)]], 4, true, true, true, .cell⟩, ⟨[zrow], 4, true, true, true, .cell⟩] ∧ fL kids x = fL (kids.drop i) x ∧ Holds fr [(1, .int .i64 x), (2, .ptr 0 0 0), (4, .ptr 1 0 0), (6, .int .i64 i)]) kids.length none
    ⟨0, rfl, rfl, rfl, rfl, rfl, rfl, rfl, trivial⟩ ?_
  rintro n fr st ⟨i, hi, rfl, hx, hh⟩
  obtain ⟨fr, rfl⟩ := hh.split
  clear hh
  conv => whnf
  by_cases hlt : i < kids.length
  · rw [hlr, ltB_t (by omega)]
    conv => whnf
    refine ⟨by omega, T.rows kids, kids[i].cells, 4, rfl, Go.Cod.rows_get kids i hlt, rfl, Go.Cod.cells_len _, ?_⟩
    have hc := hT kids[i] (List.getElem_mem _)
    rw [fL_drop kids i hlt] at hx
    generalize kids[i] = t at hc hx ⊢
    cases t with
    | mk id' kind' text' kids' =>
    conv => whnf
    refine .inl (hc.mono ?_)
    rintro r rfl
    cases hf : fT (.mk id' kind' text' kids') x with
    | some s =>
      rw [hf] at hx
      simp only at hx
      cases s with
      | mk sid sk st sks =>
      conv => whnf
      rw [hov, hx]
      rfl
    | none =>
      rw [hf] at hx
      simp only at hx
      conv => whnf
      refine ⟨n - 1, by omega, some [0, 1], ?_⟩
      conv => whnf
      refine ⟨i + 1, by omega, rfl, hx, rfl, rfl, rfl, ?_, trivial⟩
      show V.int .i64 (IntKind.i64.wrap (i + 1)) = _
      rw [wrap64 (by omega) (by omega)]; simp
  · rw [hlr, ltB_f (by omega)]
    conv => whnf
    rw [List.drop_of_length_le (by omega)] at hx
    rw [hov, hx]
    rfl
theorem l2Find_pure (t : T) (hs : t.Small) (x : Int) : Pure Tryd.prog 86 [.agg t.cells, .int .i64 x] (· = fR (fT t x)) := by
  induction hs with
  | @mk id kind text kids g1 g2 g3 g4 g5 ih => exact l2Find_pure1 _ (.mk g1 g2 g3 g4 g5) x ih

/-- What has a number in a tree that is ok. -/
def findT (t : T) (x : Int) : Option T := if okT t then fT t x else none
theorem findT_small {t : T} (hs : t.Small) {x : Int} {s : T} (h : findT t x = some s) : s.Small := by
  unfold findT at h
  split at h
  · exact fT_small t x hs s h
  · cases h
theorem spotOf_find (t : T) (x : Int) : (spotOf t x).map (·.1) = findT t x := by
  unfold spotOf findT
  split
  · exact (fT_sp t x 0 1).symm
  · rfl

/-- .. in one's own memory. -/
def FindR (f : Option T) (es : List (List V)) (o : Out) (st' : St) : Prop := ∃ l : LT, l.erase = f.getD TZ ∧ l.Wf ∧ o = .ret (.tup [.agg l.cells, .bool f.isSome]) ∧ st' = [poolO (es ++ l.ents)]
theorem implTreeFind_acc (t : T) (hs : t.Small) (x : Int) (es : List (List V)) : Full Tryd.prog noY 17 [.agg t.cells, .int .i64 x] [poolO es] (FindR (findT t x) es) := by
  have hsp := treeSpotOf_pure t hs x
  have hfs := spotOf_find t x
  have hsm : ∀ s, spotOf t x = some s → s.1.Small := fun s h => by
    unfold spotOf at h
    split at h
    · exact spT_small t 0 1 hs s (List.mem_of_find?_eq_some h)
    · cases h
  rw [← hfs]
  generalize spotOf t x = so at *
  cases t with
  | mk id kind text kids =>
  refine full_of_awp good Tryd.func17 rfl (by kernel_rfl) (by decide) ?_
  conv => whnf
  refine .inl (hsp.mono ?_)
  rintro r rfl
  cases so with
  | none =>
    conv => whnf
    refine .inr (.inl ⟨[0], false, ?_⟩)
    conv => whnf
    refine (treeCopy_acc TZ TZ_small es).mono ?_
    rintro o st' ⟨l, h1, h2, rfl, rfl⟩
    cases l with
    | mk lid lk lt lh lks =>
    rcases lh with _ | ⟨lb, lc⟩
    all_goals
      conv => whnf
      refine ⟨[], false, ?_⟩
      conv => whnf
      exact ⟨_, h1, h2, rfl, rfl⟩
  | some s =>
    obtain ⟨s, ov, lv⟩ := s
    have hss := hsm _ rfl
    have hcp := treeCopy_acc s hss es
    cases s with
    | mk sid sk st sks =>
    conv => whnf
    refine .inr (.inl ⟨[0], false, ?_⟩)
    conv => whnf
    refine hcp.mono ?_
    rintro o st' ⟨l, h1, h2, rfl, rfl⟩
    cases l with
    | mk lid lk lt lh lks =>
    rcases lh with _ | ⟨lb, lc⟩
    all_goals
      conv => whnf
      refine ⟨[], false, ?_⟩
      conv => whnf
      exact ⟨_, h1, h2, rfl, rfl⟩
end Go.Cod

namespace Go.Cod
open Go Go.Proofs
set_option maxRecDepth 10000

theorem nodup_of_labs {es : List (List V)} (h : ∀ (i j : Nat) e e', es[i]? = some e → es[j]? = some e' → labOf e = labOf e' → i = j) : (es.map labOf).Nodup := by
  induction es with
  | nil => simp
  | cons e es ih =>
    rw [List.map_cons, List.nodup_cons]
    refine ⟨fun hm => ?_, ih fun i j a b h1 h2 h3 => ?_⟩
    · obtain ⟨e', he', hl⟩ := List.mem_map.1 hm
      obtain ⟨j, hj⟩ := List.getElem?_of_mem he'
      have := h 0 (j + 1) e e' rfl (by simpa using hj) hl.symm
      omega
    · have := h (i + 1) (j + 1) a b (by simpa using h1) (by simpa using h2) h3
      omega
theorem LabsOk.nodup {st : St} (h : LabsOk st) {k : Nat} {es : List (List V)} (hk : st[k]? = some (poolO es)) : (es.map labOf).Nodup :=
  nodup_of_labs fun i j e e' h1 h2 h3 => (h k k _ _ i j e e' hk hk rfl rfl h1 h2 h3).2
mutual
theorem LT.flat : ∀ (l : LT), ∀ e ∈ l.ents, ∀ r ∈ rowsOf e, ∀ x ∈ r, x.flat = true
  | .mk id kind text h kids => by
    intro e he
    simp only [LT.ents, List.mem_append] at he
    rcases he with he | he
    · exact LT.flatL kids e he
    · rcases h with _ | ⟨b, c⟩
      · simp [rootE] at he
      · simp only [rootE, List.mem_singleton] at he
        subst he
        intro r hr x hx
        simp only [rowsOf, ent, LT.rows, List.mem_map] at hr
        obtain ⟨l, _, rfl⟩ := hr
        cases l with
        | mk lid lk lt lh lks =>
        simp only [LT.cells, List.mem_cons, List.not_mem_nil, or_false] at hx
        rcases hx with rfl | rfl | rfl | rfl
        · rfl
        · rfl
        · rfl
        · exact (hdV_ok _ _).2.2
theorem LT.flatL : ∀ (ls : List LT), ∀ e ∈ LT.entsL ls, ∀ r ∈ rowsOf e, ∀ x ∈ r, x.flat = true
  | [] => by simp [LT.entsL]
  | l :: ls => by
    intro e he
    simp only [LT.entsL, List.mem_append] at he
    rcases he with he | he
    · exact LT.flat l e he
    · exact LT.flatL ls e he
end
theorem LT.cells_flat (l : LT) : (V.agg l.cells).flat = true := by
  cases l with
  | mk id kind text h kids =>
  show (V.flat.go [_, _, _, _]) = true
  simp only [V.flat.go, V.flat, (hdV_ok h kids.length).2.2, Bool.and_self]
theorem FlatO.pool (l : LT) : FlatO (poolO l.ents) := ⟨rfl, .inr ⟨rfl, rfl, l.flat⟩⟩
mutual
theorem T.ids_size : ∀ t : T, t.ids.length = t.size
  | .mk _ _ _ kids => by simp [T.ids, T.size, T.idsL_size kids]; omega
theorem T.idsL_size : ∀ ts : List T, (T.idsL ts).length = T.sizeL ts
  | [] => rfl
  | t :: ts => by simp [T.idsL, T.sizeL, T.ids_size t, T.idsL_size ts]
end
theorem T.kids_size (t : T) : t.size = 1 + T.sizeL t.kids := by cases t; rfl
theorem LT.kids_size (l : LT) : LT.sizeL l.kids = T.sizeL l.erase.kids := by
  cases l with
  | mk id kind text h kids => simp only [LT.kids, LT.erase, T.kids, LT.sizeL_erase]
mutual
theorem fT_size : ∀ (t : T) (x : Int) (s : T), fT t x = some s → s.size ≤ t.size
  | .mk id kind text kids, x, s, h => by
    simp only [fT] at h
    split at h
    · cases h; exact Nat.le_refl _
    · have := fL_size kids x s h; simp only [T.size]; omega
theorem fL_size : ∀ (ts : List T) (x : Int) (s : T), fL ts x = some s → s.size ≤ T.sizeL ts
  | [], _, _, h => by simp [fL] at h
  | t :: ts, x, s, h => by
    simp only [fL] at h
    simp only [T.sizeL]
    split at h
    · rename_i s' hs'; cases h
      have := fT_size t x _ hs'; omega
    · have := fL_size ts x s h; omega
end
def T.kind : T → List UInt8
  | .mk _ kind _ _ => kind
def T.text : T → List UInt8
  | .mk _ _ text _ => text
/-- A tree that has just been made. -/
def NewT (t : T) (o : Out) (st' : St) : Prop := ∃ l : LT, l.erase = t ∧ l.Wf ∧ (∃ b c, l = .mk t.id t.kind t.text (some (b, c)) l.kids) ∧ (l.ents.map labOf).Nodup ∧ o = .ret (.agg l.cells) ∧ st' = [poolO l.ents]
theorem toTree_new (t : T) (ht : t.Small) : Full Tryd.prog noY 24 [.agg t.cells] [] (NewT t) := by
  refine (Full.givenEnd (Full.start (toTree_acc t ht []))).mono ?_
  rintro o st' ⟨⟨b, c, ls, h1, h2, ⟨id, kind, text, h3, rfl⟩, rfl⟩, hl⟩
  have hn := hl.nodup (k := 0) rfl
  rw [h3]
  refine ⟨.mk id kind text (some (b, c)) ls, by simp [LT.erase, h1], ⟨by simp, h2⟩, ⟨b, c, rfl⟩, ?_, rfl, ?_⟩
  · simpa [LT.ents, rootE] using hn
  · simp [LT.ents, rootE]
/-- An answer with a tree that has just been made. -/
def NewF (f : Option T) (o : Out) (st' : St) : Prop := ∃ l : LT, l.erase = f.getD TZ ∧ l.Wf ∧ (l.ents.map labOf).Nodup ∧ o = .ret (.tup [.agg l.cells, .bool f.isSome]) ∧ st' = [poolO l.ents]
theorem implTreeFind_new (t : T) (hs : t.Small) (x : Int) : Full Tryd.prog noY 17 [.agg t.cells, .int .i64 x] [] (NewF (findT t x)) := by
  refine (Full.givenEnd (Full.start (implTreeFind_acc t hs x []))).mono ?_
  rintro o st' ⟨⟨l, h1, h2, rfl, rfl⟩, hl⟩
  have hn := hl.nodup (k := 0) rfl
  exact ⟨l, h1, h2, by simpa using hn, rfl, by simp⟩
theorem mapN_cells (l : LT) (f : Nat → Nat) : (V.agg l.cells).mapN f = .agg l.cells := by
  cases l with
  | mk id kind text h kids => rcases h with _ | ⟨b, c⟩ <;> rfl
theorem viewL1 {es : List (List V)} {x y : V} (h : View es x y) : ViewL es [x] [y] := ⟨rfl, fun i a b p q => by
  match i, p, q with
  | 0, p, q => simp at p q; subst p; subst q; exact h
  | i + 1, p, q => simp at p⟩
theorem viewL2 {es : List (List V)} {x y x' y' : V} (h : View es x y) (h' : View es x' y') : ViewL es [x, x'] [y, y'] := ⟨rfl, fun i a b p q => by
  match i, p, q with
  | 0, p, q => simp at p q; subst p; subst q; exact h
  | 1, p, q => simp at p q; subst p; subst q; exact h'
  | i + 2, p, q => simp at p⟩
theorem cleanA (l : LT) : (V.agg l.cells).clean 0 = true := by
  cases l with
  | mk id kind text h kids => rcases h with _ | ⟨b, c⟩ <;> rfl
/-- .. while the argument's blocks are lent. -/
theorem implTreeFind_lent (lx : LT) (hw : lx.Wf) (hs : lx.erase.Small) (x : Int) (es : List (List V)) (he : ∀ e ∈ lx.ents, e ∈ es) : Full Tryd.prog noY 17 [.agg lx.cells, .int .i64 x] [poolO es] fun o st' => ∃ st1, NewF (findT lx.erase x) o st1 ∧ st' = poolO es :: st1 := by
  have hc : V.clean.cleanL 0 [V.agg lx.cells, .int .i64 x] = true := by
    simp only [V.clean.cleanL, cleanA lx]; rfl
  refine (Full.lent (ps := [es]) (implTreeFind_new lx.erase hs x) (viewL2 (lx.viewA hw (by simpa using he)) (.same _)) hc ?_).mono ?_
  · rintro o st1 ⟨l, h1, h2, h3, rfl, rfl⟩
    refine ⟨_, rfl, ?_, fun p hp => by simp at hp; subst hp; exact FlatO.pool l⟩
    have := l.cells_flat
    show V.flat.go [_, _] = true
    simp only [V.flat.go, this]; rfl
  · rintro o st' ⟨v, st1, ⟨l, h1, h2, h3, hv, rfl⟩, rfl, rfl⟩
    cases hv
    refine ⟨[poolO l.ents], ⟨l, h1, h2, h3, ?_, rfl⟩, rfl⟩
    simp only [V.mapN, V.mapN.go]
    have := mapN_cells l (· + [es].length)
    simp only [V.mapN] at this
    rw [this]
def T.markedK : T → Int → T
  | .mk id kind text kids, k => .mk id kind text (T.markedL kids k)

theorem held_view (l : LT) (hw : l.Wf) {w : T} (he : l.erase = w) (k : Int) (es' : List (List V)) (h : ∀ e ∈ (l.markedK k).ents, e ∈ es') : View es' (.agg l.cells) (.agg (w.markedK k).cells) := by
  cases l with
  | mk id kind text hd kids =>
  have h1 : (LT.mk id kind text hd (LT.markedL kids k)).Wf := by
    simp only [LT.Wf] at hw ⊢
    exact ⟨fun e => by rw [hw.1 e]; rfl, LT.wfL_marked kids k hw.2⟩
  have := LT.viewA (LT.mk id kind text hd (LT.markedL kids k)) h1 h
  subst he
  simpa only [LT.cells, LT.markedL_len, LT.erase, T.markedK, LT.eraseL_marked] using this

end Go.Cod

namespace Go.Cod
open Go Go.Proofs
set_option maxRecDepth 10000

def rootI (h : Option (Nat × Nat)) (ns : List Int) : List (List V) := match h with
  | none => []
  | some (b, c) => [ent b c 1 (irows ns)]
theorem irows_ok (ns : List Int) : V.clean.cleanLL 0 (irows ns) = true ∧ (∀ e ∈ irows ns, ∀ x ∈ e, x.leaf = true) ∧ ∀ e ∈ irows ns, ∀ x ∈ e, x.flat = true := by
  refine ⟨?_, fun e he x hx => ?_, fun e he x hx => ?_⟩
  · rw [cleanLL_iff]
    intro e he
    obtain ⟨n, _, rfl⟩ := List.mem_map.1 he
    rfl
  · obtain ⟨n, _, rfl⟩ := List.mem_map.1 he
    simp at hx; subst hx; rfl
  · obtain ⟨n, _, rfl⟩ := List.mem_map.1 he
    simp at hx; subst hx; rfl
theorem viewI (es : List (List V)) (h : Option (Nat × Nat)) (ns : List Int) (hw : h = none → ns = []) (he : ∀ e ∈ rootI h ns, e ∈ es) : View es (hdV h ns.length) (.sl (irows ns)) := by
  rcases h with _ | ⟨b, c⟩
  · rw [hw rfl]; exact .same _
  · refine .dref (sz := 1) (rows := irows ns) (he _ (by simp [rootI])) (irows_len ns).symm rfl (irows_ok ns).1 (irows_ok ns).2.1 (fun i r r' p q => ?_) (fun i r r' j x y p q u v => ?_)
    · rw [p] at q; cases q; rfl
    · rw [p] at q; cases q; rw [u] at v; cases v; exact .same _
def idsOf (t : T) : List Int := if okT t then t.ids else []

def NewI (ns : List Int) (o : Out) (st' : St) : Prop := ∃ h : Option (Nat × Nat), (h = none → ns = []) ∧ o = .ret (hdV h ns.length) ∧ st' = [poolO (rootI h ns)]
theorem irows_snoc (a : List Int) (x : Int) : irows (a ++ [x]) = irows a ++ [[.int .i64 x]] := by simp [irows]
theorem idS_snoc (pre : List Sp) (s : Sp) : (pre ++ [s]).map idS = pre.map idS ++ [idS s] := by simp
theorem implTreeIds_no (t : T) (hs : t.Small) (hok : okT t = false) : Full Tryd.prog noY 16 [.agg t.cells] [poolO []] fun o st' => o = .ret (.sl []) ∧ st' = [poolO []] := by
  have hio := implTreeOk t hs
  rw [hok] at hio
  cases t with
  | mk id kind text kids =>
  refine full_of_awp good Tryd.func16 rfl (by kernel_rfl) (by decide) ?_
  conv => whnf
  refine .inl (hio.mono ?_)
  rintro r rfl
  conv => whnf
  refine ⟨[], false, ?_⟩
  conv => whnf
  exact ⟨rfl, rfl⟩
theorem implTreeIds_yes (t : T) (hs : t.Small) (hok : okT t = true) (hn : t.ids.length ≤ 20) : Full Tryd.prog noY 16 [.agg t.cells] [poolO []] fun o st' => o = .ret (.own 1) ∧ st' = [poolO [], ⟨irows t.ids, 1, true, true, false, .cell⟩] := by
  have hio := implTreeOk t hs
  rw [hok] at hio
  have hsp := treeSpots_full t
  have hcl := treeSpots1_full t hs _ (okbT_takes t)
  have hbox : boxT t = ⟨[t.cells], 4, true, true, true, .cell⟩ := rfl
  have hids := spT_ids t 0 1
  have hne : spT t 0 1 ≠ [] := by cases t; simp [spT]
  have hobt : okbT t = fun log vs => ∃ pre s suf, spT t 0 1 = pre ++ s :: suf ∧ log = spRows pre ∧ vs = [spV s] := rfl
  generalize okbT t = okb at *
  generalize spT t 0 1 = sps at *
  have hln : sps.length ≤ 20 := by rw [← hids, List.length_map] at hn; exact hn
  cases t with
  | mk id kind text kids =>
  refine full_of_awp good Tryd.func16 rfl (by kernel_rfl) (by decide) ?_
  conv => whnf
  refine .inl (hio.mono ?_)
  rintro r rfl
  conv => whnf
  refine .inr (.inl ⟨[], false, ?_⟩)
  conv => whnf
  refine hsp.mono ?_
  rintro o st' ⟨rfl, rfl⟩
  conv => whnf
  refine ⟨[3], false, okb, fun log st' => (log = [] ∧ st' = [poolO [], ⟨[(T.mk id kind text kids).cells], 4, true, true, true, .cell⟩, ⟨[[.nils]], 1, true, true, true, .cell⟩, ⟨[(T.mk id kind text kids).cells], 4, false, true, true, .cell⟩]) ∨
    (log ≠ [] ∧ st' = [poolO [], ⟨[(T.mk id kind text kids).cells], 4, true, true, true, .cell⟩, ⟨[[.own 4]], 1, true, true, true, .cell⟩, ⟨[(T.mk id kind text kids).cells], 4, false, true, true, .cell⟩, ⟨irows ((sps.take log.length).map idS), 1, true, true, false, .cell⟩]), ?_⟩
  conv => whnf
  refine ⟨.inl ⟨rfl, rfl⟩, ?_, ?_⟩
  · rintro log vs st' hI ho
    rw [hobt] at ho
    obtain ⟨pre, s, suf, rfl, rfl, rfl⟩ := ho
    have htk : (pre ++ s :: suf).take (spRows pre).length = pre := by rw [spRows_len]; simp
    have htk1 : (pre ++ s :: suf).take (spRows pre ++ [[spV s]]).length = pre ++ [s] := by rw [List.length_append, spRows_len]; show List.take (pre.length + 1) _ = _; rw [List.take_append, List.take_of_length_le (by omega)]; simp
    rw [htk] at hI
    refine ⟨rfl, ?_⟩
    have hsn := idS_snoc pre s
    have hne1 : spRows pre ++ [[spV s]] ≠ [] := by simp
    have hpl : (irows (pre.map idS)).length + 1 ≤ 21 := by rw [irows_len, List.length_map]; simp at hln; omega
    obtain ⟨⟨id', kind', text', kids'⟩, ov, lv⟩ := s
    simp only [idS, T.id] at hsn
    rcases hI with ⟨h0, rfl⟩ | ⟨h0, rfl⟩
    · have hp0 : pre = [] := by
        cases pre with
        | nil => rfl
        | cons a l => simp [spRows] at h0
      subst hp0
      conv => whnf
      refine ⟨fun m hm => by rw [List.mem_singleton.1 hm]; rfl, ?_⟩
      conv => whnf
      refine ⟨by show 1 * 8 ≤ _; omega, .inr ⟨(by intro e; cases e), ?_⟩⟩
      conv => whnf
      refine ⟨some [0, 1, 2, 3, 6], ?_⟩
      conv => whnf
      rw [htk1]
      refine .inr ⟨hne1, ?_⟩
      rfl
    · conv => whnf
      refine ⟨fun m hm => by rw [List.mem_singleton.1 hm]; rfl, ?_⟩
      conv => whnf
      refine ⟨by
        show ((irows (pre.map idS)).length + 1) * 8 ≤ _
        omega, ?_⟩
      conv => whnf
      refine ⟨some [0, 1, 2, 3, 7], ?_⟩
      conv => whnf
      rw [htk1]
      refine .inr ⟨hne1, ?_⟩
      rw [show (pre ++ [((T.mk id' kind' text' kids', ov, lv) : Sp)]).map idS = pre.map idS ++ [id'] from hsn, irows_snoc]
      rfl
  · refine hcl.mono ?_
    rintro o st' ⟨r, b, log', rfl, rfl, hl⟩
    refine ⟨_, _, _, rfl, rfl, fun hb st' hI => ?_⟩
    rw [hl hb] at hI
    rcases hI with ⟨h0, rfl⟩ | ⟨h0, rfl⟩
    · exfalso
      cases sps with
      | nil => exact hne rfl
      | cons a l => simp [spRows] at h0
    · rw [List.take_of_length_le (by rw [spRows_len]; omega), hids]
      conv => whnf
      refine ⟨[4], false, ?_⟩
      conv => whnf
      exact ⟨rfl, rfl⟩
theorem okT_len {t : T} (h : okT t = true) : t.ids.length ≤ 20 := by
  unfold okT at h
  simp only [Bool.and_eq_true, decide_eq_true_eq] at h
  exact h.2
theorem implTreeIds_new (t : T) (hs : t.Small) : Full Tryd.prog noY 16 [.agg t.cells] [] (NewI (idsOf t)) := by
  refine Full.start ?_
  unfold idsOf
  cases hok : okT t with
  | false =>
    refine (implTreeIds_no t hs hok).mono ?_
    rintro o st' ⟨rfl, rfl⟩
    exact ⟨none, fun _ => rfl, rfl, rfl⟩
  | true =>
    refine Full.absorb (implTreeIds_yes t hs hok (okT_len hok)) ?_
    rintro o st' ⟨rfl, rfl⟩
    refine ⟨.own 1, [poolO []], 0, [], irows t.ids, 1, rfl, rfl, rfl, Nat.le_refl _, by simp [poolO], fun b c => ⟨rfl, some (b, c), by simp, ?_, rfl⟩⟩
    rw [irows_len]; rfl
theorem hdV_mapN (h : Option (Nat × Nat)) (n : Nat) (f : Nat → Nat) : (hdV h n).mapN f = hdV h n := by rcases h with _ | ⟨b, c⟩ <;> rfl
end Go.Cod

namespace Go.Cod
open Go Go.Proofs
set_option maxRecDepth 10000

/- What is found. -/
mutual
theorem plainT_mono : ∀ (t : T) (a b : Int), b ≤ a → plainT t a = true → plainT t b = true
  | .mk id kind text kids, a, b, h, hp => by
    simp only [plainT, Bool.and_eq_true, Bool.not_eq_true', decide_eq_true_eq, decide_eq_false_iff_not] at hp ⊢
    obtain ⟨⟨⟨⟨h1, h2⟩, h3⟩, h4⟩, h5⟩ := hp
    exact ⟨⟨⟨⟨by omega, h2⟩, h3⟩, h4⟩, plainL_mono kids _ _ (by omega) h5⟩
theorem plainL_mono : ∀ (ts : List T) (a b : Int), b ≤ a → plainL ts a = true → plainL ts b = true
  | [], _, _, _, _ => rfl
  | t :: ts, a, b, h, hp => by
    simp only [plainL, Bool.and_eq_true] at hp ⊢
    exact ⟨plainT_mono t a b h hp.1, plainL_mono ts a b h hp.2⟩
end
mutual
theorem fT_spec : ∀ (t : T) (x : Int) (s : T), fT t x = some s → s.id = x ∧ s.ids.Sublist t.ids ∧ ∀ lv, plainT t lv = true → plainT s lv = true
  | .mk id kind text kids, x, s, h => by
    simp only [fT] at h
    split at h
    · rename_i e; cases h; exact ⟨e, .refl _, fun _ h => h⟩
    · obtain ⟨h1, h2, h3⟩ := fL_spec kids x s h
      refine ⟨h1, h2.cons _, fun lv hp => ?_⟩
      simp only [plainT, Bool.and_eq_true] at hp
      exact plainT_mono s _ _ (by omega) (h3 _ hp.2)
theorem fL_spec : ∀ (ts : List T) (x : Int) (s : T), fL ts x = some s → s.id = x ∧ s.ids.Sublist (T.idsL ts) ∧ ∀ lv, plainL ts lv = true → plainT s lv = true
  | [], _, _, h => by simp [fL] at h
  | t :: ts, x, s, h => by
    simp only [fL] at h
    split at h
    · rename_i s' hs'; cases h
      obtain ⟨h1, h2, h3⟩ := fT_spec t x _ hs'
      refine ⟨h1, h2.trans (List.sublist_append_left _ _), fun lv hp => ?_⟩
      simp only [plainL, Bool.and_eq_true] at hp
      exact h3 lv hp.1
    · obtain ⟨h1, h2, h3⟩ := fL_spec ts x s h
      refine ⟨h1, h2.trans (List.sublist_append_right _ _), fun lv hp => ?_⟩
      simp only [plainL, Bool.and_eq_true] at hp
      exact h3 lv hp.2
end
mutual
theorem fT_none : ∀ (t : T) (x : Int), fT t x = none ↔ x ∉ t.ids
  | .mk id kind text kids, x => by
    simp only [fT, T.ids, List.mem_cons, not_or]
    by_cases e : id = x
    · simp [e]
    · rw [if_neg e, fL_none kids x]
      exact ⟨fun h => ⟨fun e' => e e'.symm, h⟩, fun h => h.2⟩
theorem fL_none : ∀ (ts : List T) (x : Int), fL ts x = none ↔ x ∉ T.idsL ts
  | [], x => by simp [fL, T.idsL]
  | t :: ts, x => by
    have h1 := fT_none t x
    have h2 := fL_none ts x
    simp only [fL, T.idsL, List.mem_append, not_or]
    cases e : fT t x with
    | none => simp only [h2]; exact ⟨fun h => ⟨h1.1 e, h⟩, fun h => h.2⟩
    | some s => rw [e] at h1; simp at h1; simp [h1]
end
theorem T.id_mem (t : T) : t.id ∈ t.ids := by cases t; simp [T.id, T.ids]
theorem okT_iff' (t : T) : okT t = true ↔ plainT t 1 = true ∧ t.ids.Nodup ∧ t.ids.length ≤ 20 := by
  unfold okT
  simp [and_assoc]
theorem findT_spec {t : T} {x : Int} {s : T} (h : findT t x = some s) : okT t = true ∧ fT t x = some s ∧ s.id = x ∧ okT s = true ∧ idsOf s = s.ids ∧ ∀ i ∈ s.ids, i ∈ idsOf t := by
  unfold findT at h
  split at h
  · rename_i hok
    obtain ⟨h1, h2, h3⟩ := fT_spec t x s h
    obtain ⟨p1, p2, p3⟩ := (okT_iff' t).1 hok
    have hos : okT s = true := (okT_iff' s).2 ⟨h3 1 p1, h2.nodup p2, Nat.le_trans h2.length_le p3⟩
    refine ⟨hok, h, h1, hos, by rw [idsOf, if_pos hos], fun i hi => ?_⟩
    rw [idsOf, if_pos hok]
    exact h2.subset hi
  · cases h
theorem findT_isSome (t : T) (x : Int) : (findT t x).isSome = decide (x ∈ idsOf t) := by
  unfold findT idsOf
  by_cases h : okT t = true
  · rw [if_pos h, if_pos h]
    have := fT_none t x
    cases e : fT t x with
    | none => simp [this.1 e]
    | some s => rw [e] at this; simp at this; simp [this]
  · rw [if_neg h, if_neg h]; simp
theorem treeOver_none {t : T} {x : Int} (h : findT t x = none) : treeOver t x = -1 := by
  have := spotOf_find t x
  rw [h] at this
  unfold treeOver
  cases e : spotOf t x with
  | none => rfl
  | some s => rw [e] at this; simp at this

/- What something is in. -/
mutual
theorem overT_in : ∀ (t : T) (x ov n : Int), t.ids.Nodup → overT t x ov = n → 0 ≤ n → (t.id = x ∧ n = ov) ∨ ∃ s, fT t n = some s ∧ x ∈ s.kids.map T.id
  | .mk id kind text kids, x, ov, n, hn, h, h0 => by
    simp only [T.ids, List.nodup_cons] at hn
    simp only [overT] at h
    split at h
    · rename_i e; exact .inl ⟨e, h.symm⟩
    · rcases overL_in kids x id n hn.2 h h0 with ⟨e, hm⟩ | ⟨s, hs, hm⟩
      · exact .inr ⟨.mk id kind text kids, by simp [fT, e], hm⟩
      · refine .inr ⟨s, ?_, hm⟩
        have : n ∈ T.idsL kids := by
          obtain ⟨h1, h2, _⟩ := fL_spec kids n s hs
          rw [← h1]; exact h2.subset s.id_mem
        rw [fT, if_neg (fun e => hn.1 (by rw [e]; exact this))]
        exact hs
theorem overL_in : ∀ (ts : List T) (x ov n : Int), (T.idsL ts).Nodup → overL ts x ov = n → 0 ≤ n → (n = ov ∧ x ∈ ts.map T.id) ∨ ∃ s, fL ts n = some s ∧ x ∈ s.kids.map T.id
  | [], _, _, n, _, h, h0 => by simp only [overL] at h; omega
  | t :: ts, x, ov, n, hn, h, h0 => by
    simp only [T.idsL, List.nodup_append] at hn
    simp only [overL] at h
    split at h
    · rcases overT_in t x ov n hn.1 h h0 with ⟨e, e'⟩ | ⟨s, hs, hm⟩
      · exact .inl ⟨e', by simp [e]⟩
      · exact .inr ⟨s, by simp [fL, hs], hm⟩
    · rcases overL_in ts x ov n hn.2.1 h h0 with ⟨e, hm⟩ | ⟨s, hs, hm⟩
      · exact .inl ⟨e, by simp [hm]⟩
      · refine .inr ⟨s, ?_, hm⟩
        have hin : n ∈ T.idsL ts := by
          obtain ⟨h1, h2, _⟩ := fL_spec ts n s hs
          rw [← h1]; exact h2.subset s.id_mem
        have : fT t n = none := (fT_none t n).2 fun hm => hn.2.2 n hm n hin rfl
        simp [fL, this, hs]
end
theorem kidIds_sub : ∀ (ts : List T), (ts.map T.id).Sublist (T.idsL ts)
  | [] => .refl _
  | t :: ts => by
    cases t with
    | mk id kind text kids =>
    simp only [List.map_cons, T.id, T.idsL, T.ids, List.cons_append]
    exact ((kidIds_sub ts).trans (List.sublist_append_right _ _)).cons_cons _
theorem okT_kids {s : T} (h : okT s = true) : (s.kids.map T.id).Nodup := by
  obtain ⟨_, h2, _⟩ := (okT_iff' s).1 h
  cases s with
  | mk id kind text kids =>
  simp only [T.ids, List.nodup_cons] at h2
  exact (kidIds_sub kids).nodup h2.2
theorem count_one {l : List Int} (h : l.Nodup) {x : Int} (hx : x ∈ l) : l.count x = 1 := by
  induction l with
  | nil => simp at hx
  | cons a l ih =>
    simp only [List.nodup_cons] at h
    by_cases e : a = x
    · subst e; rw [List.count_cons_self, List.count_eq_zero.2 h.1]
    · rw [List.count_cons_of_ne e]
      exact ih h.2 (by
        rcases List.mem_cons.1 hx with h | h
        · exact absurd h.symm e
        · exact h)
theorem treeOver_cases (t : T) (x : Int) : (treeOver t x = -1 ∧ (okT t = false ∨ x ∉ idsOf t)) ∨ (okT t = true ∧ treeOver t x = 0 ∧ t.id = x) ∨ (1 ≤ treeOver t x ∧ ∃ s, findT t (treeOver t x) = some s ∧ okT s = true ∧ (s.kids.map T.id).count x = 1) := by
  cases hf : findT t x with
  | none =>
    refine .inl ⟨treeOver_none hf, ?_⟩
    have := findT_isSome t x
    rw [hf] at this
    exact .inr (by simpa using this)
  | some s0 =>
    obtain ⟨hok, hfx, _, _, _, _⟩ := findT_spec hf
    obtain ⟨p1, p2, p3⟩ := (okT_iff' t).1 hok
    have hov : treeOver t x = overT t x 0 := by
      unfold treeOver spotOf
      rw [if_pos hok, (overT_eq t x 0 1 (by omega) (okT_ids hok)).1]
    have hsm := (overT_eq t x 0 1 (by omega) (okT_ids hok)).2
    have hso := spotOf_find t x
    rw [hf, spotOf, if_pos hok] at hso
    have h0 : 0 ≤ overT t x 0 := hsm.2 (by
      cases e : (spT t 0 1).find? (isId x) with
      | none => rw [e] at hso; simp at hso
      | some s => rfl)
    rcases overT_in t x 0 _ p2 rfl h0 with ⟨e, e'⟩ | ⟨s, hs, hm⟩
    · exact .inr (.inl ⟨hok, by rw [hov]; exact e', e⟩)
    · refine .inr (.inr ?_)
      rw [hov]
      have hft : findT t (overT t x 0) = some s := by rw [findT, if_pos hok]; exact hs
      obtain ⟨_, _, q1, q2, _, _⟩ := findT_spec hft
      have hpos := plainT_pos t 1 p1 _ ((fT_spec t _ s hs).2.1.subset s.id_mem)
      rw [q1] at hpos
      exact ⟨hpos, s, hft, q2, count_one (okT_kids q2) hm⟩
end Go.Cod

namespace Go.Cod
open Go Go.Proofs
set_option maxRecDepth 10000

/- Numbers below a hundred, written. -/
theorem small_pure (n : Int) (h0 : 0 ≤ n) (h1 : n < 100) : Pure Tryd.prog 114 [.int .i64 n] fun r => ∃ s : List UInt8, s.length ≤ 2 ∧ r = .str s := by
  refine pure_of_awp good Tryd.func114 rfl (by kernel_rfl) (by decide) ?_
  conv => whnf
  have w1 : IntKind.i64.wrap (n + 1) = n + 1 := wrap64 (by omega) (by omega)
  have w2 : IntKind.i64.wrap (n * 2) = n * 2 := wrap64 (by omega) (by omega)
  have w3 : IntKind.i64.wrap (n * 2 + 2) = n * 2 + 2 := wrap64 (by omega) (by omega)
  by_cases a : n < 10
  · rw [ltB_t a]
    conv => whnf
    rw [w1]
    refine ⟨by omega, by show (n + 1).toNat ≤ 36; omega, ?_⟩
    conv => whnf
    refine ⟨h0, by omega, ?_⟩
    conv => whnf
    exact ⟨_, by rw [List.length_drop, List.length_take]; omega, rfl⟩
  · rw [ltB_f (by omega)]
    conv => whnf
    rw [w2, w3]
    refine ⟨by omega, by show (n * 2 + 2).toNat ≤ 200; omega, ?_⟩
    conv => whnf
    refine ⟨by omega, by omega, ?_⟩
    conv => whnf
    exact ⟨_, by rw [List.length_drop, List.length_take]; omega, rfl⟩
theorem formatInt_pure (n : Int) (h0 : 0 ≤ n) (h1 : n < 100) : Pure Tryd.prog 113 [.int .i64 n, .int .i64 10] fun r => ∃ s : List UInt8, s.length ≤ 2 ∧ r = .str s := by
  have hs := small_pure n h0 h1
  refine pure_of_awp good Tryd.func113 rfl (by kernel_rfl) (by decide) ?_
  conv => whnf
  rw [eqB_t (by rfl)]
  conv => whnf
  rw [leB_t h0]
  conv => whnf
  rw [ltB_t h1]
  conv => whnf
  refine .inl (hs.mono ?_)
  rintro r ⟨s, hl, rfl⟩
  conv => whnf
  exact ⟨s, hl, rfl⟩
theorem itoa1_pure (n : Int) (h0 : 0 ≤ n) (h1 : n < 100) : Pure Tryd.prog 110 [.int .i64 n] fun r => ∃ s : List UInt8, s.length ≤ 2 ∧ r = .str s := by
  have hs := formatInt_pure n h0 h1
  refine pure_of_awp good Tryd.func110 rfl (by kernel_rfl) (by decide) ?_
  conv => whnf
  refine .inl (hs.mono ?_)
  rintro r ⟨s, hl, rfl⟩
  conv => whnf
  exact ⟨s, hl, rfl⟩
theorem itoa_pure (n : Int) (h0 : 0 ≤ n) (h1 : n < 100) : Pure Tryd.prog 100 [.int .i64 n] fun r => ∃ s : List UInt8, s.length ≤ 2 ∧ r = .str s := by
  have hs := itoa1_pure n h0 h1
  refine pure_of_awp good Tryd.func100 rfl (by kernel_rfl) (by decide) ?_
  conv => whnf
  refine .inl (hs.mono ?_)
  rintro r ⟨s, hl, rfl⟩
  conv => whnf
  exact ⟨s, hl, rfl⟩
end Go.Cod

namespace Go.Cod
open Go Go.Proofs
set_option maxRecDepth 10000

/- What stands in a map. -/
theorem findRow_all {Q : V → Prop} {key : V} : ∀ {es : List (List V)}, (∀ e ∈ es, Q (rowVal e)) → findRow key es = none ∨ ∃ v, findRow key es = some v ∧ Q v
  | [], _ => .inl rfl
  | e :: es, h => by
    rw [findRow]
    split
    · exact .inr ⟨_, rfl, h e (by simp)⟩
    · exact findRow_all fun x hx => h x (by simp [hx])
theorem putRow_all {Q : V → Prop} {key v : V} (hv : Q v) : ∀ {es : List (List V)}, (∀ e ∈ es, Q (rowVal e)) → ∀ e ∈ putRow key v es, Q (rowVal e)
  | [], _ => by
    intro e he
    rw [putRow, List.mem_singleton] at he
    subst he; exact hv
  | e :: es, h => by
    rw [putRow]
    split
    · intro x hx
      rcases List.mem_cons.1 hx with rfl | hx
      · exact hv
      · exact h x (by simp [hx])
    · intro x hx
      rcases List.mem_cons.1 hx with rfl | hx
      · exact h x (by simp)
      · exact putRow_all hv (fun y hy => h y (by simp [hy])) x hx

/- The ways to all things. -/
def WayV (n : Nat) (v : V) : Prop := ∃ w : List UInt8, v = .str w ∧ w.length ≤ 2097152 * (n + 1)
def CntV (n : Nat) (v : V) : Prop := ∃ c : Int, v = .int .i64 c ∧ 0 ≤ c ∧ c ≤ n
theorem WayV.up {n : Nat} {v : V} (h : WayV n v) : WayV (n + 1) v := by
  obtain ⟨w, rfl, h⟩ := h
  exact ⟨w, rfl, by omega⟩
theorem CntV.up {n : Nat} {v : V} (h : CntV n v) : CntV (n + 1) v := by
  obtain ⟨w, rfl, h, h'⟩ := h
  exact ⟨w, rfl, h, by omega⟩
def okW (t : T) : OkY := fun log vs => ∃ pre s suf w, spT t 0 1 = pre ++ s :: suf ∧ log.length = pre.length ∧ vs = [.str w, .agg s.1.cells]
def wbox (v : V) (n : Nat) : O := ⟨[[v]], n, true, true, true, .cell⟩
set_option maxHeartbeats 8000000 in
theorem treeWays1_full (t : T) (hs : t.Small) (hn : (spT t 0 1).length ≤ 20) (hsps : ∀ s ∈ spT t 0 1, s.1.Small) :
    Full Tryd.prog (okW t) 99 [.yld 0, .ptr 1 0 0] [logO [] true, boxT t] (fun o st' => ∃ r b log', o = .ret r ∧ st' = [logO log' b, boxT t] ∧ (b = true → log'.length = (spT t 0 1).length)) := by
  have hsp := treeSpots_full t
  have hcl := treeSpots1_full t hs _ (okbT_takes t)
  have hobt : okbT t = fun log vs => ∃ pre s suf, spT t 0 1 = pre ++ s :: suf ∧ log = spRows pre ∧ vs = [spV s] := rfl
  have hokw : okW t = fun log vs => ∃ pre s suf w, spT t 0 1 = pre ++ s :: suf ∧ log.length = pre.length ∧ vs = [.str w, .agg s.1.cells] := rfl
  have hbox : boxT t = ⟨[t.cells], 4, true, true, true, .cell⟩ := rfl
  generalize okW t = okw at *
  generalize okbT t = okb at *
  generalize spT t 0 1 = sps at *
  cases t with
  | mk id kind text kids =>
  refine full_of_awp good Tryd.func99 rfl (by kernel_rfl) (by decide) ?_
  conv => whnf
  refine .inr (.inl ⟨[], false, ?_⟩)
  conv => whnf
  refine hsp.mono ?_
  rintro o st' ⟨rfl, rfl⟩
  conv => whnf
  refine ⟨[7], false, okb, fun log st' => ∃ olog ways ahead : List (List V), olog.length = log.length ∧ (∀ e ∈ ways, WayV log.length (rowVal e)) ∧ (∀ e ∈ ahead, CntV log.length (rowVal e)) ∧
      st' = [logO olog true, ⟨[(T.mk id kind text kids).cells], 4, true, true, true, .cell⟩, wbox (.yld 0) 1, ⟨ways, codeOf (.int .i64), false, true, false, .map⟩, wbox (.map 3) 1, ⟨ahead, codeOf .str, false, true, false, .map⟩, wbox (.map 5) 1, ⟨[(T.mk id kind text kids).cells], 4, false, true, true, .cell⟩], ?_⟩
  conv => whnf
  refine ⟨⟨[], [], [], rfl, by simp, by simp, rfl⟩, ?_, ?_⟩
  · rintro log vs st' ⟨olog, ways, ahead, hol, hw, ha, rfl⟩ ho
    rw [hobt] at ho
    obtain ⟨pre, s, suf, rfl, rfl, rfl⟩ := ho
    have hsl := spRows_len pre
    have hlen : (spRows pre ++ [[spV s]]).length = pre.length + 1 := by rw [List.length_append, hsl]; rfl
    have hp20 : pre.length < 20 := by rw [List.length_append, List.length_cons] at hn; omega
    have hss := hsps s (by simp)
    have hoko : ∀ w : List UInt8, okw olog [.str w, .agg s.1.cells] := fun w => by
      rw [hokw]; exact ⟨pre, s, suf, w, rfl, by omega, rfl⟩
    refine ⟨rfl, ?_⟩
    simp only [hsl] at hol hw ha
    obtain ⟨⟨id', kind', text', kids'⟩, ov, lv⟩ := s
    cases hss with
    | mk g1 g2 g3 g4 g5 =>
    conv => whnf
    by_cases a1 : ov = 0
    · rw [eqB_t a1]
      conv => whnf
      refine ⟨hoko kind', ?_⟩
      intro b
      cases b
      · conv => whnf
        refine ⟨[], false, ?_⟩
        conv => whnf
        exact ⟨_, false, _, rfl, rfl, fun h => by cases h⟩
      · conv => whnf
        refine ⟨some [0, 1, 2, 3, 4, 5, 6, 7], ?_⟩
        conv => whnf
        refine ⟨olog ++ [[.str kind', .agg (T.mk id' kind' text' kids').cells]], putRow (.int .i64 id') (.str kind') ways, ahead, ?_, ?_, ?_, rfl⟩
        · rw [hlen, List.length_append, hol]; rfl
        · rw [hlen]; exact putRow_all ⟨kind', rfl, by omega⟩ fun e he => (hw e he).up
        · rw [hlen]; exact fun e he => (ha e he).up
    · rw [eqB_f a1]
      conv => whnf
      obtain ⟨r1, w, hr1, hw1, hw2⟩ : ∃ (r : Option V) (w : List UInt8), findRow (.int .i64 ov) ways = r ∧ w.length ≤ 2097152 * (pre.length + 1) ∧ ((r = none ∧ w = []) ∨ r = some (.str w)) := by
        rcases findRow_all (key := .int .i64 ov) hw with h | ⟨v, h, w, rfl, hl⟩
        · exact ⟨none, [], h, by simp, .inl ⟨rfl, rfl⟩⟩
        · exact ⟨_, w, h, hl, .inr rfl⟩
      obtain ⟨r2, c, hr2, hc1, hc2, hc3⟩ : ∃ (r : Option V) (c : Int), findRow (.str (((w ++ [47]) ++ kind') ++ [46])) ahead = r ∧ 0 ≤ c ∧ c ≤ pre.length ∧ ((r = none ∧ c = 0) ∨ r = some (.int .i64 c)) := by
        rcases findRow_all (key := .str (((w ++ [47]) ++ kind') ++ [46])) ha with h | ⟨v, h, c, rfl, hl, hl'⟩
        · exact ⟨none, 0, h, by omega, by omega, .inl ⟨rfl, rfl⟩⟩
        · exact ⟨_, c, h, hl, hl', .inr rfl⟩
      obtain ⟨stem, hstem⟩ : ∃ x, x = ((w ++ [47]) ++ kind') ++ [46] := ⟨_, rfl⟩
      have hsl2 : stem.length ≤ 2097152 * (pre.length + 1) + 1048578 := by
        rw [hstem]; simp only [List.length_append, List.length_cons, List.length_nil]; omega
      refine AtKey_intro _ hr1 ?_
      rcases hw2 with ⟨rfl, rfl⟩ | rfl
      all_goals
        conv => whnf
        refine ⟨by simp only [List.length_cons, List.length_nil]; omega, ?_⟩
        conv => whnf
        refine ⟨by simp only [List.length_append, List.length_cons, List.length_nil]; omega, ?_⟩
        conv => whnf
        refine ⟨by simp only [List.length_append, List.length_cons, List.length_nil]; omega, ?_⟩
        conv => whnf
        refine AtKey_intro _ hr2 ?_
        rcases hc3 with ⟨rfl, rfl⟩ | rfl
      all_goals
        conv => whnf
        refine .inl ((itoa_pure _ (by omega) (by omega)).mono ?_)
        rintro r ⟨fg, hfg, rfl⟩
        conv => whnf
        refine ⟨by simp only [List.length_append, List.length_cons, List.length_nil]; omega, ?_⟩
        conv => whnf
        refine AtKey_intro _ hr2 ?_
        conv => whnf
        refine ⟨hoko _, ?_⟩
        intro b
        cases b
        · conv => whnf
          refine ⟨[], false, ?_⟩
          conv => whnf
          exact ⟨_, false, _, rfl, rfl, fun h => by cases h⟩
        · conv => whnf
          refine ⟨some [0, 1, 2, 3, 4, 5, 6, 7], ?_⟩
          conv => whnf
          refine ⟨olog ++ [[.str (stem ++ fg), .agg (T.mk id' kind' text' kids').cells]], putRow (.int .i64 id') (.str (stem ++ fg)) ways, putRow (.str stem) (.int .i64 (IntKind.i64.wrap (_ + 1))) ahead, ?_, ?_, ?_, by rw [hstem]; rfl⟩
          · rw [hlen, List.length_append, hol]; rfl
          · rw [hlen]; exact putRow_all ⟨stem ++ fg, rfl, by rw [List.length_append]; omega⟩ fun e he => (hw e he).up
          · rw [hlen]; exact putRow_all ⟨_, rfl, by rw [wrap64 (by omega) (by omega)]; omega, by rw [wrap64 (by omega) (by omega)]; omega⟩ fun e he => (ha e he).up
  · refine hcl.mono ?_
    rintro o st' ⟨r, b, log', rfl, rfl, hl⟩
    refine ⟨_, _, _, rfl, rfl, fun hb st' hI => ?_⟩
    obtain ⟨olog, ways, ahead, hol, hw, ha, rfl⟩ := hI
    rw [hl hb] at hol
    conv => whnf
    refine ⟨[], false, ?_⟩
    conv => whnf
    exact ⟨_, true, olog, rfl, rfl, fun _ => by rw [hol, spRows_len]⟩
end Go.Cod

namespace Go.Cod
open Go Go.Proofs
set_option maxRecDepth 10000

def T.kd : T → List UInt8
  | .mk _ k _ _ => k
mutual
theorem spT_sm : ∀ (t : T) (ov lv : Int), t.Small → ∀ s ∈ spT t ov lv, s.1.Small
  | .mk id kind text kids, ov, lv, h => by
    intro s hs
    rcases List.mem_cons.1 hs with rfl | hs
    · exact h
    · cases h with
      | mk g1 g2 g3 g4 g5 => exact spL_sm kids _ _ g5 s hs
theorem spL_sm : ∀ (ts : List T) (ov lv : Int), (∀ t ∈ ts, t.Small) → ∀ s ∈ spL ts ov lv, s.1.Small
  | [], _, _, _ => by simp [spL]
  | t :: ts, ov, lv, h => by
    intro s hs
    rcases List.mem_append.1 hs with hs | hs
    · exact spT_sm t ov lv (h t (by simp)) s hs
    · exact spL_sm ts ov lv (fun t ht => h t (by simp [ht])) s hs
end
theorem treeWays_full (t : T) : Full Tryd.prog noY 76 [.agg t.cells] [] (fun o st' => o = .ret (.fn 99 [.ptr 0 0 0]) ∧ st' = [boxT t]) := by
  cases t with
  | mk id kind text kids =>
  refine full_of_awp good Tryd.func76 rfl (by kernel_rfl) (by decide) ?_
  conv => whnf
  refine ⟨[0], false, ?_⟩
  conv => whnf
  exact ⟨rfl, rfl⟩

def isKind (k : List UInt8) (s : Sp) : Bool := decide (s.1.kd = k)
theorem treeCount1_full (w k : List UInt8) (t : T) : Full Tryd.prog noY 51 [.str w, .agg t.cells, .ptr 0 0 0] [wbox (.str k) 1] (fun o st' => ∃ b : Bool, (b = true ↔ t.kd = k) ∧ o = .ret (.tup [.int .i64 t.id, .bool b]) ∧ st' = [wbox (.str k) 1]) := by
  cases t with
  | mk id kind text kids =>
  refine full_of_awp good Tryd.func51 rfl (by kernel_rfl) (by decide) ?_
  conv => whnf
  refine ⟨[], false, ?_⟩
  conv => whnf
  exact ⟨eqS kind k, eqS_iff, rfl, rfl⟩

def slV (ns : List Int) (m : Nat) : V := match ns with
  | [] => .nils
  | _ :: _ => .own m
def slO (ns : List Int) : List O := match ns with
  | [] => []
  | _ :: _ => [⟨irows ns, 1, true, true, false, .cell⟩]
theorem slO_snoc (n0 : Int) (ns : List Int) (n : Int) : slO ((n0 :: ns) ++ [n]) = [⟨irows (n0 :: ns) ++ [[.int .i64 n]], 1, true, true, false, .cell⟩] := by
  show [(⟨irows ((n0 :: ns) ++ [n]), 1, true, true, false, .cell⟩ : O)] = _
  simp [irows]
def kindIds (t : T) (k : List UInt8) : List Int := if okT t then ((spT t 0 1).filter (isKind k)).map idS else []
set_option maxHeartbeats 8000000 in
theorem treeAskedCount (t : T) (hs : t.Small) (k : List UInt8) :
    Full Tryd.prog noY 50 [.agg t.cells, .fn 51 [.ptr 0 0 0]] [wbox (.str k) 1] (fun o st' => o = .ret (.sl (irows (kindIds t k))) ∧ st' = [wbox (.str k) 1]) := by
  have hsps := spT_sm t 0 1 hs
  have hok := implTreeOk_pure t hs hsps
  have hkd : kindIds t k = if okT t then ((spT t 0 1).filter (isKind k)).map idS else [] := rfl
  generalize kindIds t k = res at *
  cases hb : okT t with
  | false =>
    rw [hb] at hok hkd
    have hkd : res = [] := hkd
    subst hkd
    cases t with
    | mk id kind text kids =>
    refine full_of_awp good Tryd.func50 rfl (by kernel_rfl) (by decide) ?_
    conv => whnf
    refine .inl (hok.mono ?_)
    rintro r rfl
    conv => whnf
    refine ⟨[], false, ?_⟩
    conv => whnf
    exact ⟨rfl, rfl⟩
  | true =>
    rw [hb] at hok hkd
    have hkd : res = ((spT t 0 1).filter (isKind k)).map idS := hkd
    have h20 : (spT t 0 1).length ≤ 20 := ((okT_iff t).1 hb).2.2
    have hcl := treeWays1_full t hs h20 hsps
    have hw := treeWays_full t
    have hokw : okW t = fun log vs => ∃ pre s suf w, spT t 0 1 = pre ++ s :: suf ∧ log.length = pre.length ∧ vs = [.str w, .agg s.1.cells] := rfl
    have hbox : boxT t = ⟨[t.cells], 4, true, true, true, .cell⟩ := rfl
    generalize okW t = okw at *
    generalize spT t 0 1 = sps at *
    cases t with
    | mk id kind text kids =>
    refine full_of_awp good Tryd.func50 rfl (by kernel_rfl) (by decide) ?_
    conv => whnf
    refine .inl (hok.mono ?_)
    rintro r rfl
    conv => whnf
    refine .inr (.inl ⟨[], false, ?_⟩)
    conv => whnf
    refine hw.mono ?_
    rintro o st' ⟨rfl, rfl⟩
    conv => whnf
    refine ⟨[4], false, okw, fun log st' => ∃ ids : List Int, ids = ((sps.take log.length).filter (isKind k)).map idS ∧ ids.length ≤ log.length ∧
      st' = [wbox (.str k) 1, ⟨[(T.mk id kind text kids).cells], 4, true, true, true, .cell⟩, wbox (.fn 51 [.ptr 0 0 0]) 1, wbox (slV ids 5) 1, ⟨[(T.mk id kind text kids).cells], 4, false, true, true, .cell⟩] ++ slO ids, ?_⟩
    conv => whnf
    refine ⟨⟨[], rfl, by simp, rfl⟩, ?_, ?_⟩
    · rintro log vs st' ⟨ids, hids, hil, rfl⟩ ho
      rw [hokw] at ho
      obtain ⟨pre, s, suf, w, rfl, hlp, rfl⟩ := ho
      have htk : (pre ++ s :: suf).take log.length = pre := by rw [hlp]; simp
      have htk1 : ∀ x : List V, (pre ++ s :: suf).take (log ++ [x]).length = pre ++ [s] := fun x => by
        rw [List.length_append, hlp]; show List.take (pre.length + 1) _ = _; rw [List.take_append, List.take_of_length_le (by omega)]; simp
      have hlen1 : ∀ x : List V, (log ++ [x]).length = log.length + 1 := fun x => by rw [List.length_append]; rfl
      rw [htk] at hids
      have hc := treeCount1_full w k s.1
      have hfl : ((pre ++ [s]).filter (isKind k)).map idS = ids ++ (if s.1.kd = k then [idS s] else []) := by
        rw [hids, List.filter_append, List.map_append]
        congr 1
        by_cases e : s.1.kd = k <;> simp [isKind, e]
      rw [List.length_append, List.length_cons] at h20
      refine ⟨rfl, ?_⟩
      obtain ⟨⟨id', kind', text', kids'⟩, ov, lv⟩ := s
      have hfl : ((pre ++ [((T.mk id' kind' text' kids', ov, lv) : Sp)]).filter (isKind k)).map idS = ids ++ (if kind' = k then [id'] else []) := hfl
      rcases ids with _ | ⟨n0, ns⟩
      all_goals
        conv => whnf
        refine ⟨[0], false, ?_⟩
        conv => whnf
        refine hc.mono ?_
        rintro o st' ⟨b, hb', rfl, rfl⟩
        by_cases e : kind' = k
        · obtain rfl : b = true := hb'.2 e
          rw [if_pos e] at hfl
          conv => whnf
          refine ⟨fun m hm => by rw [List.mem_singleton.1 hm]; rfl, ?_⟩
          conv => whnf
          first
            | (refine ⟨by show 1 * 8 ≤ _; omega, .inr ⟨(by intro e; cases e), ?_⟩⟩
               conv => whnf
               refine ⟨some [0, 1, 2, 3, 4, 7], ?_⟩
               conv => whnf
               exact ⟨[id'], by rw [htk1, hfl]; rfl, by rw [hlen1]; simp, rfl⟩)
            | (refine ⟨by
                 show ((irows (n0 :: ns)).length + 1) * 8 ≤ _
                 rw [irows_len]; omega, ?_⟩
               conv => whnf
               refine ⟨some [0, 1, 2, 3, 4, 8], ?_⟩
               conv => whnf
               refine ⟨(n0 :: ns) ++ [id'], by rw [htk1, hfl], by rw [hlen1, List.length_append]; simp only [List.length_singleton]; omega, ?_⟩
               rw [slO_snoc]; rfl)
        · obtain rfl : b = false := by
            cases b
            · rfl
            · exact absurd (hb'.1 rfl) e
          rw [if_neg e] at hfl
          conv => whnf
          first
            | (refine ⟨some [0, 1, 2, 3, 4], ?_⟩
               conv => whnf
               exact ⟨_, by rw [htk1, hfl]; rfl, by rw [hlen1]; simp, rfl⟩)
            | (refine ⟨some [0, 1, 2, 3, 4, 5], ?_⟩
               conv => whnf
               exact ⟨n0 :: ns, by rw [htk1, hfl, List.append_nil], by rw [hlen1]; omega, rfl⟩)
    · refine hcl.mono ?_
      rintro o st' ⟨r, b, log', rfl, rfl, hl⟩
      refine ⟨_, _, _, rfl, rfl, fun hb st' hI => ?_⟩
      obtain ⟨ids, hids, hil, rfl⟩ := hI
      rw [hl hb, List.take_of_length_le (by omega), ← hkd] at hids
      subst hids
      rcases ids with _ | ⟨n0, ns⟩
      all_goals
        conv => whnf
        refine ⟨[], false, ?_⟩
        conv => whnf
        exact ⟨rfl, rfl⟩
end Go.Cod

namespace Go.Cod
open Go Go.Proofs
set_option maxRecDepth 10000

/- Numbers below a hundred, in decimals. -/
def decB (n : Nat) : List UInt8 := if n < 10 then [UInt8.ofNat (48 + n)] else [UInt8.ofNat (48 + n / 10), UInt8.ofNat (48 + n % 10)]
theorem decB_no (n : Nat) (h : n < 100) : (46 : UInt8) ∉ decB n ∧ (47 : UInt8) ∉ decB n := by
  have : ∀ n < 100, (46 : UInt8) ∉ decB n ∧ (47 : UInt8) ∉ decB n := by decide
  exact this n h
theorem decB_inj (a b : Nat) (ha : a < 30) (hb : b < 30) (h : decB a = decB b) : a = b := by
  have : ∀ a < 30, ∀ b < 30, decB a = decB b → a = b := by decide
  exact this a ha b hb h
theorem decB_len (n : Nat) : (decB n).length ≤ 2 := by
  unfold decB
  split <;> simp
theorem small_dec (n : Int) (h0 : 0 ≤ n) (h1 : n < 100) : Pure Tryd.prog 114 [.int .i64 n] (· = .str (decB n.toNat)) := by
  refine pure_of_awp good Tryd.func114 rfl (by kernel_rfl) (by decide) ?_
  conv => whnf
  have w1 : IntKind.i64.wrap (n + 1) = n + 1 := wrap64 (by omega) (by omega)
  have w2 : IntKind.i64.wrap (n * 2) = n * 2 := wrap64 (by omega) (by omega)
  have w3 : IntKind.i64.wrap (n * 2 + 2) = n * 2 + 2 := wrap64 (by omega) (by omega)
  obtain ⟨m, rfl⟩ : ∃ m : Nat, n = (m : Int) := ⟨n.toNat, by omega⟩
  have hm : m < 100 := by omega
  clear h0 h1
  by_cases a : (m : Int) < 10
  · rw [ltB_t a]
    conv => whnf
    rw [w1]
    refine ⟨by omega, by show ((m : Int) + 1).toNat ≤ 36; omega, ?_⟩
    conv => whnf
    refine ⟨by omega, by omega, ?_⟩
    conv => whnf
    have a9 : m < 10 := by omega
    clear a
    clear w1 w2 w3 hm
    refine congrArg V.str ?_
    revert m
    decide
  · rw [ltB_f (by omega)]
    conv => whnf
    rw [w2, w3]
    refine ⟨by omega, by show ((m : Int) * 2 + 2).toNat ≤ 200; omega, ?_⟩
    conv => whnf
    refine ⟨by omega, by omega, ?_⟩
    conv => whnf
    have a9 : 10 ≤ m := by omega
    clear a
    clear w1 w2 w3
    refine congrArg V.str ?_
    revert m
    decide
theorem formatInt_dec (n : Int) (h0 : 0 ≤ n) (h1 : n < 100) : Pure Tryd.prog 113 [.int .i64 n, .int .i64 10] (· = .str (decB n.toNat)) := by
  have hs := small_dec n h0 h1
  refine pure_of_awp good Tryd.func113 rfl (by kernel_rfl) (by decide) ?_
  conv => whnf
  rw [eqB_t (by rfl)]
  conv => whnf
  rw [leB_t h0]
  conv => whnf
  rw [ltB_t h1]
  conv => whnf
  refine .inl (hs.mono ?_)
  rintro r rfl
  conv => whnf
theorem itoa1_dec (n : Int) (h0 : 0 ≤ n) (h1 : n < 100) : Pure Tryd.prog 110 [.int .i64 n] (· = .str (decB n.toNat)) := by
  have hs := formatInt_dec n h0 h1
  refine pure_of_awp good Tryd.func110 rfl (by kernel_rfl) (by decide) ?_
  conv => whnf
  refine .inl (hs.mono ?_)
  rintro r rfl
  conv => whnf
theorem itoa_dec (n : Int) (h0 : 0 ≤ n) (h1 : n < 100) : Pure Tryd.prog 100 [.int .i64 n] (· = .str (decB n.toNat)) := by
  have hs := itoa1_dec n h0 h1
  refine pure_of_awp good Tryd.func100 rfl (by kernel_rfl) (by decide) ?_
  conv => whnf
  refine .inl (hs.mono ?_)
  rintro r rfl
  conv => whnf

/- The ways to all things, one by one. -/
structure W where
  way : List UInt8
  stem : List UInt8
  sp : Sp
def W.has (i : Int) (e : W) : Bool := decide (e.sp.1.id = i)
def W.of (st : List UInt8) (e : W) : Bool := decide (e.stem = st)
def wFind (acc : List W) (i : Int) : Option (List UInt8) := (acc.find? (W.has i)).map W.way
def stemW (acc : List W) (s : Sp) : List UInt8 := (((wFind acc s.2.1).getD [] ++ [47]) ++ s.1.kd) ++ [46]
def mkW (acc : List W) (s : Sp) : W := if s.2.1 = 0 then ⟨s.1.kd, [], s⟩ else ⟨stemW acc s ++ decB (acc.countP (W.of (stemW acc s))), stemW acc s, s⟩
def waysA (acc : List W) : List Sp → List W
  | [] => acc
  | s :: ss => waysA (acc ++ [mkW acc s]) ss
theorem waysA_append (acc : List W) (a b : List Sp) : waysA acc (a ++ b) = waysA (waysA acc a) b := by
  induction a generalizing acc with
  | nil => rfl
  | cons s ss ih => simp only [List.cons_append, waysA, ih]
theorem waysA_snoc (a : List Sp) (s : Sp) : waysA [] (a ++ [s]) = waysA [] a ++ [mkW (waysA [] a) s] := by rw [waysA_append]; rfl
theorem mkW_sp (acc : List W) (s : Sp) : (mkW acc s).sp = s := by unfold mkW; split <;> rfl
theorem waysA_sp (l : List Sp) : ∀ acc : List W, (waysA acc l).map W.sp = acc.map W.sp ++ l := by
  induction l with
  | nil => intro acc; simp [waysA]
  | cons s ss ih => intro acc; simp only [waysA, ih, List.map_append, List.map_cons, List.map_nil, mkW_sp, List.append_assoc, List.cons_append, List.nil_append]
theorem waysA_len (l : List Sp) : (waysA [] l).length = l.length := by
  have := congrArg List.length (waysA_sp l [])
  simpa using this
theorem wFind_mem {acc : List W} {i : Int} {w : List UInt8} (h : wFind acc i = some w) : ∃ e ∈ acc, e.way = w ∧ e.sp.1.id = i := by
  unfold wFind at h
  cases hf : acc.find? (W.has i) with
  | none => rw [hf] at h; cases h
  | some e =>
    rw [hf] at h
    have h1 := List.find?_some hf
    have h2 := List.mem_of_find?_eq_some hf
    simp only [W.has, decide_eq_true_eq] at h1
    exact ⟨e, h2, by simpa using h, h1⟩
theorem wFind_snoc {acc : List W} {e : W} (i : Int) (hn : e.sp.1.id ∉ acc.map fun x => x.sp.1.id) : wFind (acc ++ [e]) i = if e.sp.1.id = i then some e.way else wFind acc i := by
  unfold wFind
  rw [List.find?_append]
  by_cases h : e.sp.1.id = i
  · have : acc.find? (W.has i) = none := by
      rw [List.find?_eq_none]
      intro x hx hh
      simp only [W.has, decide_eq_true_eq] at hh
      exact hn (List.mem_map.2 ⟨x, hx, by rw [hh, h]⟩)
    rw [this, if_pos h]
    simp [W.has, h]
  · rw [if_neg h]
    have : [e].find? (W.has i) = none := by simp [W.has, h]
    rw [this]; simp
theorem waysA_kd {l : List Sp} (h : ∀ s ∈ l, s.1.kd.length ≤ 1048576) : ∀ e ∈ waysA [] l, e.way.length ≤ 2097152 * ((waysA [] l).length + 1) := by
  suffices hg : ∀ n, n ≤ l.length → ∀ e ∈ waysA [] (l.take n), e.way.length ≤ 2097152 * (n + 1) by
    have := hg l.length (Nat.le_refl _)
    rw [List.take_length] at this
    rw [waysA_len]; exact this
  intro n
  induction n with
  | zero => intro _ e he; simp [waysA] at he
  | succ n ih =>
    intro hn e he
    rw [List.take_succ_eq_append_getElem (by omega), waysA_snoc, List.mem_append, List.mem_singleton] at he
    have ih := ih (by omega)
    rcases he with he | rfl
    · have := ih e he; omega
    · have hk := h l[n] (List.getElem_mem _)
      unfold mkW
      split
      · simp only; omega
      · have hd := decB_len ((waysA [] (l.take n)).countP (W.of (stemW (waysA [] (l.take n)) l[n])))
        have hw : ((wFind (waysA [] (l.take n)) l[n].2.1).getD []).length ≤ 2097152 * (n + 1) := by
          cases hf : wFind (waysA [] (l.take n)) l[n].2.1 with
          | none => simp
          | some w =>
            obtain ⟨e, he, rfl, _⟩ := wFind_mem hf
            exact ih e he
        simp only [stemW, List.length_append, List.length_cons, List.length_nil] at hd ⊢
        omega
end Go.Cod

