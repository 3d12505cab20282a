/- Contracts of this seat's functions, and the law. -/
import Derived.ChangeArms
import Derived.Deep.Slices
import Derived.OpenShut
import Derived.JoinedOf
import Derived.Handed
import Derived.Test.YtaekcebacghjoaaDoorCodC
/-! Arguments: out of what a statement reads, abstract values. -/
namespace Go.Cod
open Go Go.ChangeShapes Go.WideShapes
variable [Lam]

section
variable {H : Type} (enc : TypeId × Value → H) (P : Program) (w : World)

/-- What is read at a type at most n deep is what S says. -/
def Reads (n : Nat) (t : TypeId) (S : List V → Prop) : Prop := ∀ cs x, DataW.trod enc P w 0 (fun _ => true) true n t cs = some x →
  ∃ vs, S vs ∧ RepL (oldP w) [] w vs cs ∧ (∀ v ∈ vs, v.leaf = true) ∧ V.clean.cleanL 0 vs = true

variable {enc P w}

omit [Lam] in
theorem reads_int {n : Nat} {t : TypeId} {k : IntKind} (ht : P.underlying t = some (.int k)) : Reads enc P w n t fun vs => ∃ i, vs = [.int k i] ∧ k.min ≤ i ∧ i ≤ k.max := by
  intro cs x h
  obtain ⟨i, rfl, _, hw⟩ := DataW.trod_int ht h
  simp only [Lit.wf, Bool.and_eq_true, decide_eq_true_eq] at hw
  refine ⟨_, ⟨i, rfl, hw⟩, ⟨rfl, ?_⟩, by simp [V.leaf], rfl⟩
  intro j a b h1 h2
  cases j with
  | zero => simp at h1 h2; subst h1 h2; exact .int _ _
  | succ j => simp at h1

omit [Lam] in
theorem reads_bool {n : Nat} {t : TypeId} (ht : P.underlying t = some .bool) : Reads enc P w n t fun vs => ∃ b, vs = [.bool b] := by
  intro cs x h
  obtain ⟨i, rfl, _⟩ := DataW.trod_bool ht h
  refine ⟨_, ⟨i, rfl⟩, ⟨rfl, ?_⟩, by simp [V.leaf], rfl⟩
  intro j a b h1 h2
  cases j with
  | zero => simp at h1 h2; subst h1 h2; exact .bool _
  | succ j => simp at h1

omit [Lam] in
theorem reads_str {n : Nat} {t : TypeId} (ht : P.underlying t = some .string) : Reads enc P w n t fun vs => ∃ s, vs = [.str s] ∧ s.length ≤ maxLen := by
  intro cs x h
  obtain ⟨s, rfl, _, hw⟩ := DataW.trod_string ht h
  refine ⟨_, ⟨s.data.toList, rfl, hw⟩, ⟨rfl, ?_⟩, by simp [V.leaf], rfl⟩
  intro j a b h1 h2
  cases j with
  | zero =>
    simp at h1 h2; subst h1 h2
    have := Rep.str (Pr := oldP w) (γ := []) (w := w) s.data.toList
    simpa using this
  | succ j => simp at h1

omit [Lam] in
theorem addr_off {a : Addr} (h : a.spot = none) (n : Nat) : a.add n = ⟨a.block, a.off + n, none⟩ := by
  cases a
  simp at h
  subst h
  unfold Addr.add
  split
  · rename_i h; subst h; simp
  · rfl

omit [Lam] in
theorem RepL.len {Pr γ w vs cs} (h : RepL Pr γ w vs cs) : vs.length = cs.length := h.1

omit [Lam] in
theorem reads_slice {n : Nat} {t e : TypeId} {S : List V → Prop} (ht : P.underlying t = some (.slice e)) (hc : 0 < P.cellsOf e) (he : ∀ m, m < n → Reads enc P w m e S) :
    Reads enc P w n t fun vs => ∃ es, vs = [.sl es] ∧ es.length ≤ maxLen ∧ ∀ r ∈ es, S r ∧ r.length = P.cellsOf e ∧ (∀ v ∈ r, v.leaf = true) ∧ V.clean.cleanL 0 r = true := by
  intro cs x h
  rcases DataW.trod_slice ht h with ⟨rfl, _⟩ | ⟨a, len, cap, elems, rest, m, rfl, rfl, rfl, hb, hl, hm, hlen, hel, hsp, hns⟩
  · refine ⟨_, ⟨[], rfl, by simp, by simp⟩, ⟨rfl, ?_⟩, by simp [V.leaf], rfl⟩
    intro j a b h1 h2
    cases j with
    | zero => simp at h1 h2; subst h1 h2; exact .sl0 _ _
    | succ j => simp at h1
  have key : ∀ i, i < len → ∃ (cs' : List Value) (vs : List V), w.cells? 0 (a.add (i * P.cellsOf e)) (P.cellsOf e) = some cs' ∧ S vs ∧ RepL (oldP w) [] w vs cs' ∧ (∀ v ∈ vs, v.leaf = true) ∧ V.clean.cleanL 0 vs = true := by
    intro i hi
    have h1 := hel i hi
    rw [List.getElem?_eq_getElem (by omega)] at h1
    obtain ⟨cs', h2, h3⟩ := Option.bind_eq_some_iff.1 h1
    obtain ⟨vs, h4, h5, h6⟩ := he m (by omega) _ _ h3
    exact ⟨cs', vs, h2, h4, h5, h6⟩
  by_cases h0 : len = 0
  · subst h0
    refine ⟨_, ⟨[], rfl, by simp, by simp⟩, ⟨rfl, ?_⟩, by simp [V.leaf], rfl⟩
    intro j a b h1 h2
    cases j with
    | zero => simp at h1 h2; subst h1 h2; exact .sl0 _ _
    | succ j => simp at h1
  have hspot : a.spot = none := by
    obtain ⟨cs', vs, h1, _⟩ := key 0 (by omega)
    obtain ⟨_, h2, h3⟩ := World.cells?_some h1
    have h4 := h3 0 hc
    rw [List.getElem?_eq_getElem (by omega)] at h4
    simp [Addr.add] at h4
    unfold World.cell? at h4
    split at h4
    · split at h4
      · cases h4
      · rename_i hn; simpa using hn
    · cases h4
  obtain ⟨C, hC⟩ := Classical.axiomOfChoice (r := fun (i : Fin len) (q : List Value × List V) => w.cells? 0 (a.add (i.1 * P.cellsOf e)) (P.cellsOf e) = some q.1 ∧ S q.2 ∧ RepL (oldP w) [] w q.2 q.1 ∧ (∀ v ∈ q.2, v.leaf = true) ∧ V.clean.cleanL 0 q.2 = true)
    (fun i => by obtain ⟨cs', vs, h⟩ := key i.1 i.2; exact ⟨(cs', vs), h⟩)
  let es : List (List V) := List.ofFn fun i => (C i).2
  have hes : es.length = len := by simp [es]
  have hrow : ∀ (i : Nat) r, es[i]? = some r → ∃ h : i < len, r = (C ⟨i, h⟩).2 := by
    intro i r hi
    obtain ⟨h1, h2⟩ := List.getElem?_eq_some_iff.1 hi
    rw [hes] at h1
    exact ⟨h1, by rw [← h2]; simp [es]⟩
  have hw : ∀ (i : Nat) r, es[i]? = some r → S r ∧ r.length = P.cellsOf e ∧ (∀ v ∈ r, v.leaf = true) ∧ V.clean.cleanL 0 r = true := by
    intro i r hi
    obtain ⟨h, rfl⟩ := hrow i r hi
    obtain ⟨a1, a2, a3, a4⟩ := hC ⟨i, h⟩
    exact ⟨a2, by rw [a3.1]; exact (World.cells?_some a1).2.1, a4⟩
  have hw' : ∀ r ∈ es, S r ∧ r.length = P.cellsOf e ∧ (∀ v ∈ r, v.leaf = true) ∧ V.clean.cleanL 0 r = true := by
    intro r hr
    obtain ⟨i, hi, rfl⟩ := List.mem_iff_getElem.1 hr
    exact hw i _ (List.getElem?_eq_getElem hi)
  refine ⟨[.sl es], ⟨es, rfl, by rw [hes]; omega, hw'⟩, ⟨rfl, ?_⟩, by simp [V.leaf], rfl⟩
  intro j x u h1 h2
  cases j with
  | succ j => simp at h1
  | zero =>
    simp at h1 h2; subst h1 h2
    obtain ⟨b, off, sp⟩ := a
    simp only at hspot
    subst hspot
    have cellat : ∀ (i : Nat) r (j : Nat) v, es[i]? = some r → r[j]? = some v → ∃ u, w.cell? ⟨b, off + (i * P.cellsOf e + j), none⟩ = some u ∧ Rep (oldP w) [] w v u := by
      intro i r j v hi hj
      obtain ⟨h, rfl⟩ := hrow i r hi
      obtain ⟨a1, a2, a3, a4⟩ := hC ⟨i, h⟩
      obtain ⟨_, b2, b3⟩ := World.cells?_some a1
      have hjl := (List.getElem?_eq_some_iff.1 hj).1
      rw [a3.1, b2] at hjl
      have b4 := b3 j hjl
      rw [Go.Deep.add_add, addr_off rfl] at b4
      rw [b4, List.getElem?_eq_getElem (by omega)]
      exact ⟨_, rfl, a3.2 j _ _ hj (List.getElem?_eq_getElem (by omega))⟩
    have := Rep.sl (Pr := oldP w) (γ := []) (w := w) (es := es) (b := b) (off := off) (cap := cap) (c := P.cellsOf e) (fun i j => (w.cell? ⟨b, off + (i * P.cellsOf e + j), none⟩).getD undef)
      (V.cleanLL_take fun e he => (hw' e he).2.2.2) (by omega) (fun e he => (hw' e he).2.1) (fun e he => (hw' e he).2.2.1) ?_ ?_
    · rw [hes] at this; exact this
    · intro i r j v hi hj
      obtain ⟨u, hu, hr⟩ := cellat i r j v hi hj
      refine ⟨by rw [hu]; rfl, ?_⟩
      unfold World.cell? at hu
      show b < w.heap.size
      split at hu
      · rename_i hh; exact (Array.getElem?_eq_some_iff.1 hh).1
      · cases hu
    · intro i r j v hi hj
      obtain ⟨u, hu, hr⟩ := cellat i r j v hi hj
      rw [hu]; exact hr

/-- The fields of a struct, one behind the other. -/
def SFields : List (List V → Prop) → List V → Prop
  | [], vs => vs = []
  | S :: Ss, vs => ∃ a b, vs = a ++ b ∧ S a ∧ SFields Ss b

omit [Lam] in
theorem cleanL_append {n : Nat} : ∀ {xs ys : List V}, V.clean.cleanL n xs = true → V.clean.cleanL n ys = true → V.clean.cleanL n (xs ++ ys) = true
  | [], _, _, h => h
  | x :: xs, _, h, h' => by
    simp only [List.cons_append, V.clean.cleanL, Bool.and_eq_true] at h ⊢
    exact ⟨h.1, cleanL_append h.2 h'⟩

omit [Lam] in
theorem reads_fields {n : Nat} {cs : List Value} : ∀ (fs : List Field) (Ss : List (List V → Prop)) (off : Nat) (xs : List (DataW H × List MemPlace)), fs.length = Ss.length →
    (∀ (j : Nat) f S, fs[j]? = some f → Ss[j]? = some S → Reads enc P w n f.type S) →
    (∀ (j : Nat) f, fs[j]? = some f → f.offset = off + ((fs.take j).map fun f => P.cellsOf f.type).sum) →
    (∀ (j : Nat) f, fs[j]? = some f → ∃ x, DataW.trod enc P w 0 (fun _ => true) true n f.type ((cs.drop f.offset).take (P.cellsOf f.type)) = some x) →
    cs.length = off + (fs.map fun f => P.cellsOf f.type).sum →
    ∃ vs, SFields Ss vs ∧ RepL (oldP w) [] w vs (cs.drop off) ∧ (∀ v ∈ vs, v.leaf = true) ∧ V.clean.cleanL 0 vs = true
  | [], [], off, xs, _, _, _, _, hl => by
    refine ⟨[], rfl, ?_, by simp, rfl⟩
    rw [List.drop_of_length_le (by simp at hl; omega)]
    exact ⟨rfl, fun i x u h => by simp at h⟩
  | f :: fs, S :: Ss, off, xs, hlen, hR, hoff, htr, hl => by
    have h0 := hoff 0 f rfl
    simp at h0
    obtain ⟨x, hx⟩ := htr 0 f rfl
    rw [h0] at hx
    obtain ⟨va, a1, a2, a3, a4⟩ := hR 0 f S rfl rfl _ _ hx
    simp only [List.map_cons, List.sum_cons] at hl
    obtain ⟨vb, b1, b2, b3, b4⟩ := reads_fields fs Ss (off + P.cellsOf f.type) xs (by simpa using hlen) (fun j f' S' h1 h2 => hR (j + 1) f' S' (by simpa using h1) (by simpa using h2))
      (fun j f' h1 => by have := hoff (j + 1) f' (by simpa using h1); simp only [List.take_succ_cons, List.map_cons, List.sum_cons] at this; omega) (fun j f' h1 => htr (j + 1) f' (by simpa using h1)) (by omega)
    refine ⟨va ++ vb, ⟨va, vb, rfl, a1, b1⟩, ?_, fun v hv => ?_, cleanL_append a4 b4⟩
    · have hs : cs.drop off = (cs.drop off).take (P.cellsOf f.type) ++ cs.drop (off + P.cellsOf f.type) := by
        rw [← List.drop_drop]; exact (List.take_append_drop _ _).symm
      rw [hs]
      exact a2.append b2
    · rcases List.mem_append.1 hv with hv | hv
      · exact a3 v hv
      · exact b3 v hv
  | [], _ :: _, _, _, hlen, _, _, _, _ => by simp at hlen
  | _ :: _, [], _, _, hlen, _, _, _, _ => by simp at hlen

omit [Lam] in
theorem reads_struct {n : Nat} {t : TypeId} {fs : Array Field} {Ss : List (List V → Prop)} (K : Kids P (· < P.types.size)) (htl : t < P.types.size) (ht : P.underlying t = some (.struct fs)) (hlen : fs.toList.length = Ss.length)
    (hR : ∀ m, m < n → ∀ (j : Nat) f S, fs.toList[j]? = some f → Ss[j]? = some S → Reads enc P w m f.type S) : Reads enc P w n t (SFields Ss) := by
  intro cs x h
  obtain ⟨xs, m, rfl, rfl, hl, hxl, hx⟩ := DataW.trod_struct ht h
  obtain ⟨h1, h2, h3⟩ := K.struct htl ht
  have := reads_fields (enc := enc) (w := w) (n := m) (cs := cs) fs.toList Ss 0 xs hlen (hR m (by omega)) (fun j f hf => by rw [h3 j f hf]; simp) (fun j f hf => ?_) (by rw [hl, h2]; simp)
  · simpa using this
  · have hj := (List.getElem?_eq_some_iff.1 hf).1
    have h4 := hx j f (by simpa using hf)
    rw [List.getElem?_eq_getElem (by simp at hj; omega)] at h4
    exact ⟨_, h4⟩
end
end Go.Cod

/-! A law's call, out of its contract: arguments of any number. -/
namespace Go.Cod
open Go Go.ChangeShapes Go.WideShapes
variable [Lam]

section
variable {H : Type} (enc : TypeId × Value → H) (P : Program) (W : World)

/-- An argument of a type is what S says. -/
def ReadsA (t : TypeId) (S : V → Prop) : Prop := ∀ base v d p, Value.okWide P W .any base t v → DataW.Trod enc P W 0 (fun _ => true) true t v d p → ∃ x, S x ∧ Rep (oldP W) [] W x v
def ReadsAll : List TypeId → List (V → Prop) → Prop
  | [], [] => True
  | t :: ts, S :: Ss => ReadsA enc P W t S ∧ ReadsAll ts Ss
  | _, _ => False
def HoldAll : List (V → Prop) → List V → Prop
  | [], [] => True
  | S :: Ss, x :: xs => S x ∧ HoldAll Ss xs
  | _, _ => False
omit [Lam] in
theorem hold_nil {xs : List V} (h : HoldAll [] xs) : xs = [] := by
  cases xs with
  | nil => rfl
  | cons _ _ => exact h.elim
omit [Lam] in
theorem hold_cons {S : V → Prop} {Ss : List (V → Prop)} {xs : List V} (h : HoldAll (S :: Ss) xs) : ∃ a as, xs = a :: as ∧ S a ∧ HoldAll Ss as := by
  cases xs with
  | nil => exact h.elim
  | cons a as => exact ⟨a, as, rfl, h⟩
omit [Lam] in
theorem hold1 {S1 : V → Prop} {xs : List V} (h : HoldAll [S1] xs) : ∃ a, xs = [a] ∧ S1 a := by
  obtain ⟨a, _, rfl, h1, h⟩ := hold_cons h
  obtain rfl := hold_nil h
  exact ⟨a, rfl, h1⟩
omit [Lam] in
theorem hold2 {S1 S2 : V → Prop} {xs : List V} (h : HoldAll [S1, S2] xs) : ∃ a b, xs = [a, b] ∧ S1 a ∧ S2 b := by
  obtain ⟨a, _, rfl, h1, h⟩ := hold_cons h
  obtain ⟨b, rfl, h2⟩ := hold1 h
  exact ⟨a, b, rfl, h1, h2⟩
omit [Lam] in
theorem hold3 {S1 S2 S3 : V → Prop} {xs : List V} (h : HoldAll [S1, S2, S3] xs) : ∃ a b c, xs = [a, b, c] ∧ S1 a ∧ S2 b ∧ S3 c := by
  obtain ⟨a, _, rfl, h1, h⟩ := hold_cons h
  obtain ⟨b, c, rfl, h2⟩ := hold2 h
  exact ⟨a, b, c, rfl, h1, h2⟩
omit [Lam] in
theorem hold4 {S1 S2 S3 S4 : V → Prop} {xs : List V} (h : HoldAll [S1, S2, S3, S4] xs) : ∃ a b c d, xs = [a, b, c, d] ∧ S1 a ∧ S2 b ∧ S3 c ∧ S4 d := by
  obtain ⟨a, _, rfl, h1, h⟩ := hold_cons h
  obtain ⟨b, c, d, rfl, h2⟩ := hold3 h
  exact ⟨a, b, c, d, rfl, h1, h2⟩

variable {enc P W}

omit [Lam] in
theorem readsA_agg {t : TypeId} {fs : Array Field} {S : List V → Prop} (ht : P.underlying t = some (.struct fs)) (h : ∀ n, Reads enc P W n t S) : ReadsA enc P W t fun x => ∃ vs, x = .agg vs ∧ S vs := by
  intro base v d p hv ⟨n, h0⟩
  obtain ⟨cs, rfl, hcs⟩ := okWide_struct ht hv
  obtain ⟨vs, hS, hr, hlf⟩ := h n _ _ h0
  refine ⟨_, ⟨vs, rfl, hS⟩, ?_⟩
  have := Rep.agg (Pr := oldP W) (γ := []) (w := W) hr.1 hr.2
  simpa [Value.cells] using this

omit [Lam] in
theorem readsA_one {t : TypeId} {S : List V → Prop} (h : ∀ n, Reads enc P W n t S) (hc : ∀ base v, Value.okWide P W .any base t v → v.cells.toList = [v]) : ReadsA enc P W t fun x => S [x] := by
  intro base v d p hv ⟨n, h0⟩
  obtain ⟨vs, hS, hr, hlf⟩ := h n _ _ h0
  rw [hc base v hv] at hr
  obtain ⟨x, rfl⟩ : ∃ x, vs = [x] := by
    have := hr.1
    cases vs with
    | nil => simp at this
    | cons x xs => cases xs with
      | nil => exact ⟨x, rfl⟩
      | cons y ys => simp at this
  exact ⟨x, hS, hr.2 0 x v rfl rfl⟩
omit [Lam] in
theorem readsA_int {t : TypeId} {k : IntKind} (ht : P.underlying t = some (.int k)) : ReadsA enc P W t fun x => ∃ i, [x] = [.int k i] ∧ k.min ≤ i ∧ i ≤ k.max :=
  readsA_one (fun _ => reads_int ht) fun base v hv => by obtain ⟨n, rfl⟩ := okWide_int ht hv; rfl
omit [Lam] in
theorem readsA_str {t : TypeId} (ht : P.underlying t = some .string) : ReadsA enc P W t fun x => ∃ s, [x] = [.str s] ∧ s.length ≤ maxLen :=
  readsA_one (fun _ => reads_str ht) fun base v hv => by obtain ⟨n, rfl⟩ := okWide_string ht hv; rfl
omit [Lam] in
theorem readsA_bool {t : TypeId} (ht : P.underlying t = some .bool) : ReadsA enc P W t fun x => ∃ b, [x] = [.bool b] :=
  readsA_one (fun _ => reads_bool ht) fun base v hv => by obtain ⟨n, rfl⟩ := okWide_bool ht hv; rfl
omit [Lam] in
theorem readsA_slice {t e : TypeId} {S : List V → Prop} (ht : P.underlying t = some (.slice e)) (h : ∀ n, Reads enc P W n t S) : ReadsA enc P W t fun x => S [x] :=
  readsA_one h fun base v hv => by obtain ⟨a, b, c, rfl⟩ := okWide_slice ht hv; rfl

omit [Lam] in
theorem args_of : ∀ {ts : List TypeId} {Ss : List (V → Prop)} {args : List Value} {ds : List (DataW H)} {ps : List MemPlace} {base : Nat}, ReadsAll enc P W ts Ss → DataW.TrodAll enc P W 0 (fun _ => true) true ts args ds ps →
    (∀ (j : Nat) t v, ts[j]? = some t → args[j]? = some v → Value.okWide P W .any base t v) → ∃ xs, HoldAll Ss xs ∧ RepL (oldP W) [] W xs args
  | [], [], args, ds, ps, base, _, hA, _ => by
    obtain ⟨rfl, rfl, rfl⟩ := trodAll_nil hA
    exact ⟨[], trivial, rfl, by simp⟩
  | t :: ts, S :: Ss, args, ds, ps, base, hR, hA, hv => by
    obtain ⟨v, vs', d, ds', p, q, rfl, rfl, rfl, h0, h1⟩ := trodAll_cons hA
    obtain ⟨x, hx, hr⟩ := hR.1 _ _ _ _ (hv 0 t v rfl rfl) h0
    obtain ⟨xs, hxs, hl, hrs⟩ := args_of hR.2 h1 fun j t v a b => hv (j + 1) t v a b
    refine ⟨x :: xs, ⟨hx, hxs⟩, by simp [hl], fun i a u e1 e2 => ?_⟩
    cases i with
    | zero => simp at e1 e2; subst e1 e2; exact hr
    | succ i => exact hrs i a u (by simpa using e1) (by simpa using e2)
  | [], _ :: _, _, _, _, _, h, _, _ => h.elim
  | _ :: _, [], _, _, _, _, h, _, _ => h.elim

omit [Lam] in
theorem trodAll_len : ∀ {ts : List TypeId} {args : List Value} {ds : List (DataW H)} {ps : List MemPlace}, DataW.TrodAll enc P W 0 (fun _ => true) true ts args ds ps → ds.length = ts.length
  | [], _, _, _, h => by obtain ⟨rfl, rfl, rfl⟩ := trodAll_nil h; rfl
  | _ :: _, _, _, _, h => by
    obtain ⟨v, vs', d, ds', p, q, rfl, rfl, rfl, h0, h1⟩ := trodAll_cons h
    simp [trodAll_len h1]

/-- THE CALL OF A LAW that answers true. -/
theorem law_calls {f : FuncId} {F : Func} {s : ChangeSpec} {apart fresh handsOn again : Bool} {tb : TypeId} (K : Kids P (· < P.types.size)) (hz : ∀ t e, t < P.types.size → P.underlying t = some (.slice e) → 0 < P.cellsOf e)
    (hres : F.resultTypes = #[tb]) (htb : P.underlying tb = some .bool) (hpar : ∀ t ∈ F.params.toList, t < P.types.size) (hvars : s.vars = [])
    {args : Array Value} {ds gs : List (DataW H)} {before : List MemPlace} (hW : DataW.Whole enc P F.params.toList s.vars apart W args.toList ds gs before)
    (hs : ∀ ds : List (DataW H), ds.length = F.params.toList.length → (s.fn H ds).results = [.lit (.bool true)] ∧ (s.fn H ds).args = ds ∧ (s.fn H ds).vars = [])
    {base : Nat} (hval : ∀ (j : Nat) t v, F.params[j]? = some t → args[j]? = some v → Value.okWide P W .any base t v)
    {Ss : List (V → Prop)} (hlaid : Laid (oldP W) W) (hR : ReadsAll enc P W F.params.toList Ss) (hp : ∀ xs, HoldAll Ss xs → Pure P f xs (· = .bool true)) :
    Calls P f args W fun e W' => ∃ v, e = .returned v ∧ s.post enc P F apart fresh handsOn again W args v W' := by
  have hW' := hW
  obtain ⟨p, q, hA, hV, rfl, hfz, hnd⟩ := hW'
  obtain ⟨xs, h1, h2⟩ := args_of hR hA (base := base) fun j t v a b => hval j t v (by simpa using a) (by simpa using b)
  rw [hvars] at hV
  obtain ⟨rfl, rfl⟩ := trodVars_none hV
  obtain ⟨q1, q2, q3⟩ := hs ds (trodAll_len hA)
  exact change_of_pure K hz hres htb hpar hvars hW (by rwa [List.append_nil]) (by rwa [List.append_nil]) (by rwa [List.append_nil]) h2 hlaid (hp xs h1)
end
end Go.Cod

/-! Contracts: pools begin, take in what is one's own, are lent, are shared. -/
namespace Go.Cod
open Go
variable [Lam]

variable {P : Program} {ok : OkY}

/-- No block is in pools twice. -/
def LabsOk (st : St) : Prop := ∀ (k k' : Nat) (o o' : O) (i i' : Nat) (e e' : List V), st[k]? = some o → st[k']? = some o' → o.kind = .pool → o'.kind = .pool → o.es[i]? = some e → o'.es[i']? = some e' → labOf e = labOf e' → k = k' ∧ i = i'

/-- What is known of blocks at a call. -/
theorem Full.given {f : FuncId} {args : List V} {st0 : St} {R : Out → St → Prop} (hc : Callable P f) (h : LabsOk st0 → Full P ok f args st0 R) : Full P ok f args st0 R :=
  ⟨hc, fun E C Pr γ w cargs a b c => (h c.pools.one).2 E C Pr γ w cargs a b c⟩
theorem Full.givenEnd {f : FuncId} {args : List V} {st0 : St} {R : Out → St → Prop} (h : Full P ok f args st0 R) : Full P ok f args st0 fun o st' => R o st' ∧ LabsOk st' :=
  ⟨h.1, fun E C Pr γ w cargs a b c => (h.2 E C Pr γ w cargs a b c).mono fun _ _ ⟨o, st', γ', Pr', C', h1, h2, h3, h4, h5, h6⟩ => ⟨o, st', γ', Pr', C', h1, ⟨h2, h5.pools.one⟩, h3, h4, h5, h6⟩⟩

omit [Lam] in
theorem ObjOk.anyNames {Pr w o g} {γ γ' : List G} (hb : o.box = false) (h : ObjOk Pr γ w o g) : ObjOk Pr γ' w o g := by
  obtain ⟨cur, fz, h1, h2, h3⟩ := h.row
  refine ⟨h.len, h.wid, h.le, h.max, h.sz, h.lf, ⟨cur, fz, h1, h2, fun i e j x a b => ?_⟩, h.spare, h.excl, h.cl, h.kd⟩
  obtain ⟨u, hu, hr⟩ := h3 i e j x a b
  exact ⟨u, hu, hr.names (n := 0) (fun k hk => absurd hk (Nat.not_lt_zero _)) (V.cleanL_mem (V.cleanLL_mem (h.cl hb) e (List.mem_of_getElem? a)) x (List.mem_of_getElem? b))⟩

/-- A pool begins, without a block. -/
theorem Full.start {f : FuncId} {args : List V} {st0 : St} {R : Out → St → Prop} (h : Full P ok f args (st0 ++ [poolO []]) R) : Full P ok f args st0 R := by
  refine ⟨h.1, fun E C Pr γ w cargs hr hst hext => ?_⟩
  let d : G := ⟨0, 0, 0, 0, 0⟩
  have hγ : γ.length = st0.length := hst.len
  have K : Keep Pr Pr γ (γ ++ [d]) w w := ⟨fun _ _ h => h, fun _ _ _ => rfl, fun k g h => by rw [List.getElem?_append_left (List.getElem?_eq_some_iff.1 h).1]; exact h⟩
  have get : ∀ {j : Nat} {p : O} {q : G}, (st0 ++ [poolO []])[j]? = some p → (γ ++ [d])[j]? = some q → (p = poolO []) ∨ (st0[j]? = some p ∧ γ[j]? = some q) := by
    intro j p q hj hq
    by_cases hlt : j < st0.length
    · rw [List.getElem?_append_left hlt] at hj
      rw [List.getElem?_append_left (by omega)] at hq
      exact .inr ⟨hj, hq⟩
    · have : j = st0.length := by
        have := (List.getElem?_eq_some_iff.1 hj).1
        simp at this; omega
      subst this
      simp at hj
      exact .inl hj.symm
  have get1 : ∀ {j : Nat} {p : O}, (st0 ++ [poolO []])[j]? = some p → (p = poolO []) ∨ st0[j]? = some p := by
    intro j p hj
    by_cases hlt : j < st0.length
    · rw [List.getElem?_append_left hlt] at hj; exact .inr hj
    · have : j = st0.length := by
        have := (List.getElem?_eq_some_iff.1 hj).1
        simp at this; omega
      subst this
      simp at hj
      exact .inl hj.symm
  have hmod : ∀ b, modOf (st0 ++ [poolO []]) (γ ++ [d]) b ↔ modOf st0 γ b := by
    intro b
    constructor
    · rintro ⟨k, o, h1, ⟨g, h2, h3, h4⟩ | ⟨h2, e, h3, h4⟩⟩
      · rcases get h1 h2 with rfl | ⟨a1, a2⟩
        · cases h3
        · exact ⟨k, o, a1, .inl ⟨g, a2, h3, h4⟩⟩
      · rcases get1 h1 with rfl | a1
        · simp [poolO] at h3
        · exact ⟨k, o, a1, .inr ⟨h2, e, h3, h4⟩⟩
    · rintro ⟨k, o, h1, h2⟩
      have hk : k < st0.length := (List.getElem?_eq_some_iff.1 h1).1
      refine ⟨k, o, by rw [List.getElem?_append_left hk]; exact h1, ?_⟩
      rcases h2 with ⟨g, h2, h3⟩ | h2
      · exact .inl ⟨g, K.names k g h2, h3⟩
      · exact .inr h2
  have hmodE : modOf (st0 ++ [poolO []]) (γ ++ [d]) = modOf st0 γ := funext fun b => propext (hmod b)
  have hS : StOk Pr (γ ++ [d]) w (st0 ++ [poolO []]) := by
    refine ⟨by simp [hγ], fun k o g h1 h2 hl => ?_, fun k k' o o' g g' h1 h1' h2 h2' hl hl' he => ?_, hst.low, hst.laid⟩
    · rcases get h1 h2 with rfl | ⟨a1, a2⟩
      · cases hl
      · exact (hst.obj k o g a1 a2 hl).same K rfl fun _ h => h
    · rcases get h1 h2 with rfl | ⟨a1, a2⟩
      · cases hl
      · rcases get h1' h2' with rfl | ⟨b1, b2⟩
        · cases hl'
        · exact hst.one k k' o o' g g' a1 b1 a2 b2 hl hl' he
  have hE : Ext P ok E w (modOf (st0 ++ [poolO []]) (γ ++ [d])) C none Pr (γ ++ [d]) (st0 ++ [poolO []]) [] w := by
    rw [hmodE]
    have D := hext
    refine ⟨D.clow, fun k o g h1 h2 hl => ?_, D.prC, fun k o g h1 h2 hl => ?_, fun k k' o o' g g' h1 h1' h2 h2' hl hl' he => ?_, fun k o g h1 h2 hl => ?_, fun k o g h1 h2 hl => ?_, fun k k' o o' h1 h1' hl hl' => ?_, D.marks, D.round, ?_⟩
    · rcases get h1 h2 with rfl | ⟨a1, a2⟩
      · cases hl
      · exact D.apart k o g a1 a2 hl
    · rcases get h1 h2 with rfl | ⟨a1, a2⟩
      · cases hl
      · exact (D.maps k o g a1 a2 hl).keep K rfl
    · rcases get h1 h2 with rfl | ⟨a1, a2⟩
      · cases hl
      · rcases get h1' h2' with rfl | ⟨b1, b2⟩
        · cases hl'
        · exact D.mone k k' o o' g g' a1 b1 a2 b2 hl hl' he
    · rcases get h1 h2 with rfl | ⟨a1, a2⟩
      · cases hl
      · exact D.mmine k o g a1 a2 hl
    · rcases get h1 h2 with rfl | ⟨a1, a2⟩
      · cases hl
      · exact D.yld k o g a1 a2 hl
    · rcases get1 h1 with rfl | a1
      · cases hl
      · rcases get1 h1' with rfl | b1
        · cases hl'
        · exact D.yone k k' o o' a1 b1 hl hl'
    · have Q := D.pools
      refine ⟨fun k o h1 h2 e he => ?_, fun k o e h1 h2 he => ?_, fun k k' o o' i i' e e' h1 h1' h2 h2' he he' hl => ?_, fun k k' o o' g e h1 h2 he h1' h2' hl hq => ?_, fun k o h1 h2 => ?_⟩
      · rcases get1 h1 with rfl | a1
        · simp [poolO] at he
        · exact Q.ent k o a1 h2 e he
      · rcases get1 h1 with rfl | a1
        · simp [poolO] at he
        · exact Q.free k o e a1 h2 he
      · rcases get1 h1 with rfl | a1
        · simp [poolO] at he
        · rcases get1 h1' with rfl | b1
          · simp [poolO] at he'
          · exact Q.one k k' o o' i i' e e' a1 b1 h2 h2' he he' hl
      · rcases get1 h1 with rfl | a1
        · simp [poolO] at he
        · rcases get h1' h2' with rfl | ⟨b1, b2⟩
          · cases hl
          · exact Q.sep k k' o o' g e a1 h2 he b1 b2 hl hq
      · rcases get1 h1 with rfl | a1
        · rfl
        · exact Q.bx k o a1 h2
  refine (h.2 E C Pr (γ ++ [d]) w cargs (hr.keep K) hS hE).mono fun e w' hh => ?_
  obtain ⟨o, st', γ', Pr', C', h1, h2, h3, h4, h5, B⟩ := hh
  rw [hmodE] at h4 h5 B
  exact ⟨o, st', γ', Pr', C', h1, h2, h3, h4, h5, ⟨B.os, B.tape, B.output, B.size, B.old, B.sub, B.new, fun k g hk => B.names k g (K.names k g hk), B.cell, B.csub, B.cnew⟩⟩

/-- The name k stands for a block. -/
def V.dr (k b n c : Nat) : V → V
  | .own j => match decide (j = k) with
    | true => .dref b n c
    | false => .own j
  | .agg cs => .agg (go k b n c cs)
  | .tup cs => .tup (go k b n c cs)
  | .iface t x => .iface t (V.dr k b n c x)
  | v => v
where
  go (k b n c : Nat) : List V → List V
    | [] => []
    | x :: xs => V.dr k b n c x :: go k b n c xs
omit [Lam] in
theorem drL_eq (k b n c : Nat) (cs : List V) : V.dr.go k b n c cs = cs.map (V.dr k b n c) := by
  induction cs with
  | nil => rfl
  | cons x xs ih => simp [V.dr.go, ih]
omit [Lam] in
theorem Rep.dr {Pr w} {γ : List G} {k : Nat} {g : G} (hg : γ[k]? = some g) {v : V} {u : Value} (h : Rep Pr γ w v u) (hu : (v.dr k g.blk g.len g.cap).under k = true) : Rep Pr (γ.take k) w (v.dr k g.blk g.len g.cap) u := by
  have tk : ∀ {j : Nat} {q : G}, j < k → γ[j]? = some q → (γ.take k)[j]? = some q := fun hj h => by rw [List.getElem?_take, if_pos hj]; exact h
  induction h with
  | bool b => exact .bool b
  | int k n => exact .int k n
  | str s => exact .str s
  | agg hl _ ih =>
    simp only [V.dr, drL_eq, V.under] at hu ⊢
    refine .agg (by simpa using hl) fun i x u a b => ?_
    have hx := under_mem hu x (List.mem_of_getElem? a)
    rw [List.getElem?_map, Option.map_eq_some_iff] at a
    obtain ⟨y, hy, rfl⟩ := a
    exact ih i y u hy b hx
  | tup hl _ ih =>
    simp only [V.dr, drL_eq, V.under] at hu ⊢
    refine .tup (by simpa using hl) fun i x u a b => ?_
    have hx := under_mem hu x (List.mem_of_getElem? a)
    rw [List.getElem?_map, Option.map_eq_some_iff] at a
    obtain ⟨y, hy, rfl⟩ := a
    exact ih i y u hy b hx
  | nils a => exact .nils a
  | sl0 a cap => exact .sl0 a cap
  | sl u hcl hn hc hlf hm hr _ =>
    exact .sl u hcl hn hc hlf hm fun i e j x a b => (hr i e j x a b).names (n := 0) (fun k hk => absurd hk (Nat.not_lt_zero _)) (V.cleanL_mem (V.cleanLL_mem hcl e (List.mem_of_getElem? a)) x (List.mem_of_getElem? b))
  | @own j q h =>
    simp only [V.dr] at hu ⊢
    by_cases e : j = k
    · subst e
      rw [hg] at h; cases h
      simp only [decide_true]
      exact .dref _ _ _
    · rw [decide_eq_false e] at hu ⊢
      simp only [V.under, decide_eq_true_eq] at hu
      exact .own (tk hu h)
  | ptr h => simp only [V.dr, V.under, decide_eq_true_eq] at hu; exact .ptr (tk hu h)
  | map h => simp only [V.dr, V.under, decide_eq_true_eq] at hu; exact .map (tk hu h)
  | yld h => simp only [V.dr, V.under, decide_eq_true_eq] at hu; exact .yld (tk hu h)
  | iface _ ih => simp only [V.dr, V.under] at hu; exact .iface (ih hu)
  | rptr u hlf hm hr ih =>
    simp only [V.dr, V.under] at hu
    refine .rptr u hlf hm fun j x a => ?_
    have hx := under_mem hu x (List.mem_of_getElem? a)
    have := (hr j x a).mapNu (γ' := γ.take k) (f := fun i => i) (n := k) (fun j g h1 h2 => tk h1 h2) (by rw [mapN_id]; exact hx)
    rw [mapN_id] at this; exact this
  | fn hl hr ih =>
    simp only [V.dr, V.under] at hu
    refine .fn hl fun i x u a b => ?_
    have hx := under_mem hu x (List.mem_of_getElem? a)
    have := (hr i x u a b).mapNu (γ' := γ.take k) (f := fun i => i) (n := k) (fun j g h1 h2 => tk h1 h2) (by rw [mapN_id]; exact hx)
    rw [mapN_id] at this; exact this
  | raw v => exact .raw v
  | any h => exact .any h
  | dref b n c => exact .dref b n c
  | dptr b n c d => exact .dptr b n c d
where
  mapN_id : ∀ x : V, x.mapN (fun i => i) = x
    | .own _ | .ptr _ _ _ | .map _ | .yld _ | .bool _ | .int _ _ | .str _ | .nils | .sl _ | .raw _ | .any | .dref _ _ _ | .dptr _ _ _ _ => rfl
    | .iface t x => by simp only [V.mapN]; rw [mapN_id x]
    | .agg cs | .tup cs | .rptr cs | .fn _ cs => by simp only [V.mapN]; rw [mapNL_id cs]
  mapNL_id : ∀ cs : List V, V.mapN.go (fun i => i) cs = cs
    | [] => rfl
    | x :: xs => by simp only [V.mapN.go]; rw [mapN_id x, mapNL_id xs]

end Go.Cod

/-! Contracts: a pool takes in what is one's own. -/
namespace Go.Cod
open Go
variable [Lam]

variable {P : Program} {ok : OkY}

/-- At a call's end: the last object, a slice of one's own, goes into pool m. -/
theorem Full.absorb {f : FuncId} {args : List V} {st0 : St} {R R' : Out → St → Prop} (h : Full P ok f args st0 R)
    (hR : ∀ o st', R o st' → ∃ v pre m es rows wid, o = .ret v ∧ st' = pre ++ [⟨rows, wid, true, true, false, .cell⟩] ∧ pre[m]? = some (poolO es) ∧ st0.length ≤ pre.length ∧ (∀ p ∈ pre, p.box = false) ∧
      ∀ b c, (v.dr pre.length b rows.length c).under pre.length = true ∧ R' (.ret (v.dr pre.length b rows.length c)) (pre.set m (poolO (es ++ [ent b c wid rows])))) : Full P ok f args st0 R' := by
  refine ⟨h.1, fun E C Pr γ w cargs hr hst hext => (h.2 E C Pr γ w cargs hr hst hext).mono fun e w' hh => ?_⟩
  obtain ⟨o, st', γ', Pr', C', h1, h2, S, M, X, B⟩ := hh
  obtain ⟨v, pre, m, es, rows, wid, rfl, rfl, hm, hlen, hbx, hv⟩ := hR o st' h2
  cases h1 with
  | ret h1 =>
  rename_i cv
  have hγl : γ'.length = pre.length + 1 := by simpa using S.len
  have hg : γ'[pre.length]? = some γ'[pre.length] := by simp [hγl]
  generalize hgg : γ'[pre.length] = g at hg
  have hcl : (pre ++ [(⟨rows, wid, true, true, false, .cell⟩ : O)])[pre.length]? = some ⟨rows, wid, true, true, false, .cell⟩ := by simp
  have MO := S.obj _ _ g hcl hg rfl
  have hgl : g.len = rows.length := MO.len
  obtain ⟨hu, hR'⟩ := hv g.blk g.cap
  have hmlt : m < pre.length := (List.getElem?_eq_some_iff.1 hm).1
  have prein : ∀ {j : Nat} {p : O}, pre[j]? = some p → (pre ++ [(⟨rows, wid, true, true, false, .cell⟩ : O)])[j]? = some p := fun {j p} hj => by
    rw [List.getElem?_append_left (List.getElem?_eq_some_iff.1 hj).1]; exact hj
  have tk : ∀ {j : Nat} {q : G}, (γ'.take pre.length)[j]? = some q → γ'[j]? = some q := fun {j q} h => by
    rw [List.getElem?_take] at h; split at h
    · exact h
    · cases h
  have get : ∀ {j : Nat} {p : O}, (pre.set m (poolO (es ++ [ent g.blk g.cap wid rows])))[j]? = some p → (j = m ∧ p = poolO (es ++ [ent g.blk g.cap wid rows])) ∨ (j ≠ m ∧ pre[j]? = some p) := by
    intro j p hj
    rw [List.getElem?_set] at hj
    by_cases e : m = j
    · subst e; simp [hmlt] at hj; exact .inl ⟨rfl, hj.symm⟩
    · rw [if_neg e] at hj; exact .inr ⟨Ne.symm e, hj⟩
  have get' : ∀ {j : Nat} {p : O}, (pre.set m (poolO (es ++ [ent g.blk g.cap wid rows])))[j]? = some p → p.kind ≠ .pool → pre[j]? = some p ∧ (pre ++ [(⟨rows, wid, true, true, false, .cell⟩ : O)])[j]? = some p := by
    intro j p hj hp
    rcases get hj with ⟨_, rfl⟩ | ⟨_, h⟩
    · exact absurd rfl hp
    · exact ⟨h, prein h⟩
  have Q := X.pools
  -- the blocks of pools
  have pget : ∀ {j : Nat} {p : O} {i : Nat} {x : List V}, (pre.set m (poolO (es ++ [ent g.blk g.cap wid rows])))[j]? = some p → p.kind = .pool → p.es[i]? = some x →
      (∃ p0, (pre ++ [(⟨rows, wid, true, true, false, .cell⟩ : O)])[j]? = some p0 ∧ p0.kind = .pool ∧ p0.es[i]? = some x) ∨ (j = m ∧ i = es.length ∧ x = ent g.blk g.cap wid rows) := by
    intro j p i x hj hp hx
    rcases get hj with ⟨rfl, rfl⟩ | ⟨_, h⟩
    · simp only [poolO] at hx
      by_cases hi : i < es.length
      · rw [List.getElem?_append_left hi] at hx
        exact .inl ⟨_, prein hm, rfl, hx⟩
      · have : i = es.length := by
          have := (List.getElem?_eq_some_iff.1 hx).1
          simp at this; omega
        subst this
        simp at hx
        exact .inr ⟨rfl, rfl, hx.symm⟩
    · exact .inl ⟨p, prein h, hp, hx⟩
  have live_old : ∀ {j : Nat} {p : O} {q : G}, pre[j]? = some p → γ'[j]? = some q → p.live = true → q.blk ≠ g.blk := by
    intro j p q a1 a2 a3 he
    have := S.one j pre.length p _ q g (prein a1) hcl a2 hg a3 rfl he
    have := (List.getElem?_eq_some_iff.1 a1).1
    omega
  have live_kind' : ∀ {j : Nat} {p : O}, (pre.set m (poolO (es ++ [ent g.blk g.cap wid rows])))[j]? = some p → p.live = true → p.kind ≠ .pool := by
    intro j p hj hl
    rcases get hj with ⟨_, rfl⟩ | ⟨_, h⟩
    · cases hl
    · rw [live_kind S (prein h) hl]; simp
  have gr : Rep Pr' (γ'.take pre.length) w' (v.dr pre.length g.blk rows.length g.cap) cv := by
    have := h1.dr hg (by rw [hgl]; exact hu)
    rw [hgl] at this; exact this
  refine ⟨_, _, γ'.take pre.length, Pr', C', .ret gr, hR', ⟨by simp [hγl], fun k o q a1 a2 a3 => ?_, fun k k' o o' q q' a1 a1' a2 a2' a3 a3' he => ?_, S.low, S.laid⟩, fun k o q a1 a2 a3 => ?_, ⟨X.clow, fun k o q a1 a2 a3 => ?_, X.prC, fun k o q a1 a2 a3 => ?_, fun k k' o o' q q' a1 a1' a2 a2' a3 a3' he => ?_, fun k o q a1 a2 a3 => ?_, fun k o q a1 a2 a3 => ?_, fun k k' o o' a1 a1' a3 a3' => ?_, X.marks, X.round, ?_⟩,
    ⟨B.os, B.tape, B.output, B.size, B.old, B.sub, B.new, fun k q hk => ?_, B.cell, B.csub, B.cnew⟩⟩
  · obtain ⟨b1, b2⟩ := get' a1 (live_kind' a1 a3)
    exact (S.obj k o q b2 (tk a2) a3).anyNames (hbx o (List.mem_of_getElem? b1))
  · obtain ⟨b1, b2⟩ := get' a1 (live_kind' a1 a3)
    obtain ⟨b1', b2'⟩ := get' a1' (live_kind' a1' a3')
    exact S.one k k' o o' q q' b2 b2' (tk a2) (tk a2') a3 a3' he
  · obtain ⟨b1, b2⟩ := get' a1 (live_kind' a1 a3)
    exact M k o q b2 (tk a2) a3
  · have hnp : o.kind ≠ .pool := by
      rcases own_iff.1 a3 with h | h
      · exact live_kind' a1 h
      · rw [h]; simp
    obtain ⟨b1, b2⟩ := get' a1 hnp
    exact X.apart k o q b2 (tk a2) a3
  · obtain ⟨b1, b2⟩ := get' a1 (by rw [a3]; simp)
    exact ((X.maps k o q b2 (tk a2) a3).mapO (f := fun i => i)).2
  · obtain ⟨b1, b2⟩ := get' a1 (by rw [a3]; simp)
    obtain ⟨b1', b2'⟩ := get' a1' (by rw [a3']; simp)
    exact X.mone k k' o o' q q' b2 b2' (tk a2) (tk a2') a3 a3' he
  · obtain ⟨b1, b2⟩ := get' a1 (by rw [a3]; simp)
    exact X.mmine k o q b2 (tk a2) a3
  · obtain ⟨b1, b2⟩ := get' a1 (by rw [a3]; simp)
    exact X.yld k o q b2 (tk a2) a3
  · obtain ⟨b1, b2⟩ := get' a1 (by rw [a3]; simp)
    obtain ⟨b1', b2'⟩ := get' a1' (by rw [a3']; simp)
    exact X.yone k k' o o' b2 b2' a3 a3'
  · have newEnt : EntOk Pr' w' (ent g.blk g.cap wid rows) := by
      refine ⟨g.blk, g.cap, wid, rows, g.ty, rfl, ?_⟩
      have e : (⟨g.blk, rows.length, g.cap, wid, g.ty⟩ : G) = g := by
        have h1 := MO.len
        have h2 := MO.wid
        simp only at h1 h2
        rw [← h1, ← h2]
      rw [e]
      exact MO.anyNames rfl
    refine ⟨fun k o a1 a2 x hx => ?_, fun k o x a1 a2 hx => ?_, fun k k' o o' i i' x x' a1 a1' a2 a2' hx hx' hl => ?_, fun k k' o o' q x a1 a2 hx a1' a2' hl hq => ?_, fun k o a1 a2 => ?_⟩
    · obtain ⟨i, hi⟩ := List.getElem?_of_mem hx
      rcases pget a1 a2 hi with ⟨p0, b1, b2, b3⟩ | ⟨_, _, rfl⟩
      · exact Q.ent k p0 b1 b2 x (List.mem_of_getElem? b3)
      · exact newEnt
    · obtain ⟨i, hi⟩ := List.getElem?_of_mem hx
      rcases pget a1 a2 hi with ⟨p0, b1, b2, b3⟩ | ⟨_, _, rfl⟩
      · exact Q.free k p0 x b1 b2 (List.mem_of_getElem? b3)
      · exact ⟨X.apart _ _ g hcl hg (own_iff.2 (.inl rfl)), M _ _ g hcl hg rfl⟩
    · rcases pget a1 a2 hx with ⟨p0, b1, b2, b3⟩ | ⟨e1, e2, rfl⟩ <;> rcases pget a1' a2' hx' with ⟨p0', c1, c2, c3⟩ | ⟨e1', e2', rfl⟩
      · exact Q.one k k' p0 p0' i i' x x' b1 c1 b2 c2 b3 c3 hl
      · exact absurd hl.symm (Q.sep k pre.length p0 _ g x b1 b2 (List.mem_of_getElem? b3) hcl hg rfl)
      · exact absurd hl (Q.sep k' pre.length p0' _ g x' c1 c2 (List.mem_of_getElem? c3) hcl hg rfl)
      · exact ⟨e1.trans e1'.symm, e2.trans e2'.symm⟩
    · obtain ⟨b1, b2⟩ := get' a1' (live_kind' a1' hl)
      obtain ⟨i, hi⟩ := List.getElem?_of_mem hx
      rcases pget a1 a2 hi with ⟨p0, c1, c2, c3⟩ | ⟨_, _, rfl⟩
      · exact Q.sep k k' p0 o' q x c1 c2 (List.mem_of_getElem? c3) b2 (tk a2') hl hq
      · exact live_old b1 (tk a2') hl hq
    · rcases get a1 with ⟨_, rfl⟩ | ⟨_, b⟩
      · rfl
      · exact Q.bx k o (prein b) a2
  · have hk' : k < γ.length := (List.getElem?_eq_some_iff.1 hk).1
    rw [hst.len] at hk'
    rw [List.getElem?_take, if_pos (by omega)]
    exact B.names k q hk

/-- At a call's end: the pool's blocks are shared for good. -/
theorem Full.freeze {f : FuncId} {args : List V} {R : Out → St → Prop} {R' : V → Prop} (h : Full P noY f args [] R)
    (hR : ∀ o st', R o st' → ∃ v es v', o = .ret v ∧ st' = [poolO es] ∧ View es v v' ∧ v.clean 0 = true ∧ R' v') : Pure P f args R' := by
  refine ⟨h.1, fun E C Pr γ w cargs hr hst hext => (h.2 E C Pr γ w cargs hr hst hext).mono fun e w' hh => ?_⟩
  obtain ⟨o, st', γ', Pr', C', h1, h2, S, M, X, B⟩ := hh
  obtain ⟨v, es, v', rfl, rfl, hv, hcl, hR'⟩ := hR o st' h2
  cases h1 with
  | ret h1 =>
  have hγ0 : γ = [] := by have := hst.len; simpa using this
  subst hγ0
  have nomod : ∀ b, ¬ modOf [] [] b := fun b ⟨k, o, h1, _⟩ => by simp at h1
  have Q := X.pools
  let Pr2 : Nat → Nat → Prop := fun b n => Pr' b n ∨ ∃ e ∈ es, labOf e = b
  have hlab : ∀ {e : List V}, e ∈ es → Lab [poolO es] (labOf e) := fun h => ⟨0, poolO es, _, rfl, rfl, h, rfl⟩
  have rv : Rep Pr2 [] w' v' _ := hv.rep (fun e he => Q.ent 0 (poolO es) rfl rfl e he) (fun _ _ h => .inl h) (fun e he n => .inr ⟨e, he, rfl⟩) _ (h1.names (n := 0) (fun k hk => absurd hk (Nat.not_lt_zero _)) hcl)
  refine ⟨_, [], [], Pr2, C', .ret rv, ⟨rfl, v', rfl, hR'⟩, ⟨rfl, fun k o g h => by simp at h, fun k k' o o' g g' h => by simp at h, fun b n hb => ?_, S.laid.keep (γ := []) (γ' := []) ⟨fun _ _ h => .inl h, fun _ _ _ => rfl, fun _ _ h => h⟩⟩, fun k o g h => by simp at h, ⟨X.clow, fun k o g h => by simp at h, fun b n hb => ?_, fun k o g h => by simp at h, fun k k' o o' g g' h => by simp at h, fun k o g h => by simp at h, fun k o g h => by simp at h, fun k k' o o' h => by simp at h, X.marks, X.round, Pools.none fun k o h => by simp at h⟩,
    ⟨B.os, B.tape, B.output, B.size, B.old, fun b n hb => .inl (B.sub b n hb), fun b n hb => ?_, fun k g h => by simp at h, B.cell, B.csub, B.cnew⟩⟩
  · rcases hb with hb | ⟨e, he, rfl⟩
    · exact S.low b n hb
    · exact Q.lt (hlab he)
  · rcases hb with hb | ⟨e, he, rfl⟩
    · exact X.prC b n hb
    · exact .inr (Q.at (hlab he)).1
  · rcases hb with hb | ⟨e, he, rfl⟩
    · exact B.new b n hb
    · rcases (Q.at (hlab he)).2 with h | h
      · exact .inr (.inl h)
      · exact absurd h (nomod _)

/-- An object that leans on no protected cell. -/
def FlatO (o : O) : Prop := o.box = false ∧ ((o.live = true ∧ ∀ e ∈ o.es, ∀ x ∈ e, x.flat = true) ∨ (o.live = false ∧ o.kind = .pool ∧ ∀ e ∈ o.es, ∀ r ∈ rowsOf e, ∀ x ∈ r, x.flat = true))

end Go.Cod

/-! Contracts: pools are lent for a call. -/
namespace Go.Cod
open Go
variable [Lam]

variable {P : Program} {ok : OkY}

omit [Lam] in
theorem ObjOk.unlend {Pr Pr' w o g} {γ γ' : List G} (hb : o.box = false) (hf : ∀ e ∈ o.es, ∀ x ∈ e, x.flat = true) (hs : ∀ b n, Pr' b n → Pr b n) (h : ObjOk Pr γ w o g) : ObjOk Pr' γ' w o g := by
  obtain ⟨cur, fz, h1, h2, h3⟩ := h.row
  refine ⟨h.len, h.wid, h.le, h.max, h.sz, h.lf, ⟨cur, fz, h1, h2, fun i e j x a b => ?_⟩, fun n hn hp => h.spare n hn (hs _ _ hp), fun he n hp => h.excl he n (hs _ _ hp), h.cl, h.kd⟩
  obtain ⟨u, hu, hr⟩ := h3 i e j x a b
  exact ⟨u, hu, ((hr.flat (Pr' := Pr') (w' := w) (hf e (List.mem_of_getElem? a) x (List.mem_of_getElem? b)))).names (n := 0) (fun k hk => absurd hk (Nat.not_lt_zero _)) (V.cleanL_mem (V.cleanLL_mem (h.cl hb) e (List.mem_of_getElem? a)) x (List.mem_of_getElem? b))⟩
omit [Lam] in
theorem EntOk.unlend {Pr Pr' w e} (hf : ∀ r ∈ rowsOf e, ∀ x ∈ r, x.flat = true) (hs : ∀ b n, Pr' b n → Pr b n) (h : EntOk Pr w e) : EntOk Pr' w e := by
  obtain ⟨b, cap, sz, rows, ty, rfl, hO⟩ := h
  exact ⟨b, cap, sz, rows, ty, rfl, hO.unlend rfl hf hs⟩

theorem Full.lent {f : FuncId} {ps : List (List (List V))} {vs vs' : List V} {R : Out → St → Prop} (h : Full P noY f vs' [] R) (hv : ViewL ps.flatten vs vs') (hcl : V.clean.cleanL 0 vs = true)
    (hfl : ∀ o st1, R o st1 → ∃ v, o = .ret v ∧ v.flat = true ∧ ∀ p ∈ st1, FlatO p) :
    Full P ok f vs (ps.map poolO) fun o st' => ∃ v st1, R (.ret v) st1 ∧ o = .ret (v.mapN (· + ps.length)) ∧ st' = ps.map poolO ++ st1 := by
  refine ⟨h.1, fun E C Pr γ w cargs hr hst hext => ?_⟩
  have Q := hext.pools
  have hγ : γ.length = ps.length := by have := hst.len; simpa using this
  have hps : ∀ e ∈ ps.flatten, ∃ (k : Nat) (es : List (List V)), (ps.map poolO)[k]? = some (poolO es) ∧ e ∈ es := by
    intro e he
    obtain ⟨es, h1, h2⟩ := List.mem_flatten.1 he
    obtain ⟨k, hk⟩ := List.getElem?_of_mem h1
    exact ⟨k, es, by rw [List.getElem?_map, hk]; rfl, h2⟩
  have hes : ∀ e ∈ ps.flatten, EntOk Pr w e := fun e he => by
    obtain ⟨k, es, h1, h2⟩ := hps e he
    exact Q.ent k _ h1 rfl e h2
  let Pr2 : Nat → Nat → Prop := fun b n => Pr b n ∨ ∃ e ∈ ps.flatten, labOf e = b
  have hr0 : RepL Pr [] w vs cargs := hr.names (n := 0) (fun k hk => absurd hk (Nat.not_lt_zero _)) hcl
  have hr2 : RepL Pr2 [] w vs' cargs := ⟨hv.1.symm.trans hr0.1, fun i y u p q => by
    have hi : i < vs.length := by rw [hv.1]; exact (List.getElem?_eq_some_iff.1 p).1
    exact (hv.2 i _ y (List.getElem?_eq_getElem hi) p).rep hes (fun _ _ h => .inl h) (fun e he n => .inr ⟨e, he, rfl⟩) u (hr0.2 i _ u (List.getElem?_eq_getElem hi) q)⟩
  have hlow : ∀ b n, Pr2 b n → b < w.heap.size := by
    rintro b n (h | ⟨e, h, rfl⟩)
    · exact hst.low b n h
    · obtain ⟨cur, ty, f, h1⟩ := (hes e h).lab.1
      exact (Array.getElem?_eq_some_iff.1 h1).1
  have hS : StOk Pr2 [] w [] := ⟨rfl, fun k o g h => by simp at h, fun k k' o o' g g' h => by simp at h, hlow, hst.laid.keep (γ := []) (γ' := []) ⟨fun _ _ h => .inl h, fun _ _ _ => rfl, fun _ _ h => h⟩⟩
  refine (h.2 (Env.none P noY) (fun _ => False) Pr2 [] w cargs hr2 hS (Ext.nil _ _ _ _)).mono fun e w' hh => ?_
  obtain ⟨o, st1, γ1, Pr1, C1, h1, h2, S1, M1, X1, B1⟩ := hh
  obtain ⟨v, rfl, hvf, hO⟩ := hfl o st1 h2
  cases h1 with
  | ret h1 =>
  rename_i cv
  have nomod : ∀ b, ¬ modOf [] [] b := fun b ⟨k, o, h1, _⟩ => by simp at h1
  have hold : ∀ b, b < w.heap.size → w'.heap[b]? = w.heap[b]? := fun b hb => B1.old b hb (nomod b) (fun h => h)
  have hs1 : ∀ b n, Pr b n → Pr1 b n := fun b n h => B1.sub b n (.inl h)
  have hcell : ∀ b n, Pr b n → w'.cell? ⟨b, n, none⟩ = w.cell? ⟨b, n, none⟩ := fun b n h => cell_of_block (hold b (hst.low b n h)) n
  have Q1 := X1.pools
  have get : ∀ {j : Nat} {p : O}, (ps.map poolO ++ st1)[j]? = some p → (j < ps.length ∧ (ps.map poolO)[j]? = some p ∧ p.kind = .pool ∧ p.live = false) ∨ (ps.length ≤ j ∧ st1[j - ps.length]? = some p) := by
    intro j p hj
    by_cases hlt : j < ps.length
    · rw [List.getElem?_append_left (by simpa using hlt)] at hj
      refine .inl ⟨hlt, hj, ?_⟩
      rw [List.getElem?_map, Option.map_eq_some_iff] at hj
      obtain ⟨es, _, rfl⟩ := hj
      exact ⟨rfl, rfl⟩
    · rw [List.getElem?_append_right (by simpa using Nat.le_of_not_lt hlt)] at hj
      exact .inr ⟨by omega, by simpa using hj⟩
  have getg : ∀ {j : Nat} {q : G}, ps.length ≤ j → (γ ++ γ1)[j]? = some q → γ1[j - ps.length]? = some q := by
    intro j q hj hq
    rw [List.getElem?_append_right (by omega), hγ] at hq
    exact hq
  have own1 : ∀ {j : Nat} {p : O}, (ps.map poolO ++ st1)[j]? = some p → p.own = true → ps.length ≤ j ∧ st1[j - ps.length]? = some p ∧ p.live = true ∧ p.kind = .cell ∧ p.box = false ∧ ∀ e ∈ p.es, ∀ x ∈ e, x.flat = true := by
    intro j p hj ho
    rcases get hj with ⟨_, _, a3, a4⟩ | ⟨a1, a2⟩
    · rcases own_iff.1 ho with h | h
      · rw [a4] at h; cases h
      · rw [a3] at h; cases h
    · obtain ⟨b1, ⟨b2, b3⟩ | ⟨b2, b3, _⟩⟩ := hO p (List.mem_of_getElem? a2)
      · exact ⟨a1, a2, b2, live_kind S1 a2 b2, b1, b3⟩
      · rcases own_iff.1 ho with h | h
        · rw [b2] at h; cases h
        · rw [b3] at h; cases h
  have kinds : ∀ {j : Nat} {p : O}, (ps.map poolO ++ st1)[j]? = some p → p.kind = .cell ∨ p.kind = .pool := by
    intro j p hj
    rcases get hj with ⟨_, _, a3, a4⟩ | ⟨a1, a2⟩
    · exact .inr a3
    · obtain ⟨b1, ⟨b2, b3⟩ | ⟨b2, b3, _⟩⟩ := hO p (List.mem_of_getElem? a2)
      · exact .inl (live_kind S1 a2 b2)
      · exact .inr b3
  have new1 : ∀ {j : Nat} {p : O} {x : List V}, st1[j]? = some p → p.kind = .pool → x ∈ p.es → w.heap.size ≤ labOf x := fun a1 a2 a3 => by
    rcases (Q1.free _ _ _ a1 a2 a3).2 with h | h
    · exact h
    · exact absurd h (nomod _)
  have mine1 : ∀ {j : Nat} {p : O} {q : G}, st1[j]? = some p → γ1[j]? = some q → p.live = true → w.heap.size ≤ q.blk := fun a1 a2 a3 => by
    rcases M1 _ _ _ a1 a2 a3 with h | h
    · exact h
    · exact absurd h (nomod _)
  have fin : RepO Pr (γ ++ γ1) w' (.ret (v.mapN (· + ps.length))) (.returned cv) := .ret (((h1.flat (Pr' := Pr) (w' := w') hvf)).mapN (f := (· + ps.length)) fun k g hk => by
    rw [List.getElem?_append_right (by omega), hγ, show k + ps.length - ps.length = k by omega]; exact hk)
  refine ⟨_, ps.map poolO ++ st1, γ ++ γ1, Pr, C, fin, ⟨v, st1, h2, rfl, rfl⟩, ⟨by simp [hγ, S1.len], fun j p q a1 a2 a3 => ?_, fun j j' p p' q q' a1 a1' a2 a2' a3 a3' he => ?_, fun b n hb => Nat.lt_of_lt_of_le (hst.low b n hb) B1.size, hst.laid.keep (γ := []) (γ' := []) ⟨fun _ _ h => h, hcell, fun _ _ h => h⟩⟩, fun j p q a1 a2 a3 => ?_,
    ⟨fun b hb => Nat.lt_of_lt_of_le (hext.clow b hb) B1.size, fun j p q a1 a2 a3 hc => ?_, hext.prC, fun j p q a1 a2 a3 => ?_, fun j j' p p' q q' a1 a1' a2 a2' a3 a3' he => ?_, fun j p q a1 a2 a3 => ?_, fun j p q a1 a2 a3 => ?_, fun j j' p p' a1 a1' a3 a3' => ?_, ⟨[], rfl, by simp, by simp⟩, fun l hl => (by cases hl), ?_⟩,
    ⟨B1.os, B1.tape, B1.output, B1.size, fun b h1 h2 h3 => hold b h1, fun _ _ h => h, fun _ _ h => .inl h, fun k g hk => by rw [List.getElem?_append_left (List.getElem?_eq_some_iff.1 hk).1]; exact hk, hcell, fun _ h => h, fun _ h => .inl h⟩⟩
  · obtain ⟨b1, b2, b3, b4, b5, b6⟩ := own1 a1 (own_iff.2 (.inl a3))
    exact (S1.obj _ p q b2 (getg b1 a2) a3).unlend b5 b6 hs1
  · obtain ⟨b1, b2, _⟩ := own1 a1 (own_iff.2 (.inl a3))
    obtain ⟨b1', b2', _⟩ := own1 a1' (own_iff.2 (.inl a3'))
    have := S1.one _ _ p p' q q' b2 b2' (getg b1 a2) (getg b1' a2') a3 a3' he
    omega
  · obtain ⟨b1, b2, _⟩ := own1 a1 (own_iff.2 (.inl a3))
    exact .inl (mine1 b2 (getg b1 a2) a3)
  · obtain ⟨b1, b2, b3, _⟩ := own1 a1 a3
    have := mine1 b2 (getg b1 a2) b3
    have := hext.clow _ hc
    omega
  · rcases kinds a1 with h | h <;> rw [a3] at h <;> cases h
  · rcases kinds a1 with h | h <;> rw [a3] at h <;> cases h
  · rcases kinds a1 with h | h <;> rw [a3] at h <;> cases h
  · rcases kinds a1 with h | h <;> rw [a3] at h <;> cases h
  · rcases kinds a1 with h | h <;> rw [a3] at h <;> cases h
  · have oldl : ∀ {j : Nat} {p : O} {x : List V}, (ps.map poolO)[j]? = some p → p.kind = .pool → x ∈ p.es → labOf x < w.heap.size := fun a1 a2 a3 => Q.lt ⟨_, _, _, a1, a2, a3, rfl⟩
    have flat1 : ∀ {j : Nat} {p : O}, st1[j]? = some p → p.kind = .pool → p.box = false ∧ ∀ e ∈ p.es, ∀ r ∈ rowsOf e, ∀ x ∈ r, x.flat = true := by
      intro j p a1 a2
      obtain ⟨b1, ⟨b2, b3⟩ | ⟨b2, b3, b4⟩⟩ := hO p (List.mem_of_getElem? a1)
      · have := live_kind S1 a1 b2; rw [a2] at this; cases this
      · exact ⟨b1, b4⟩
    refine ⟨fun j p a1 a2 x hx => ?_, fun j p x a1 a2 hx => ?_, fun j j' p p' i i' x x' a1 a1' a2 a2' hx hx' hl => ?_, fun j j' p p' q x a1 a2 hx a1' a2' hl hq => ?_, fun j p a1 a2 => ?_⟩
    · rcases get a1 with ⟨_, b2, _⟩ | ⟨b1, b2⟩
      · have hE := Q.ent j p b2 a2 x hx
        exact hE.move (hold _ (oldl b2 a2 hx)) (fun _ _ h => h) hcell hE.lab.2
      · exact (Q1.ent _ p b2 a2 x hx).unlend ((flat1 b2 a2).2 x hx) hs1
    · rcases get a1 with ⟨_, b2, _⟩ | ⟨b1, b2⟩
      · exact Q.free j p x b2 a2 hx
      · have := new1 b2 a2 hx
        exact ⟨fun hc => by have := hext.clow _ hc; omega, .inl this⟩
    · rcases get a1 with ⟨_, b2, _⟩ | ⟨b1, b2⟩ <;> rcases get a1' with ⟨_, c2, _⟩ | ⟨c1, c2⟩
      · exact Q.one j j' p p' i i' x x' b2 c2 a2 a2' hx hx' hl
      · have := oldl b2 a2 (List.mem_of_getElem? hx); have := new1 c2 a2' (List.mem_of_getElem? hx'); omega
      · have := oldl c2 a2' (List.mem_of_getElem? hx'); have := new1 b2 a2 (List.mem_of_getElem? hx); omega
      · obtain ⟨d1, d2⟩ := Q1.one _ _ p p' i i' x x' b2 c2 a2 a2' hx hx' hl
        exact ⟨by omega, d2⟩
    · obtain ⟨d1, d2, _⟩ := own1 a1' (own_iff.2 (.inl hl))
      rcases get a1 with ⟨_, b2, _⟩ | ⟨b1, b2⟩
      · have := oldl b2 a2 hx
        have := mine1 d2 (getg d1 a2') hl
        omega
      · exact Q1.sep _ _ p p' q x b2 a2 hx d2 (getg d1 a2') hl hq
    · rcases get a1 with ⟨_, b2, _⟩ | ⟨b1, b2⟩
      · exact Q.bx j p b2 a2
      · exact (flat1 b2 a2).1

end Go.Cod

/-! Contracts: a pool's blocks that are no longer looked at. -/
namespace Go.Cod
open Go
variable [Lam]

variable {P : Program} {ok : OkY}

theorem Full.shrink {f : FuncId} {args : List V} {st0 : St} {R R' : Out → St → Prop} (h : Full P ok f args st0 R)
    (hR : ∀ o st', R o st' → ∃ es es2, st' = [poolO es] ∧ (∀ e ∈ es2, e ∈ es) ∧ (es2.map labOf).Nodup ∧ R' o [poolO es2]) : Full P ok f args st0 R' := by
  refine ⟨h.1, fun E C Pr γ w cargs hr hst hext => (h.2 E C Pr γ w cargs hr hst hext).mono fun e w' hh => ?_⟩
  obtain ⟨o, st', γ', Pr', C', h1, h2, S, M, X, B⟩ := hh
  obtain ⟨es, es2, rfl, hm, hn, hR'⟩ := hR o st' h2
  have get : ∀ {k : Nat} {o : O}, [poolO es2][k]? = some o → k = 0 ∧ o = poolO es2 := by
    intro k o hk
    match k, hk with
    | 0, hk => simp at hk; exact ⟨rfl, hk.symm⟩
  have Q := X.pools
  refine ⟨o, [poolO es2], γ', Pr', C', h1, hR', ⟨S.len, fun k o g a1 a2 a3 => ?_, fun k k' o o' g g' a1 _ _ _ a3 => ?_, S.low, S.laid⟩, fun k o g a1 a2 a3 => ?_, ⟨X.clow, fun k o g a1 a2 a3 => ?_, X.prC, fun k o g a1 a2 a3 => ?_, fun k k' o o' g g' a1 _ _ _ a3 => ?_, fun k o g a1 a2 a3 => ?_, fun k o g a1 a2 a3 => ?_, fun k k' o o' a1 _ a3 => ?_, X.marks, X.round, ?_⟩, B⟩
  · obtain ⟨rfl, rfl⟩ := get a1; cases a3
  · obtain ⟨rfl, rfl⟩ := get a1; cases a3
  · obtain ⟨rfl, rfl⟩ := get a1; cases a3
  · obtain ⟨rfl, rfl⟩ := get a1; cases a3
  · obtain ⟨rfl, rfl⟩ := get a1; cases a3
  · obtain ⟨rfl, rfl⟩ := get a1; cases a3
  · obtain ⟨rfl, rfl⟩ := get a1; cases a3
  · obtain ⟨rfl, rfl⟩ := get a1; cases a3
  · obtain ⟨rfl, rfl⟩ := get a1; cases a3
  · refine ⟨fun k o a1 a2 e he => ?_, fun k o e a1 a2 he => ?_, fun k k' o o' i i' e e' a1 a1' a2 a2' hi hi' hl => ?_, fun k k' o o' g e a1 a2 he a1' _ hl => ?_, fun k o a1 a2 => ?_⟩
    · obtain ⟨rfl, rfl⟩ := get a1; exact Q.ent 0 _ rfl rfl e (hm e he)
    · obtain ⟨rfl, rfl⟩ := get a1; exact Q.free 0 _ e rfl rfl (hm e he)
    · obtain ⟨rfl, rfl⟩ := get a1
      obtain ⟨rfl, rfl⟩ := get a1'
      refine ⟨rfl, ?_⟩
      simp only [poolO] at hi hi'
      have hi1 : (es2.map labOf)[i]? = some (labOf e) := by rw [List.getElem?_map, hi]; rfl
      have hi2 : (es2.map labOf)[i']? = some (labOf e) := by rw [List.getElem?_map, hi', hl]; rfl
      exact (List.getElem?_inj (by simpa using (List.getElem?_eq_some_iff.1 hi).1) hn).1 (hi1.trans hi2.symm)
    · obtain ⟨rfl, rfl⟩ := get a1'; cases hl
    · obtain ⟨rfl, rfl⟩ := get a1; rfl
end Go.Cod

