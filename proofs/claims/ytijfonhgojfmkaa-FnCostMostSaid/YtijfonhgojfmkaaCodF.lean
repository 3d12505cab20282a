/- Own texts. -/
import Derived.WalkKit
import Derived.ProofKit
import Derived.Test.YtijfonhgojfmkaaCodE
namespace Go.Cod
open Go Go.Proofs Go.ChangeShapes Go.WideShapes Go.ChangeAt Go.RowKit
set_option maxRecDepth 10000

theorem ownK : ownKnob Try.prog.godebug = none := by kernel_rfl
def byteOf : List V → UInt8
  | [.int _ i] => UInt8.ofNat i.toNat
  | _ => 0
theorem argBytes {H : Type} {enc : TypeId × Value → H} {W : World} : ReadsA enc Try.prog W 22 fun x => ∃ bs : List UInt8, x = .sl (brows bs) := by
  intro base v d p hv h
  obtain ⟨x, ⟨es, hx, _, hr⟩, hrep⟩ := readsA_slice (S := fun vs => ∃ es, vs = [.sl es] ∧ es.length ≤ maxLen ∧ ∀ r ∈ es, (∃ i, r = [.int .u8 i] ∧ IntKind.u8.min ≤ i ∧ i ≤ IntKind.u8.max) ∧ r.length = Try.prog.cellsOf 5 ∧ (∀ v ∈ r, v.leaf = true) ∧ V.clean.cleanL 0 r = true)
    Try.underlying22 (fun n => reads_slice Try.underlying22 (by decide +kernel) fun m _ => reads_int Try.underlying5) base v d p hv h
  cases hx
  refine ⟨_, ⟨es.map byteOf, ?_⟩, hrep⟩
  congr 1
  rw [brows, List.map_map]
  refine (List.map_id es).symm.trans (List.map_congr_left fun r hr' => ?_)
  obtain ⟨⟨i, rfl, h1, h2⟩, _⟩ := hr r hr'
  have h1 : 0 ≤ i := h1
  have h2 : i ≤ 255 := h2
  simp only [id_eq, Function.comp, byteOf, cellB]
  congr 2
  simp only [UInt8.toNat_ofNat']
  omega
end Go.Cod

namespace Go.Cod
open Go Go.Proofs
set_option linter.all false
variable [Lam]

/-- What a function leaves as its own is shared for good. -/
theorem Full.own_pure {P : Program} {f : FuncId} {args : List V} {rows : List (List V)} {w : Nat} (h : Full P noY f args [] fun o st' => o = .ret (.own 0) ∧ st' = [⟨rows, w, true, true, false, .cell⟩])
    (hcl : V.clean.cleanLL 0 rows = true) (hlf : ∀ e ∈ rows, ∀ x ∈ e, x.leaf = true) (hfl : ∀ e ∈ rows, ∀ x ∈ e, x.flat = true) (ha : V.clean.cleanL 0 args = true) : Pure P f args (· = .sl rows) := by
  have h1 := Full.lent (ok := noY) (ps := [[]]) (vs := args) h ⟨rfl, fun i x y p q => by rw [p] at q; cases q; exact .same _⟩ ha (by
    rintro o st1 ⟨rfl, rfl⟩
    exact ⟨_, rfl, rfl, fun p hp => by rw [List.mem_singleton.1 hp]; exact ⟨rfl, .inl ⟨rfl, hfl⟩⟩⟩)
  have h2 := Full.absorb (R' := fun o st' => ∃ b c, o = .ret (.dref b rows.length c) ∧ st' = [poolO [ent b c w rows]]) h1 (by
    rintro o st' ⟨v, st1, ⟨hv, rfl⟩, rfl, rfl⟩
    cases hv
    exact ⟨.own 1, [poolO []], 0, [], rows, w, rfl, rfl, rfl, Nat.le_refl _, by simp [poolO], fun b c => ⟨rfl, b, c, rfl, rfl⟩⟩)
  refine Full.freeze (Full.start (st0 := []) h2) ?_
  rintro o st' ⟨b, c, rfl, rfl⟩
  refine ⟨_, _, .sl rows, rfl, rfl, ?_, rfl, rfl⟩
  refine .dref (sz := w) (rows := rows) (by simp) rfl rfl hcl hlf (fun i r r' p q => ?_) (fun i r r' j x y p q u v => ?_)
  · rw [p] at q; cases q; rfl
  · rw [p] at q; cases q; rw [u] at v; cases v; exact .same _
end Go.Cod

namespace Go.Cod
set_option linter.all false

/-! The least cost to make one forest another, by places: p and q tell where what is in a thing begins, u what it costs that one becomes the other. -/
def dist (p q : Nat → Nat) (u : Nat → Nat → Nat) (l1 h1 l2 h2 : Nat) : Nat :=
  if h1 ≤ l1 then h2 - l2 else if h2 ≤ l2 then h1 - l1 else
    min (min (dist p q u l1 (h1 - 1) l2 h2 + 1) (dist p q u l1 h1 l2 (h2 - 1) + 1))
      (dist p q u l1 (max l1 (min (p (h1 - 1)) (h1 - 1))) l2 (max l2 (min (q (h2 - 1)) (h2 - 1))) + dist p q u (max l1 (min (p (h1 - 1)) (h1 - 1))) (h1 - 1) (max l2 (min (q (h2 - 1)) (h2 - 1))) (h2 - 1) + u (h1 - 1) (h2 - 1))
termination_by (h1 - l1) + (h2 - l2)
decreasing_by all_goals omega

def Closed (p : Nat → Nat) (l h : Nat) : Prop := ∀ x, l ≤ x → x < h → l ≤ p x
structure Lamin (p : Nat → Nat) (n : Nat) : Prop where
  le : ∀ x, x < n → p x ≤ x
  nest : ∀ x y, x < y → y < n → x < p y ∨ p y ≤ p x
theorem Closed.le {p l h h'} (H : Closed p l h) (hh : h' ≤ h) : Closed p l h' := fun x a b => H x a (by omega)
theorem Closed.from {p l h m} (H : Closed p m h) (hh : l ≤ m) : ∀ x, m ≤ x → x < h → l ≤ p x := fun x a b => Nat.le_trans hh (H x a b)
theorem Lamin.closed {p n} (H : Lamin p n) {a : Nat} (ha : a < n) : Closed p (p a) (a + 1) := fun x h1 h2 => by
  rcases Nat.lt_or_ge x a with h | h
  · rcases H.nest x a h ha with h3 | h3
    · omega
    · exact h3
  · have : x = a := by omega
    subst this; exact Nat.le_refl _

variable {p q : Nat → Nat} {u : Nat → Nat → Nat}
theorem dist_l {l1 h1 l2 h2 : Nat} (h : h1 ≤ l1) : dist p q u l1 h1 l2 h2 = h2 - l2 := by
  rw [dist, if_pos h]
theorem dist_r {l1 h1 l2 h2 : Nat} (h : h2 ≤ l2) : dist p q u l1 h1 l2 h2 = h1 - l1 := by
  rw [dist]
  by_cases h' : h1 ≤ l1
  · rw [if_pos h']; omega
  · rw [if_neg h', if_pos h]
theorem dist_succ {l1 a l2 b : Nat} (h1 : l1 ≤ a) (h2 : l2 ≤ b) : dist p q u l1 (a + 1) l2 (b + 1) =
    min (min (dist p q u l1 a l2 (b + 1) + 1) (dist p q u l1 (a + 1) l2 b + 1))
      (dist p q u l1 (max l1 (min (p a) a)) l2 (max l2 (min (q b) b)) + dist p q u (max l1 (min (p a) a)) a (max l2 (min (q b) b)) b + u a b) := by
  rw [dist, if_neg (by omega), if_neg (by omega)]
  simp only [Nat.add_sub_cancel]
theorem dist_step {l1 a l2 b : Nat} (h1 : l1 ≤ p a) (h1' : p a ≤ a) (h2 : l2 ≤ q b) (h2' : q b ≤ b) : dist p q u l1 (a + 1) l2 (b + 1) =
    min (min (dist p q u l1 a l2 (b + 1) + 1) (dist p q u l1 (a + 1) l2 b + 1)) (dist p q u l1 (p a) l2 (q b) + dist p q u (p a) a (q b) b + u a b) := by
  rw [dist_succ (by omega) (by omega), show max l1 (min (p a) a) = p a by omega, show max l2 (min (q b) b) = q b by omega]
theorem dist_del {l1 a l2 h2 : Nat} (h : l1 ≤ a) : dist p q u l1 (a + 1) l2 h2 ≤ dist p q u l1 a l2 h2 + 1 := by
  by_cases h' : h2 ≤ l2
  · rw [dist_r h', dist_r h']; omega
  · obtain ⟨b, rfl⟩ : ∃ b, h2 = b + 1 := ⟨h2 - 1, by omega⟩
    rw [dist_succ h (by omega)]; omega
theorem dist_ins {l1 h1 l2 b : Nat} (h : l2 ≤ b) : dist p q u l1 h1 l2 (b + 1) ≤ dist p q u l1 h1 l2 b + 1 := by
  by_cases h' : h1 ≤ l1
  · rw [dist_l h', dist_l h']; omega
  · obtain ⟨a, rfl⟩ : ∃ a, h1 = a + 1 := ⟨h1 - 1, by omega⟩
    rw [dist_succ (by omega) h]; omega
theorem dist_mat {l1 a l2 b : Nat} (h1 : l1 ≤ p a) (h1' : p a ≤ a) (h2 : l2 ≤ q b) (h2' : q b ≤ b) : dist p q u l1 (a + 1) l2 (b + 1) ≤ dist p q u l1 (p a) l2 (q b) + dist p q u (p a) a (q b) b + u a b := by
  rw [dist_step h1 h1' h2 h2']; omega
theorem dist_dels {l1 m1 l2 h2 : Nat} (h : l1 ≤ m1) : ∀ k, dist p q u l1 (m1 + k) l2 h2 ≤ dist p q u l1 m1 l2 h2 + k
  | 0 => by simp
  | k + 1 => by
    have := dist_dels (l2 := l2) (h2 := h2) h k
    have := dist_del (p := p) (q := q) (u := u) (l1 := l1) (a := m1 + k) (l2 := l2) (h2 := h2) (by omega)
    rw [← Nat.add_assoc]; omega
theorem dist_inss {l1 h1 l2 m2 : Nat} (h : l2 ≤ m2) : ∀ k, dist p q u l1 h1 l2 (m2 + k) ≤ dist p q u l1 h1 l2 m2 + k
  | 0 => by simp
  | k + 1 => by
    have := dist_inss (l1 := l1) (h1 := h1) h k
    have := dist_ins (p := p) (q := q) (u := u) (l1 := l1) (h1 := h1) (l2 := l2) (b := m2 + k) (by omega)
    rw [← Nat.add_assoc]; omega
/-- Side by side it costs no more. -/
theorem dist_app : ∀ (n : Nat) {l1 m1 h1 l2 m2 h2 : Nat}, (h1 - m1) + (h2 - m2) ≤ n → l1 ≤ m1 → m1 ≤ h1 → l2 ≤ m2 → m2 ≤ h2 → (∀ x, x < h1 → p x ≤ x) → (∀ x, x < h2 → q x ≤ x) → Closed p m1 h1 → Closed q m2 h2 →
    dist p q u l1 h1 l2 h2 ≤ dist p q u l1 m1 l2 m2 + dist p q u m1 h1 m2 h2 := by
  intro n
  induction n with
  | zero =>
    intro l1 m1 h1 l2 m2 h2 hn a1 a2 b1 b2 _ _ _ _
    obtain rfl : h1 = m1 := by omega
    obtain rfl : h2 = m2 := by omega
    omega
  | succ n ih =>
    intro l1 m1 h1 l2 m2 h2 hn a1 a2 b1 b2 lp lq cp cq
    by_cases e1 : h1 ≤ m1
    · obtain rfl : h1 = m1 := by omega
      rw [dist_l (l1 := h1) (Nat.le_refl _)]
      obtain ⟨k, rfl⟩ : ∃ k, h2 = m2 + k := ⟨h2 - m2, by omega⟩
      have := dist_inss (p := p) (q := q) (u := u) (l1 := l1) (h1 := h1) b1 k
      omega
    by_cases e2 : h2 ≤ m2
    · obtain rfl : h2 = m2 := by omega
      rw [dist_r (l2 := h2) (Nat.le_refl _)]
      obtain ⟨k, rfl⟩ : ∃ k, h1 = m1 + k := ⟨h1 - m1, by omega⟩
      have := dist_dels (p := p) (q := q) (u := u) (l2 := l2) (h2 := h2) a1 k
      omega
    obtain ⟨a, rfl⟩ : ∃ a, h1 = a + 1 := ⟨h1 - 1, by omega⟩
    obtain ⟨b, rfl⟩ : ∃ b, h2 = b + 1 := ⟨h2 - 1, by omega⟩
    have ca := cp a (by omega) (by omega)
    have cb := cq b (by omega) (by omega)
    have la := lp a (by omega)
    have lb := lq b (by omega)
    have i1 := ih (l1 := l1) (m1 := m1) (h1 := a) (l2 := l2) (m2 := m2) (h2 := b + 1) (by omega) a1 (by omega) b1 b2 (fun x h => lp x (by omega)) lq (cp.le (by omega)) cq
    have i2 := ih (l1 := l1) (m1 := m1) (h1 := a + 1) (l2 := l2) (m2 := m2) (h2 := b) (by omega) a1 (by omega) b1 (by omega) lp (fun x h => lq x (by omega)) cp (cq.le (by omega))
    have i3 := ih (l1 := l1) (m1 := m1) (h1 := p a) (l2 := l2) (m2 := m2) (h2 := q b) (by omega) a1 (by omega) b1 (by omega) (fun x h => lp x (by omega)) (fun x h => lq x (by omega)) (cp.le (by omega)) (cq.le (by omega))
    rw [dist_step (l1 := l1) (by omega) la (by omega) lb, dist_step (l1 := m1) ca la cb lb]
    omega
/-- .. by the cost of the last trees as wholes. -/
theorem dist_tree {n m l1 a l2 b : Nat} (hp : Lamin p n) (hq : Lamin q m) (ha : a < n) (hb : b < m) (h1 : l1 ≤ p a) (h2 : l2 ≤ q b) : dist p q u l1 (a + 1) l2 (b + 1) =
    min (min (dist p q u l1 a l2 (b + 1) + 1) (dist p q u l1 (a + 1) l2 b + 1)) (dist p q u l1 (p a) l2 (q b) + dist p q u (p a) (a + 1) (q b) (b + 1)) := by
  have la := hp.le a ha
  have lb := hq.le b hb
  have e1 := dist_app (p := p) (q := q) (u := u) _ (l1 := l1) (m1 := p a) (h1 := a + 1) (l2 := l2) (m2 := q b) (h2 := b + 1) (Nat.le_refl _) h1 (by omega) h2 (by omega) (fun x h => hp.le x (by omega)) (fun x h => hq.le x (by omega)) (hp.closed ha) (hq.closed hb)
  have e2 := dist_mat (p := p) (q := q) (u := u) (l1 := p a) (a := a) (l2 := q b) (b := b) (Nat.le_refl _) la (Nat.le_refl _) lb
  rw [dist_l (l1 := p a) (h1 := p a) (Nat.le_refl _)] at e2
  have e3 := dist_step (p := p) (q := q) (u := u) (l1 := l1) (a := a) (l2 := l2) (b := b) h1 la h2 lb
  have e4 := dist_del (p := p) (q := q) (u := u) (l1 := l1) (a := a) (l2 := l2) (h2 := b + 1) (by omega)
  have e5 := dist_ins (p := p) (q := q) (u := u) (l1 := l1) (h1 := a + 1) (l2 := l2) (b := b) (by omega)
  omega
theorem dist_le : ∀ (n : Nat) {l1 h1 l2 h2 : Nat}, (h1 - l1) + (h2 - l2) ≤ n → dist p q u l1 h1 l2 h2 ≤ (h1 - l1) + (h2 - l2) ∧ h1 - l1 ≤ dist p q u l1 h1 l2 h2 + (h2 - l2) ∧ h2 - l2 ≤ dist p q u l1 h1 l2 h2 + (h1 - l1) := by
  intro n
  induction n with
  | zero =>
    intro l1 h1 l2 h2 hn
    rw [dist_l (by omega)]; omega
  | succ n ih =>
    intro l1 h1 l2 h2 hn
    by_cases e1 : h1 ≤ l1
    · rw [dist_l e1]; omega
    by_cases e2 : h2 ≤ l2
    · rw [dist_r e2]; omega
    obtain ⟨a, rfl⟩ : ∃ a, h1 = a + 1 := ⟨h1 - 1, by omega⟩
    obtain ⟨b, rfl⟩ : ∃ b, h2 = b + 1 := ⟨h2 - 1, by omega⟩
    have i1 := ih (l1 := l1) (h1 := a) (l2 := l2) (h2 := b + 1) (by omega)
    have i2 := ih (l1 := l1) (h1 := a + 1) (l2 := l2) (h2 := b) (by omega)
    rw [dist_succ (by omega) (by omega)]
    generalize hP : max l1 (min (p a) a) = P
    generalize hQ : max l2 (min (q b) b) = Q
    have i3 := ih (l1 := l1) (h1 := P) (l2 := l2) (h2 := Q) (by omega)
    have i4 := ih (l1 := P) (h1 := a) (l2 := Q) (h2 := b) (by omega)
    omega
/-- Places that are shifted. -/
theorem dist_shift {p q p' q' : Nat → Nat} {u u' : Nat → Nat → Nat} {s1 s2 : Nat} : ∀ (n : Nat) {l1 h1 l2 h2 : Nat}, (h1 - l1) + (h2 - l2) ≤ n → (∀ x, l1 ≤ x → x < h1 → p' (x + s1) = p x + s1) → (∀ x, l2 ≤ x → x < h2 → q' (x + s2) = q x + s2) →
    (∀ x y, l1 ≤ x → x < h1 → l2 ≤ y → y < h2 → u' (x + s1) (y + s2) = u x y) → dist p' q' u' (l1 + s1) (h1 + s1) (l2 + s2) (h2 + s2) = dist p q u l1 h1 l2 h2 := by
  intro n
  induction n with
  | zero =>
    intro l1 h1 l2 h2 hn _ _ _
    rw [dist_l (by omega), dist_l (by omega)]; omega
  | succ n ih =>
    intro l1 h1 l2 h2 hn ep eq eu
    by_cases e1 : h1 ≤ l1
    · rw [dist_l e1, dist_l (by omega)]; omega
    by_cases e2 : h2 ≤ l2
    · rw [dist_r e2, dist_r (by omega)]; omega
    obtain ⟨a, rfl⟩ : ∃ a, h1 = a + 1 := ⟨h1 - 1, by omega⟩
    obtain ⟨b, rfl⟩ : ∃ b, h2 = b + 1 := ⟨h2 - 1, by omega⟩
    have i1 := ih (l1 := l1) (h1 := a) (l2 := l2) (h2 := b + 1) (by omega) (fun x h h' => ep x h (by omega)) eq (fun x y h h' => eu x y h (by omega))
    have i2 := ih (l1 := l1) (h1 := a + 1) (l2 := l2) (h2 := b) (by omega) ep (fun x h h' => eq x h (by omega)) (fun x y h h' g g' => eu x y h h' g (by omega))
    rw [show a + 1 + s1 = a + s1 + 1 by omega, show b + 1 + s2 = b + s2 + 1 by omega] at *
    rw [dist_succ (p := p) (by omega) (by omega), dist_succ (p := p') (by omega) (by omega)]
    have ea := ep a (by omega) (by omega)
    have eb := eq b (by omega) (by omega)
    have hP' : max (l1 + s1) (min (p' (a + s1)) (a + s1)) = max l1 (min (p a) a) + s1 := by rw [ea]; omega
    have hQ' : max (l2 + s2) (min (q' (b + s2)) (b + s2)) = max l2 (min (q b) b) + s2 := by rw [eb]; omega
    rw [hP', hQ']
    generalize hP : max l1 (min (p a) a) = P
    generalize hQ : max l2 (min (q b) b) = Q
    have i3 := ih (l1 := l1) (h1 := P) (l2 := l2) (h2 := Q) (by omega) (fun x h h' => ep x h (by omega)) (fun x h h' => eq x h (by omega)) (fun x y h h' g g' => eu x y h (by omega) g (by omega))
    have i4 := ih (l1 := P) (h1 := a) (l2 := Q) (h2 := b) (by omega) (fun x h h' => ep x (by omega) (by omega)) (fun x h h' => eq x (by omega) (by omega)) (fun x y h h' g g' => eu x y (by omega) (by omega) (by omega) (by omega))
    rw [i1, i2, i3, i4, eu a b (by omega) (by omega) (by omega) (by omega)]
end Go.Cod

namespace Go.Cod
set_option linter.all false

/-! The things of a tree, each behind what is in it. -/
structure Th where
  k : List UInt8
  t : List UInt8
  f : Nat
mutual
def nT : T → Nat
  | .mk _ _ _ ks => nL ks + 1
def nL : List T → Nat
  | [] => 0
  | t :: ts => nT t + nL ts
end
mutual
def postT (n : Nat) : T → List Th
  | .mk _ k x ks => postL n ks ++ [⟨k, x, n⟩]
def postL (n : Nat) : List T → List Th
  | [] => []
  | t :: ts => postT n t ++ postL (n + nT t) ts
end
mutual
theorem postT_len : ∀ (n : Nat) (t : T), (postT n t).length = nT t
  | n, .mk _ k x ks => by simp [postT, nT, postL_len n ks]
theorem postL_len : ∀ (n : Nat) (ts : List T), (postL n ts).length = nL ts
  | n, [] => rfl
  | n, t :: ts => by simp [postL, nL, postT_len n t, postL_len _ ts]
end
theorem postL_append (n : Nat) (F G : List T) : postL n (F ++ G) = postL n F ++ postL (n + nL F) G := by
  induction F generalizing n with
  | nil => simp [postL, nL]
  | cons t F ih => simp only [List.cons_append, postL, ih, nL, List.append_assoc, Nat.add_assoc]
theorem nL_append (F G : List T) : nL (F ++ G) = nL F + nL G := by
  induction F with
  | nil => simp [nL]
  | cons t F ih => simp only [List.cons_append, nL, ih]; omega
theorem postL_one (n : Nat) (t : T) : postL n [t] = postT n t := by simp [postL]
def Th.add (s : Nat) (h : Th) : Th := ⟨h.k, h.t, h.f + s⟩
mutual
theorem postT_shift : ∀ (n s : Nat) (t : T), postT (n + s) t = (postT n t).map (Th.add s)
  | n, s, .mk _ k x ks => by simp [postT, postL_shift n s ks, Th.add]
theorem postL_shift : ∀ (n s : Nat) (ts : List T), postL (n + s) ts = (postL n ts).map (Th.add s)
  | n, s, [] => rfl
  | n, s, t :: ts => by
    simp only [postL, List.map_append, postT_shift n s t]
    rw [show n + s + nT t = n + nT t + s by omega, postL_shift _ s ts]
end
/-- What is in a thing stands side by side, or one in the other. -/
structure Nest (n : Nat) (L : List Th) : Prop where
  le : ∀ (x : Nat) e, L[x]? = some e → n ≤ e.f ∧ e.f ≤ n + x
  nest : ∀ (x y : Nat) e e', x < y → L[x]? = some e → L[y]? = some e' → n + x < e'.f ∨ e'.f ≤ e.f
theorem Nest.app {n : Nat} {L M : List Th} (h1 : Nest n L) (h2 : Nest (n + L.length) M) : Nest n (L ++ M) := by
  refine ⟨fun x e h => ?_, fun x y e e' hxy h h' => ?_⟩
  · by_cases hx : x < L.length
    · rw [List.getElem?_append_left hx] at h; exact h1.le x e h
    · rw [List.getElem?_append_right (by omega)] at h
      have := h2.le _ e h; omega
  · by_cases hy : y < L.length
    · rw [List.getElem?_append_left hy] at h'
      rw [List.getElem?_append_left (by omega)] at h
      exact h1.nest x y e e' hxy h h'
    · rw [List.getElem?_append_right (by omega)] at h'
      by_cases hx : x < L.length
      · have := h2.le _ e' h'; omega
      · rw [List.getElem?_append_right (by omega)] at h
        have := h2.nest _ _ e e' (by omega) h h'; omega
theorem Nest.root {n : Nat} {L : List Th} (h1 : Nest n L) (e0 : Th) (h0 : e0.f = n) : Nest n (L ++ [e0]) := by
  refine ⟨fun x e h => ?_, fun x y e e' hxy h h' => ?_⟩
  · by_cases hx : x < L.length
    · rw [List.getElem?_append_left hx] at h; exact h1.le x e h
    · rw [List.getElem?_append_right (by omega), List.getElem?_singleton] at h
      split at h
      · cases h; omega
      · cases h
  · by_cases hy : y < L.length
    · rw [List.getElem?_append_left hy] at h'
      rw [List.getElem?_append_left (by omega)] at h
      exact h1.nest x y e e' hxy h h'
    · rw [List.getElem?_append_right (by omega), List.getElem?_singleton] at h'
      split at h'
      · cases h'
        by_cases hx : x < L.length
        · rw [List.getElem?_append_left hx] at h
          have := h1.le x e h; omega
        · omega
      · cases h'
mutual
theorem postT_nest : ∀ (n : Nat) (t : T), Nest n (postT n t)
  | n, .mk _ k x ks => by simp only [postT]; exact (postL_nest n ks).root _ rfl
theorem postL_nest : ∀ (n : Nat) (ts : List T), Nest n (postL n ts)
  | n, [] => ⟨fun x e h => by simp [postL] at h, fun x y e e' _ h => by simp [postL] at h⟩
  | n, t :: ts => by
    simp only [postL]
    refine (postT_nest n t).app ?_
    rw [postT_len]; exact postL_nest _ ts
end
def fstOf (L : List Th) (x : Nat) : Nat := match L[x]? with
  | some e => e.f
  | none => 0
def labAt (L : List Th) (x : Nat) : Option (List UInt8 × List UInt8) := (L[x]?).map fun e => (e.k, e.t)
def unl (L M : List Th) (a b : Nat) : Nat := if labAt L a = labAt M b then 0 else 1
theorem fstOf_get {L : List Th} {x : Nat} {e : Th} (h : L[x]? = some e) : fstOf L x = e.f := by simp [fstOf, h]
theorem Nest.lamin {L : List Th} (h : Nest 0 L) : Lamin (fstOf L) L.length := by
  refine ⟨fun x hx => ?_, fun x y hxy hy => ?_⟩
  · have e := List.getElem?_eq_getElem hx
    rw [fstOf_get e]
    have := h.le x _ e; omega
  · have e := List.getElem?_eq_getElem (l := L) (i := x) (by omega)
    have e' := List.getElem?_eq_getElem hy
    rw [fstOf_get e, fstOf_get e']
    have := h.nest x y _ _ hxy e e'; omega
theorem Nest.closed {n : Nat} {L : List Th} (h : Nest 0 L) : Closed (fstOf L) 0 n := fun x _ _ => Nat.zero_le _
/-- What it costs to make one list of trees another. -/
def fd (F G : List T) : Nat := dist (fstOf (postL 0 F)) (fstOf (postL 0 G)) (unl (postL 0 F) (postL 0 G)) 0 (nL F) 0 (nL G)
theorem fstOf_left {L M : List Th} {x : Nat} (h : x < L.length) : fstOf (L ++ M) x = fstOf L x := by
  unfold fstOf; rw [List.getElem?_append_left h]
theorem labAt_left {L M : List Th} {x : Nat} (h : x < L.length) : labAt (L ++ M) x = labAt L x := by
  unfold labAt; rw [List.getElem?_append_left h]
theorem fstOf_shift {L M : List Th} {x : Nat} (h : x < M.length) : fstOf (L ++ M.map (Th.add L.length)) (x + L.length) = fstOf M x + L.length := by
  unfold fstOf
  rw [List.getElem?_append_right (by omega), Nat.add_sub_cancel, List.getElem?_map, List.getElem?_eq_getElem h]
  rfl
theorem labAt_shift {L M : List Th} {x : Nat} : labAt (L ++ M.map (Th.add L.length)) (x + L.length) = labAt M x := by
  unfold labAt
  rw [List.getElem?_append_right (by omega), Nat.add_sub_cancel, List.getElem?_map, Option.map_map]
  rfl
theorem unl_left {L M L' M' : List Th} {x y : Nat} (h : x < L.length) (h' : y < L'.length) : unl (L ++ M) (L' ++ M') x y = unl L L' x y := by
  unfold unl; rw [labAt_left h, labAt_left h']
/-- The first trees alone, and the last. -/
theorem dist_left (F1 F2 G1 G2 : List Th) : dist (fstOf (F1 ++ F2)) (fstOf (G1 ++ G2)) (unl (F1 ++ F2) (G1 ++ G2)) 0 F1.length 0 G1.length = dist (fstOf F1) (fstOf G1) (unl F1 G1) 0 F1.length 0 G1.length :=
  dist_shift (s1 := 0) (s2 := 0) _ (Nat.le_refl _) (fun x _ h => fstOf_left h) (fun x _ h => fstOf_left h) (fun x y _ h _ h' => unl_left h h')
theorem nil_fd (F : List T) : fd [] F = nL F := by unfold fd; rw [dist_l (by simp [nL])]; omega
theorem nL_one (t : T) : nL [t] = nT t := by simp [nL]
/-- A tree's last thing is itself. -/
theorem fd_snoc (F G : List T) (i j : Int) (k x k' x' : List UInt8) (ks ks' : List T) : ∃ A B, fd (F ++ [.mk i k x ks]) (G ++ [.mk j k' x' ks']) = min (min (A + 1) (B + 1)) (fd F G + fd ks ks' + (if k = k' ∧ x = x' then 0 else 1)) := by
  have e1 : postL 0 (F ++ [.mk i k x ks]) = postL 0 F ++ ((postL 0 ks).map (Th.add (postL 0 F).length) ++ [⟨k, x, nL F⟩]) := by
    rw [postL_append, postL_one, postT, postL_len, ← postL_shift]; simp
  have e2 : postL 0 (G ++ [.mk j k' x' ks']) = postL 0 G ++ ((postL 0 ks').map (Th.add (postL 0 G).length) ++ [⟨k', x', nL G⟩]) := by
    rw [postL_append, postL_one, postT, postL_len, ← postL_shift]; simp
  have n1 : nL (F ++ [.mk i k x ks]) = (nL F + nL ks) + 1 := by rw [nL_append, nL_one, nT]; omega
  have n2 : nL (G ++ [.mk j k' x' ks']) = (nL G + nL ks') + 1 := by rw [nL_append, nL_one, nT]; omega
  have l1 : (postL 0 F ++ (postL 0 ks).map (Th.add (postL 0 F).length)).length = nL F + nL ks := by simp [postL_len]
  have l2 : (postL 0 G ++ (postL 0 ks').map (Th.add (postL 0 G).length)).length = nL G + nL ks' := by simp [postL_len]
  unfold fd
  rw [e1, e2, n1, n2]
  have g1 : (postL 0 F ++ ((postL 0 ks).map (Th.add (postL 0 F).length) ++ [⟨k, x, nL F⟩]))[nL F + nL ks]? = some ⟨k, x, nL F⟩ := by
    rw [← List.append_assoc, List.getElem?_append_right (by omega), l1]; simp
  have g2 : (postL 0 G ++ ((postL 0 ks').map (Th.add (postL 0 G).length) ++ [⟨k', x', nL G⟩]))[nL G + nL ks']? = some ⟨k', x', nL G⟩ := by
    rw [← List.append_assoc, List.getElem?_append_right (by omega), l2]; simp
  have p1 := fstOf_get g1
  have p2 := fstOf_get g2
  simp only at p1 p2
  have u0 : unl (postL 0 F ++ ((postL 0 ks).map (Th.add (postL 0 F).length) ++ [⟨k, x, nL F⟩])) (postL 0 G ++ ((postL 0 ks').map (Th.add (postL 0 G).length) ++ [⟨k', x', nL G⟩])) (nL F + nL ks) (nL G + nL ks') = if k = k' ∧ x = x' then 0 else 1 := by
    unfold unl labAt; rw [g1, g2]; simp
  have s := dist_step (p := fstOf (postL 0 F ++ ((postL 0 ks).map (Th.add (postL 0 F).length) ++ [⟨k, x, nL F⟩]))) (q := fstOf (postL 0 G ++ ((postL 0 ks').map (Th.add (postL 0 G).length) ++ [⟨k', x', nL G⟩])))
    (u := unl (postL 0 F ++ ((postL 0 ks).map (Th.add (postL 0 F).length) ++ [⟨k, x, nL F⟩])) (postL 0 G ++ ((postL 0 ks').map (Th.add (postL 0 G).length) ++ [⟨k', x', nL G⟩])))
    (l1 := 0) (a := nL F + nL ks) (l2 := 0) (b := nL G + nL ks') (Nat.zero_le _) (by rw [p1]; omega) (Nat.zero_le _) (by rw [p2]; omega)
  rw [s, p1, p2, u0]
  have d1 := dist_left (postL 0 F) ((postL 0 ks).map (Th.add (postL 0 F).length) ++ [⟨k, x, nL F⟩]) (postL 0 G) ((postL 0 ks').map (Th.add (postL 0 G).length) ++ [⟨k', x', nL G⟩])
  have d2 : dist (fstOf (postL 0 F ++ ((postL 0 ks).map (Th.add (postL 0 F).length) ++ [⟨k, x, nL F⟩]))) (fstOf (postL 0 G ++ ((postL 0 ks').map (Th.add (postL 0 G).length) ++ [⟨k', x', nL G⟩])))
      (unl (postL 0 F ++ ((postL 0 ks).map (Th.add (postL 0 F).length) ++ [⟨k, x, nL F⟩])) (postL 0 G ++ ((postL 0 ks').map (Th.add (postL 0 G).length) ++ [⟨k', x', nL G⟩]))) (nL F) (nL F + nL ks) (nL G) (nL G + nL ks') = dist (fstOf (postL 0 ks)) (fstOf (postL 0 ks')) (unl (postL 0 ks) (postL 0 ks')) 0 (nL ks) 0 (nL ks') := by
    have := dist_shift (p := fstOf (postL 0 ks)) (q := fstOf (postL 0 ks')) (u := unl (postL 0 ks) (postL 0 ks')) (p' := fstOf (postL 0 F ++ ((postL 0 ks).map (Th.add (postL 0 F).length) ++ [⟨k, x, nL F⟩]))) (q' := fstOf (postL 0 G ++ ((postL 0 ks').map (Th.add (postL 0 G).length) ++ [⟨k', x', nL G⟩])))
      (u' := unl (postL 0 F ++ ((postL 0 ks).map (Th.add (postL 0 F).length) ++ [⟨k, x, nL F⟩])) (postL 0 G ++ ((postL 0 ks').map (Th.add (postL 0 G).length) ++ [⟨k', x', nL G⟩]))) (s1 := nL F) (s2 := nL G) _ (l1 := 0) (h1 := nL ks) (l2 := 0) (h2 := nL ks') (Nat.le_refl _) ?_ ?_ ?_
    · rw [← this]; congr 1 <;> omega
    · intro y _ hy
      rw [← List.append_assoc, fstOf_left (by rw [l1]; omega), show nL F = (postL 0 F).length by rw [postL_len], fstOf_shift (by rw [postL_len]; exact hy)]
    · intro y _ hy
      rw [← List.append_assoc, fstOf_left (by rw [l2]; omega), show nL G = (postL 0 G).length by rw [postL_len], fstOf_shift (by rw [postL_len]; exact hy)]
    · intro y z _ hy _ hz
      rw [← List.append_assoc, ← List.append_assoc, unl_left (by rw [l1]; omega) (by rw [l2]; omega)]
      unfold unl
      rw [show y + nL F = y + (postL 0 F).length by rw [postL_len], show z + nL G = z + (postL 0 G).length by rw [postL_len], labAt_shift, labAt_shift]
  simp only [postL_len] at d1
  simp only [postL_len] at d2 ⊢
  rw [d1, d2]
  exact ⟨_, _, rfl⟩
theorem fd_node (i j : Int) (k x k' x' : List UInt8) (ks ks' : List T) : fd [.mk i k x ks] [.mk j k' x' ks'] ≤ fd ks ks' + (if k = k' ∧ x = x' then 0 else 1) := by
  obtain ⟨A, B, h⟩ := fd_snoc [] [] i j k x k' x' ks ks'
  have e : fd [] [] = 0 := by rw [nil_fd]; rfl
  rw [e] at h
  simp only [List.nil_append] at h
  rw [h]; omega
/- Alike, but for numbers. -/
theorem nT_pos (t : T) : 0 < nT t := by cases t; simp [nT]
/-- What it costs to make one tree another. -/
def costT (a b : T) : Nat := fd [a] [b]
theorem costT_eq (a b : T) : costT a b = dist (fstOf (postT 0 a)) (fstOf (postT 0 b)) (unl (postT 0 a) (postT 0 b)) 0 (nT a) 0 (nT b) := by
  unfold costT fd; rw [postL_one, postL_one, nL_one, nL_one]
theorem costT_most (a b : T) : costT a b + 1 ≤ nT a + nT b ∧ nT a ≤ costT a b + nT b ∧ nT b ≤ costT a b + nT a := by
  have h := dist_le (p := fstOf (postT 0 a)) (q := fstOf (postT 0 b)) (u := unl (postT 0 a) (postT 0 b)) _ (l1 := 0) (h1 := nT a) (l2 := 0) (h2 := nT b) (Nat.le_refl _)
  rw [← costT_eq] at h
  refine ⟨?_, by omega, by omega⟩
  obtain ⟨i, k, x, ks⟩ := a
  obtain ⟨j, k', x', ks'⟩ := b
  have h1 := fd_node i j k x k' x' ks ks'
  have h2 := dist_le (p := fstOf (postL 0 ks)) (q := fstOf (postL 0 ks')) (u := unl (postL 0 ks) (postL 0 ks')) _ (l1 := 0) (h1 := nL ks) (l2 := 0) (h2 := nL ks') (Nat.le_refl _)
  have h3 : fd ks ks' ≤ nL ks + nL ks' := by unfold fd; omega
  unfold costT
  simp only [nT]
  split at h1 <;> omega
end Go.Cod

namespace Go.Cod
open Go Go.Proofs
set_option linter.all false
set_option maxRecDepth 10000

/-! Tables of numbers in a pool. -/
def numR (m : Nat) (g : Nat → Int) : List (List V) := (List.range m).map fun j => [V.int .i64 (g j)]
theorem numR_len (m : Nat) (g : Nat → Int) : (numR m g).length = m := by simp [numR]
theorem numR_get {m : Nat} (g : Nat → Int) {j : Nat} (h : j < m) : (numR m g)[j]? = some [.int .i64 (g j)] := by simp [numR, h]
theorem numR_zero {m : Nat} {g : Nat → Int} (h : ∀ j, g j = 0) : List.replicate m [V.int .i64 0] = numR m g := by
  apply List.ext_getElem?
  intro j
  by_cases hj : j < m
  · rw [numR_get g hj, List.getElem?_replicate, if_pos hj, h]
  · rw [List.getElem?_eq_none (by simp; omega), List.getElem?_eq_none (by rw [numR_len]; omega)]
def upd1 (g : Nat → Int) (j : Nat) (v : Int) : Nat → Int := fun y => if y = j then v else g y
def upd2 (f : Nat → Nat → Int) (i j : Nat) (v : Int) : Nat → Nat → Int := fun x y => if x = i ∧ y = j then v else f x y
theorem numR_set (m : Nat) (g : Nat → Int) (j : Nat) (v : Int) : (numR m g).set j [.int .i64 v] = numR m (upd1 g j v) := by
  apply List.ext_getElem?
  intro y
  rw [List.getElem?_set]
  by_cases hy : y < m
  · rw [numR_get (upd1 g j v) hy]
    by_cases e : j = y
    · subst e; rw [if_pos rfl, if_pos (by rw [numR_len]; exact hy)]; unfold upd1; rw [if_pos rfl]
    · rw [if_neg e, numR_get g hy]; unfold upd1; rw [if_neg (Ne.symm e)]
  · rw [List.getElem?_eq_none (l := numR m (upd1 g j v)) (by rw [numR_len]; omega)]
    split
    · rw [if_neg (by rw [numR_len]; omega)]
    · rw [List.getElem?_eq_none (by rw [numR_len]; omega)]
/-- A table's rows, as far as they are made. -/
def rootR (n : Nat) (bs : List Nat) (m : Nat) : List (List V) := bs.map (fun x => [V.dref x m m]) ++ List.replicate (n - bs.length) [.nils]
theorem rootR_get {n : Nat} {bs : List Nat} {m i x : Nat} (h : bs[i]? = some x) : (rootR n bs m)[i]? = some [.dref x m m] := by
  have hi := (List.getElem?_eq_some_iff.1 h).1
  unfold rootR
  rw [List.getElem?_append_left (by simpa using hi), List.getElem?_map, h]; rfl
theorem rootR_nil {n : Nat} {bs : List Nat} {m : Nat} (h : bs.length < n) : (rootR n bs m)[bs.length]? = some [.nils] := by
  unfold rootR
  rw [List.getElem?_append_right (by simp), List.length_map, Nat.sub_self, List.getElem?_replicate, if_pos (by omega)]
theorem rootR_set {n : Nat} {bs : List Nat} {m x : Nat} (h : bs.length < n) : (rootR n bs m).set bs.length [.dref x m m] = rootR n (bs ++ [x]) m := by
  unfold rootR
  obtain ⟨d, hd⟩ : ∃ d, n - bs.length = d + 1 := ⟨n - bs.length - 1, by omega⟩
  rw [List.set_append_right _ _ (by simp), hd, List.replicate_succ]
  simp only [List.length_map, Nat.sub_self, List.set_cons_zero, List.map_append, List.map_cons, List.map_nil, List.length_append, List.length_cons, List.length_nil, List.append_assoc, List.singleton_append]
  rw [show n - (bs.length + (0 + 1)) = d by omega]
structure Tab (es : List (List V)) (b n : Nat) (bs : List Nat) (m : Nat) (f : Nat → Nat → Int) : Prop where
  root : ent b n 1 (rootR n bs m) ∈ es
  row : ∀ (i x : Nat), bs[i]? = some x → ent x m 1 (numR m (f i)) ∈ es
  nd : (b :: bs).Nodup
  le : bs.length ≤ n
theorem lab_ent (b c s : Nat) (r : List (List V)) : labOf (ent b c s r) = b := rfl
theorem Tab.fresh {es b n bs m f} (h : Tab es b n bs m f) {x : Nat} (hx : ∀ e ∈ es, labOf e ≠ x) : x ∉ b :: bs := by
  intro hm
  rcases List.mem_cons.1 hm with rfl | hm
  · exact hx _ h.root rfl
  · obtain ⟨i, hi⟩ := List.getElem?_of_mem hm
    exact hx _ (h.row i x hi) rfl
theorem Tab.more {es b n bs m f} (h : Tab es b n bs m f) (es' : List (List V)) : Tab (es ++ es') b n bs m f :=
  ⟨List.mem_append_left _ h.root, fun i x hi => List.mem_append_left _ (h.row i x hi), h.nd, h.le⟩
theorem Tab.other {es b n bs m f} (h : Tab es b n bs m f) {x : Nat} (hx : x ∉ b :: bs) (r : List (List V)) : Tab (putEnt x r es) b n bs m f :=
  ⟨putEnt_other h.root (by rw [lab_ent]; rintro rfl; exact hx (by simp)), fun i y hi => putEnt_other (h.row i y hi) (by rw [lab_ent]; rintro rfl; exact hx (List.mem_cons_of_mem _ (List.mem_of_getElem? hi))), h.nd, h.le⟩
theorem Tab.put {es b n bs m f} (h : Tab es b n bs m f) {i x : Nat} (hi : bs[i]? = some x) (j : Nat) (v : Int) : Tab (putEnt x ((numR m (f i)).set j [.int .i64 v]) es) b n bs m (upd2 f i j v) := by
  have hnd := List.nodup_cons.1 h.nd
  refine ⟨putEnt_other h.root ?_, fun i' y hi' => ?_, h.nd, h.le⟩
  · rw [lab_ent]; rintro rfl; exact hnd.1 (List.mem_of_getElem? hi)
  · by_cases e : i' = i
    · subst e
      rw [hi] at hi'; cases hi'
      have := putEnt_mem (rows' := (numR m (f i')).set j [.int .i64 v]) (h.row i' x hi)
      rw [numR_set] at this ⊢
      rw [show upd2 f i' j v i' = upd1 (f i') j v by funext y; simp [upd2, upd1]]
      exact this
    · have hne : y ≠ x := by
        rintro rfl
        exact e ((List.getElem?_inj (List.getElem?_eq_some_iff.1 hi').1 hnd.2).1 (hi'.trans hi.symm))
      rw [show upd2 f i j v i' = f i' by funext y; simp [upd2, e]]
      exact putEnt_other (h.row i' y hi') (by rw [lab_ent]; exact hne)
theorem Tab.begin (es : List (List V)) (b n m : Nat) (f : Nat → Nat → Int) : Tab (es ++ [ent b n 1 (List.replicate n [.nils])]) b n [] m f :=
  ⟨List.mem_append_right _ (by simp [rootR]), fun i x hi => by simp at hi, by simp, Nat.zero_le _⟩
theorem Tab.grow {es b n bs m f} (h : Tab es b n bs m f) (hn : bs.length < n) (hf : ∀ j, f bs.length j = 0) {x : Nat} (hx : ∀ e ∈ es, labOf e ≠ x) :
    Tab (putEnt b ((rootR n bs m).set bs.length [.dref x m m]) (es ++ [ent x m 1 (List.replicate m [.int .i64 0])])) b n (bs ++ [x]) m f := by
  have hxb := h.fresh hx
  have hnd := List.nodup_cons.1 h.nd
  refine ⟨?_, fun i y hi => putEnt_other ?_ ?_, ?_, by simp; omega⟩
  · rw [rootR_set hn]
    exact putEnt_mem (List.mem_append_left _ h.root)
  · by_cases hi' : i < bs.length
    · rw [List.getElem?_append_left hi'] at hi
      exact List.mem_append_left _ (h.row i y hi)
    · rw [List.getElem?_append_right (by omega), List.getElem?_singleton] at hi
      split at hi
      · cases hi
        have : i = bs.length := by omega
        subst this
        rw [← numR_zero hf]
        simp
      · cases hi
  · rw [lab_ent]
    rintro rfl
    by_cases hi' : i < bs.length
    · rw [List.getElem?_append_left hi'] at hi
      exact hnd.1 (List.mem_of_getElem? hi)
    · rw [List.getElem?_append_right (by omega), List.getElem?_singleton] at hi
      split at hi
      · cases hi; exact hxb (by simp)
      · cases hi
  · rw [List.nodup_cons]
    refine ⟨?_, ?_⟩
    · intro hm
      rcases List.mem_append.1 hm with hm | hm
      · exact hnd.1 hm
      · simp at hm; subst hm; exact hxb (by simp)
    · rw [List.nodup_append]
      refine ⟨hnd.2, by simp, ?_⟩
      intro a ha c hc
      simp at hc; subst hc
      rintro rfl
      exact hxb (List.mem_cons_of_mem _ ha)
theorem Tab.at {es b n bs m f} (h : Tab es b n bs m f) {i : Nat} (hi : i < bs.length) : ∃ x, bs[i]? = some x ∧ (rootR n bs m)[i]? = some [.dref x m m] ∧ ent x m 1 (numR m (f i)) ∈ es := by
  have e := List.getElem?_eq_getElem hi
  exact ⟨_, e, rootR_get e, h.row _ _ e⟩
end Go.Cod

namespace Go.Cod
open Go Go.Proofs
set_option linter.all false
set_option maxRecDepth 10000

def mn (x y : Int) : Int := if y < x then y else x
theorem least_pure (x a b : Int) : Pure Try.prog 53 [.int .i64 x, .sl [[.int .i64 a], [.int .i64 b]]] (· = .int .i64 (mn (mn x a) b)) := by
  refine pure_of_awp good Try.func53 rfl (by kernel_rfl) (by decide) ?_
  conv => whnf
  refine loop_intro (fun n fr st => ∃ i : Nat, n + i = 2 ∧ st = [] ∧ ((i = 0 ∧ Holds fr [(0, .int .i64 x), (7, .sl [[.int .i64 a], [.int .i64 b]]), (8, .int .i64 2), (9, .int .i64 0)]) ∨
      (i = 1 ∧ Holds fr [(0, .int .i64 (mn x a)), (7, .sl [[.int .i64 a], [.int .i64 b]]), (8, .int .i64 2), (9, .int .i64 1)]) ∨ (i = 2 ∧ Holds fr [(0, .int .i64 (mn (mn x a) b)), (8, .int .i64 2), (9, .int .i64 2)]))) 2 ?_ ?_
  · exact ⟨0, rfl, rfl, .inl ⟨rfl, rfl, rfl, rfl, rfl, trivial⟩⟩
  rintro n fr st ⟨i, hi, rfl, ⟨rfl, hh⟩ | ⟨rfl, hh⟩ | ⟨rfl, hh⟩⟩
  · obtain ⟨fr, rfl⟩ := hh.split
    clear hh
    conv => whnf
    rw [ltB_t (by omega)]
    conv => whnf
    refine ⟨by omega, _, _, 1, rfl, rfl, rfl, rfl, ?_⟩
    conv => whnf
    refine semMin rfl rfl ?_
    conv => whnf
    refine ⟨n - 1, by omega, 1, by omega, rfl, .inr (.inl ⟨rfl, rfl, rfl, rfl, rfl, trivial⟩)⟩
  · obtain ⟨fr, rfl⟩ := hh.split
    clear hh
    conv => whnf
    rw [ltB_t (by omega)]
    conv => whnf
    refine ⟨by omega, _, _, 1, rfl, rfl, rfl, rfl, ?_⟩
    conv => whnf
    refine semMin rfl rfl ?_
    conv => whnf
    refine ⟨n - 1, by omega, 2, by omega, rfl, .inr (.inr ⟨rfl, rfl, rfl, rfl, trivial⟩)⟩
  · obtain ⟨fr, rfl⟩ := hh.split
    clear hh
    conv => whnf
    rw [ltB_f (by omega)]
    conv => whnf
theorem l5Least_pure (x a b : Int) : Pure Try.prog 54 [.int .i64 x, .int .i64 a, .int .i64 b] (· = .int .i64 (mn (mn x a) b)) := by
  refine pure_of_awp good Try.func54 rfl (by kernel_rfl) (by decide) ?_
  conv => whnf
  by_cases h1 : a < x
  · rw [ltB_t h1]
    conv => whnf
    rw [show mn x a = a by unfold mn; rw [if_pos h1]]
    by_cases h2 : b < a
    · rw [ltB_t h2]
      conv => whnf
      unfold mn; rw [if_pos h2]
    · rw [ltB_f (by omega)]
      conv => whnf
      unfold mn; rw [if_neg h2]
  · rw [ltB_f (by omega)]
    conv => whnf
    rw [show mn x a = x by unfold mn; rw [if_neg h1]]
    by_cases h2 : b < x
    · rw [ltB_t h2]
      conv => whnf
      unfold mn; rw [if_pos h2]
    · rw [ltB_f (by omega)]
      conv => whnf
      unfold mn; rw [if_neg h2]
def Th.cells (h : Th) : List V := [.str h.k, .str h.t, .int .i64 h.f]
def unH (a b : Th) : Nat := if a.k = b.k ∧ a.t = b.t then 0 else 1
theorem diffUnlike_pure (a b : Th) : Pure Try.prog 52 [.agg a.cells, .agg b.cells] (· = .int .i64 (unH a b)) := by
  obtain ⟨ak, at', af⟩ := a
  obtain ⟨bk, bt, bf⟩ := b
  refine pure_of_awp good Try.func52 rfl (by kernel_rfl) (by decide) ?_
  conv => whnf
  by_cases h1 : ak = bk
  · rw [eqS_t h1]
    conv => whnf
    by_cases h2 : at' = bt
    · rw [eqS_t h2]
      conv => whnf
      simp [unH, h1, h2]
    · rw [eqS_f h2]
      conv => whnf
      simp [unH, h1, h2]
  · rw [eqS_f h1]
    conv => whnf
    simp [unH, h1]
def thR (L : List Th) : List (List V) := L.map Th.cells
theorem thR_len (L : List Th) : (thR L).length = L.length := by simp [thR]
theorem thR_get {L : List Th} {i : Nat} {e : Th} (h : L[i]? = some e) : (thR L)[i]? = some e.cells := by simp [thR, h]
theorem thR_app (L M : List Th) : thR (L ++ M) = thR L ++ thR M := by simp [thR]
theorem diffTable_new (n m : Nat) (hn : n ≤ 1000000) (hm : m ≤ 1000000) : Full Try.prog noY 25 [.int .i64 n, .int .i64 m] [poolO []] fun o st' => ∃ b bs es, o = .ret (.dref b n n) ∧ st' = [poolO es] ∧ Tab es b n bs m (fun _ _ => 0) ∧ bs.length = n := by
  refine full_of_awp good Try.func25 rfl (by kernel_rfl) (by decide) ?_
  conv => whnf
  refine semMake (k := 0) (m := n) good rfl rfl rfl rfl rfl rfl rfl rfl (by show n * 24 ≤ _; omega) (by omega) fun b hb => ?_
  conv => whnf
  have hT := Tab.begin [] b n m (fun _ _ => 0)
  simp only [List.nil_append] at hT
  refine loop_drop (fun k fr st => ∃ bs es, k + bs.length = n ∧ st = [poolO es] ∧ Tab es b n bs m (fun _ _ => 0) ∧ Holds fr [(1, .int .i64 m), (5, .dref b n n), (10, .int .i64 n), (11, .int .i64 bs.length)]) n none ?_ ?_
  · exact ⟨[], _, rfl, rfl, hT, rfl, rfl, rfl, rfl, trivial⟩
  clear hT
  rintro k fr st ⟨bs, es, hk, rfl, hT, hh⟩
  obtain ⟨fr, rfl⟩ := hh.split
  clear hh
  conv => whnf
  by_cases hlt : bs.length < n
  · rw [ltB_t (by omega)]
    conv => whnf
    refine semMake (k := 0) (m := m) good rfl rfl rfl rfl rfl rfl rfl rfl (by show m * 8 ≤ _; omega) (by omega) fun x hx => ?_
    conv => whnf
    have hG := hT.grow hlt (fun _ => rfl) hx
    refine ⟨by omega, by omega, ?_⟩
    conv => whnf
    refine ⟨0, n, rootR n bs m, [.nils], _, List.mem_append_left _ hT.root, rootR_nil hlt, rfl, ?_⟩
    conv => whnf
    refine ⟨k - 1, by omega, none, bs ++ [x], _, by simp; omega, rfl, hG, rfl, rfl, rfl, ?_, trivial⟩
    show V.int .i64 (IntKind.i64.wrap (bs.length + 1)) = _
    rw [wrap64 (by omega) (by omega)]; simp
  · rw [ltB_f (by omega)]
    conv => whnf
    refine ⟨[], false, ?_⟩
    conv => whnf
    exact ⟨b, bs, es, rfl, rfl, hT, by have := hT.le; omega⟩
end Go.Cod

namespace Go.Cod
open Go Go.Proofs
set_option linter.all false
set_option maxRecDepth 10000

theorem nL_take (ks : List T) (i : Nat) (h : i < ks.length) : nL (ks.take (i + 1)) = nL (ks.take i) + nT ks[i] := by
  rw [List.take_succ_eq_append_getElem h, nL_append, nL_one]
theorem nL_take_le (ks : List T) (i : Nat) : nL (ks.take i) ≤ nL ks := by
  have := nL_append (ks.take i) (ks.drop i)
  rw [List.take_append_drop] at this; omega
theorem len_nL (ks : List T) : ks.length ≤ nL ks := by
  induction ks with
  | nil => simp [nL]
  | cons t ks ih => have := nT_pos t; simp only [nL, List.length_cons]; omega
theorem postL_take (n : Nat) (ks : List T) (i : Nat) (h : i < ks.length) : postL n (ks.take (i + 1)) = postL n (ks.take i) ++ postT (n + nL (ks.take i)) ks[i] := by
  rw [List.take_succ_eq_append_getElem h, postL_append, postL_one]
def ThN (t : T) (o : Out) (st' : St) : Prop := o = .ret (.own 0) ∧ st' = [⟨thR (postT 0 t), 3, true, true, false, .cell⟩]
def ThO (L : List Th) (t : T) (o : Out) (st' : St) : Prop := o = .ret (.own 1) ∧ st' = [⟨thR L, 3, false, true, false, .cell⟩, ⟨thR (L ++ postT L.length t), 3, true, true, false, .cell⟩]
set_option maxHeartbeats 800000 in
theorem diffThings_own1 (id : Int) (kind text : List UInt8) (kids : List T) (L : List Th) (hs : L.length + nL kids + 1 ≤ 1048576)
    (hT : ∀ t' ∈ kids, ∀ L : List Th, L.length + nT t' ≤ 1048576 → Full Try.prog noY 24 [.own 0, .agg t'.cells] [⟨thR L, 3, true, true, false, .cell⟩] (ThO L t')) :
    Full Try.prog noY 24 [.own 0, .agg (T.mk id kind text kids).cells] [⟨thR L, 3, true, true, false, .cell⟩] (ThO L (.mk id kind text kids)) := by
  have hlr := Go.Cod.rows_len kids
  have hkl := len_nL kids
  have hLl := thR_len L
  have hres : L ++ postT L.length (.mk id kind text kids) = (L ++ postL L.length kids) ++ [⟨kind, text, L.length⟩] := by simp [postT]
  unfold ThO
  rw [hres]
  clear hres
  refine full_of_awp good Try.func24 rfl (by kernel_rfl) (by decide) ?_
  conv => whnf
  refine loop_drop (fun n fr st => ∃ i : Nat, n + i = kids.length ∧
      ((i = 0 ∧ Holds fr [(0, .own 0), (3, .ptr 1 0 0), (5, .int .i64 L.length), (11, .sl (T.rows kids)), (12, .int .i64 kids.length), (13, .int .i64 i)] ∧ st = [⟨thR L, 3, true, true, false, .cell⟩, ⟨[(T.mk id kind text kids).cells], 4, true, true, true, .cell⟩]) ∨
       (0 < i ∧ Holds fr [(0, .own 2), (3, .ptr 1 0 0), (5, .int .i64 L.length), (11, .sl (T.rows kids)), (12, .int .i64 kids.length), (13, .int .i64 i)] ∧ st = [⟨thR L, 3, false, true, false, .cell⟩, ⟨[(T.mk id kind text kids).cells], 4, true, true, true, .cell⟩, ⟨thR (L ++ postL L.length (kids.take i)), 3, true, true, false, .cell⟩]))) kids.length none ?_ ?_
  · exact ⟨0, rfl, .inl ⟨rfl, ⟨rfl, rfl, by rw [← hLl]; rfl, rfl, by rw [← hlr]; rfl, rfl, trivial⟩, rfl⟩⟩
  rintro n fr st ⟨i, hi, ⟨rfl, hh, rfl⟩ | ⟨hi0, hh, rfl⟩⟩
  · obtain ⟨fr, rfl⟩ := hh.split
    clear hh
    conv => whnf
    by_cases hlt : 0 < kids.length
    · rw [ltB_t (by omega)]
      conv => whnf
      have hg := Go.Cod.rows_get kids 0 hlt
      have hc := hT kids[0] (List.getElem_mem _) L
      have hn := nL_take kids 0 hlt
      have hle := nL_take_le kids 1
      have hp := postL_take L.length kids 0 hlt
      simp only [List.take_zero, nL, Nat.zero_add, postL, List.nil_append, Nat.add_zero] at hn hp
      generalize kids[0] = t at hc hg hn hp
      obtain ⟨id', kind', text', kids'⟩ := t
      refine ⟨by omega, T.rows kids, _, 4, rfl, hg, rfl, rfl, ?_⟩
      conv => whnf
      refine ⟨[0], false, ?_⟩
      conv => whnf
      refine (hc (by omega)).mono ?_
      rintro o st' ⟨rfl, rfl⟩
      rw [← hp]
      conv => whnf
      refine ⟨n - 1, by omega, some [0, 1, 3], ?_⟩
      conv => whnf
      exact ⟨1, by omega, .inr ⟨by omega, ⟨rfl, rfl, rfl, rfl, rfl, rfl, trivial⟩, rfl⟩⟩
    · rw [ltB_f (by omega)]
      obtain rfl : kids = [] := List.eq_nil_of_length_eq_zero (by omega)
      conv => whnf
      refine ⟨fun m hm => by rw [List.mem_singleton.1 hm]; rfl, ?_⟩
      conv => whnf
      refine ⟨by show ((thR L).length + 1) * 40 ≤ _; omega, ?_⟩
      conv => whnf
      refine ⟨[3], false, ?_⟩
      conv => whnf
      refine ⟨rfl, ?_⟩
      simp only [postL, List.append_nil, thR_app]
      rfl
  · obtain ⟨fr, rfl⟩ := hh.split
    clear hh
    conv => whnf
    by_cases hlt : i < kids.length
    · rw [ltB_t (by omega)]
      conv => whnf
      have hg := Go.Cod.rows_get kids i hlt
      have hc := hT kids[i] (List.getElem_mem _) (L ++ postL L.length (kids.take i))
      have hn := nL_take kids i hlt
      have hle := nL_take_le kids (i + 1)
      have hp := postL_take L.length kids i hlt
      have hll : (L ++ postL L.length (kids.take i)).length = L.length + nL (kids.take i) := by simp [postL_len]
      rw [hll] at hc
      unfold ThO at hc
      rw [hll] at hc
      simp only [List.append_assoc, ← hp] at hc
      generalize kids[i] = t at hc hg hn
      obtain ⟨id', kind', text', kids'⟩ := t
      generalize L ++ postL L.length (kids.take i) = M at *
      refine ⟨by omega, T.rows kids, _, 4, rfl, hg, rfl, rfl, ?_⟩
      conv => whnf
      refine ⟨[2], false, ?_⟩
      conv => whnf
      refine (hc (by omega)).mono ?_
      rintro o st' ⟨rfl, rfl⟩
      conv => whnf
      refine ⟨n - 1, by omega, some [0, 1, 4], ?_⟩
      conv => whnf
      refine ⟨i + 1, by omega, .inr ⟨by omega, ⟨rfl, rfl, rfl, rfl, rfl, ?_, trivial⟩, rfl⟩⟩
      show V.int .i64 (IntKind.i64.wrap (i + 1)) = _
      rw [wrap64 (by omega) (by omega)]; simp
    · rw [ltB_f (by omega)]
      rw [List.take_of_length_le (by omega)]
      have hll : (thR (L ++ postL L.length kids)).length = L.length + nL kids := by rw [thR_len]; simp [postL_len]
      generalize hM : L ++ postL L.length kids = M at *
      conv => whnf
      refine ⟨fun m hm => by rw [List.mem_singleton.1 hm]; rfl, ?_⟩
      conv => whnf
      refine ⟨by show ((thR M).length + 1) * 40 ≤ _; omega, ?_⟩
      conv => whnf
      refine ⟨[4], false, ?_⟩
      conv => whnf
      refine ⟨rfl, ?_⟩
      rw [thR_app]
      rfl
set_option maxHeartbeats 800000 in
theorem diffThings_nil1 (id : Int) (kind text : List UInt8) (kids : List T) (hs : nL kids + 1 ≤ 1048576)
    (hT0 : ∀ t' ∈ kids, nT t' ≤ 1048576 → Full Try.prog noY 24 [.nils, .agg t'.cells] [] (ThN t'))
    (hT : ∀ t' ∈ kids, ∀ L : List Th, L.length + nT t' ≤ 1048576 → Full Try.prog noY 24 [.own 0, .agg t'.cells] [⟨thR L, 3, true, true, false, .cell⟩] (ThO L t')) :
    Full Try.prog noY 24 [.nils, .agg (T.mk id kind text kids).cells] [] (ThN (.mk id kind text kids)) := by
  have hlr := Go.Cod.rows_len kids
  have hkl := len_nL kids
  have hres : postT 0 (.mk id kind text kids) = postL 0 kids ++ [⟨kind, text, 0⟩] := by simp [postT]
  unfold ThN
  rw [hres]
  clear hres
  refine full_of_awp good Try.func24 rfl (by kernel_rfl) (by decide) ?_
  conv => whnf
  refine loop_drop (fun n fr st => ∃ i : Nat, n + i = kids.length ∧
      ((i = 0 ∧ Holds fr [(0, .nils), (3, .ptr 0 0 0), (5, .int .i64 0), (11, .sl (T.rows kids)), (12, .int .i64 kids.length), (13, .int .i64 i)] ∧ st = [⟨[(T.mk id kind text kids).cells], 4, true, true, true, .cell⟩]) ∨
       (0 < i ∧ Holds fr [(0, .own 1), (3, .ptr 0 0 0), (5, .int .i64 0), (11, .sl (T.rows kids)), (12, .int .i64 kids.length), (13, .int .i64 i)] ∧ st = [⟨[(T.mk id kind text kids).cells], 4, true, true, true, .cell⟩, ⟨thR (postL 0 (kids.take i)), 3, true, true, false, .cell⟩]))) kids.length none ?_ ?_
  · exact ⟨0, rfl, .inl ⟨rfl, ⟨rfl, rfl, rfl, rfl, by rw [← hlr]; rfl, rfl, trivial⟩, rfl⟩⟩
  rintro n fr st ⟨i, hi, ⟨rfl, hh, rfl⟩ | ⟨hi0, hh, rfl⟩⟩
  · obtain ⟨fr, rfl⟩ := hh.split
    clear hh
    conv => whnf
    by_cases hlt : 0 < kids.length
    · rw [ltB_t (by omega)]
      conv => whnf
      have hg := Go.Cod.rows_get kids 0 hlt
      have hc := hT0 kids[0] (List.getElem_mem _)
      have hn := nL_take kids 0 hlt
      have hle := nL_take_le kids 1
      have hp := postL_take 0 kids 0 hlt
      simp only [List.take_zero, nL, Nat.zero_add, postL, List.nil_append, Nat.add_zero] at hn hp
      unfold ThN at hc
      rw [← hp] at hc
      generalize kids[0] = t at hc hg hn
      obtain ⟨id', kind', text', kids'⟩ := t
      refine ⟨by omega, T.rows kids, _, 4, rfl, hg, rfl, rfl, ?_⟩
      conv => whnf
      refine .inr (.inl ⟨[], true, ?_⟩)
      conv => whnf
      refine (hc (by omega)).mono ?_
      rintro o st' ⟨rfl, rfl⟩
      conv => whnf
      refine ⟨n - 1, by omega, some [0, 2], ?_⟩
      conv => whnf
      exact ⟨1, by omega, .inr ⟨by omega, ⟨rfl, rfl, rfl, rfl, rfl, rfl, trivial⟩, rfl⟩⟩
    · rw [ltB_f (by omega)]
      obtain rfl : kids = [] := List.eq_nil_of_length_eq_zero (by omega)
      conv => whnf
      refine ⟨fun m hm => by rw [List.mem_singleton.1 hm]; rfl, ?_⟩
      conv => whnf
      refine ⟨by show 1 * 40 ≤ _; omega, .inr ⟨(by intro e; cases e), ?_⟩⟩
      conv => whnf
      refine ⟨[2], false, ?_⟩
      conv => whnf
      exact ⟨rfl, rfl⟩
  · obtain ⟨fr, rfl⟩ := hh.split
    clear hh
    conv => whnf
    by_cases hlt : i < kids.length
    · rw [ltB_t (by omega)]
      conv => whnf
      have hg := Go.Cod.rows_get kids i hlt
      have hc := hT kids[i] (List.getElem_mem _) (postL 0 (kids.take i))
      have hn := nL_take kids i hlt
      have hle := nL_take_le kids (i + 1)
      have hp := postL_take 0 kids i hlt
      unfold ThO at hc
      rw [postL_len] at hc
      rw [Nat.zero_add] at hp
      rw [← hp] at hc
      generalize kids[i] = t at hc hg hn
      obtain ⟨id', kind', text', kids'⟩ := t
      generalize postL 0 (kids.take i) = M at *
      refine ⟨by omega, T.rows kids, _, 4, rfl, hg, rfl, rfl, ?_⟩
      conv => whnf
      refine ⟨[1], false, ?_⟩
      conv => whnf
      refine (hc (by omega)).mono ?_
      rintro o st' ⟨rfl, rfl⟩
      conv => whnf
      refine ⟨n - 1, by omega, some [0, 3], ?_⟩
      conv => whnf
      refine ⟨i + 1, by omega, .inr ⟨by omega, ⟨rfl, rfl, rfl, rfl, rfl, ?_, trivial⟩, rfl⟩⟩
      show V.int .i64 (IntKind.i64.wrap (i + 1)) = _
      rw [wrap64 (by omega) (by omega)]; simp
    · rw [ltB_f (by omega)]
      rw [List.take_of_length_le (by omega)]
      have hll : (thR (postL 0 kids)).length = nL kids := by rw [thR_len]; simp [postL_len]
      generalize hM : postL 0 kids = M at *
      conv => whnf
      refine ⟨fun m hm => by rw [List.mem_singleton.1 hm]; rfl, ?_⟩
      conv => whnf
      refine ⟨by show ((thR M).length + 1) * 40 ≤ _; omega, ?_⟩
      conv => whnf
      refine ⟨[3], false, ?_⟩
      conv => whnf
      refine ⟨rfl, ?_⟩
      rw [thR_app]
      rfl
theorem diffThings_own (t : T) (ht : t.Small) : ∀ L : List Th, L.length + nT t ≤ 1048576 → Full Try.prog noY 24 [.own 0, .agg t.cells] [⟨thR L, 3, true, true, false, .cell⟩] (ThO L t) := by
  induction ht with
  | @mk id kind text kids g1 g2 g3 g4 g5 ih =>
    intro L hL
    simp only [nT] at hL
    exact diffThings_own1 id kind text kids L (by omega) ih
theorem diffThings_nil (t : T) (ht : t.Small) (hn : nT t ≤ 1048576) : Full Try.prog noY 24 [.nils, .agg t.cells] [] (ThN t) := by
  induction ht with
  | @mk id kind text kids g1 g2 g3 g4 g5 ih =>
    simp only [nT] at hn
    exact diffThings_nil1 id kind text kids hn (fun t' h' h => ih t' h' h) (fun t' h' => diffThings_own t' (g5 t' h'))
end Go.Cod

namespace Go.Cod
open Go Go.Proofs
set_option linter.all false
set_option maxRecDepth 10000

theorem thR_ok (L : List Th) : V.clean.cleanLL 0 (thR L) = true ∧ (∀ e ∈ thR L, ∀ x ∈ e, x.leaf = true) ∧ ∀ e ∈ thR L, ∀ x ∈ e, x.flat = true := by
  have key : ∀ e ∈ thR L, ∃ h : Th, e = h.cells := fun e he => by
    obtain ⟨h, _, rfl⟩ := List.mem_map.1 he
    exact ⟨h, rfl⟩
  refine ⟨?_, fun e he x hx => ?_, fun e he x hx => ?_⟩
  · rw [cleanLL_iff]
    intro e he
    obtain ⟨h, rfl⟩ := key e he
    rfl
  · obtain ⟨h, rfl⟩ := key e he
    simp [Th.cells] at hx
    rcases hx with rfl | rfl | rfl <;> rfl
  · obtain ⟨h, rfl⟩ := key e he
    simp [Th.cells] at hx
    rcases hx with rfl | rfl | rfl <;> rfl
theorem diffThings_pure (t : T) (ht : t.Small) (hn : nT t ≤ 1048576) : Pure Try.prog 24 [.nils, .agg t.cells] (· = .sl (thR (postT 0 t))) := by
  obtain ⟨h1, h2, h3⟩ := thR_ok (postT 0 t)
  refine Full.own_pure (diffThings_nil t ht hn) h1 h2 h3 ?_
  cases t; rfl
end Go.Cod

namespace Go.Cod
open Go Go.Proofs
set_option linter.all false
variable [Lam]

/- The walk of a statement whose order is open, sealed: what comes behind it is proved once. -/
def drawR (P : Program) (ok : OkY) (τ : Tau) (ops : Array Oper) (fr : Nat → V) (st : St) (K : (Nat → V) → St → Prop) (Z : V → (Nat → V) → St → Prop) : Prop := (match hasHand τ ops with
        | true => withMat τ ops fun M CH => Chk (mix2Ok τ M CH ops) (aEOps2 P τ CH ops ops.toList 0 fr st fun fr => forcePlan (planOf M CH ops) fun plan => aXOps P ok τ ops plan K plan [] fr st)
        | false => (match orderOk ops with
          | true => aQOps P τ ops ops.toList fr st fun fr => K fr st
          | false => (match mixOk ops with
            | true => aEOps P τ ops ops.toList 0 fr st fun fr => aCOps P ok τ ops ops.toList 0 fr st K
            | false => withMat τ ops fun M CH => (match mix2Ok τ M CH ops with
              | true => aEOps2 P τ CH ops ops.toList 0 fr st fun fr => forcePlan (planOf M CH ops) fun plan => aXOps P ok τ ops plan K plan [] fr st
              | false => aAny P ok τ ops K Z ops.size [] fr st))))
abbrev WalkA := Program → OkY → Tau → Array Oper → List Oper → (Nat → V) → St → ((Nat → V) → St → Prop) → (V → (Nat → V) → St → Prop) → Prop
abbrev WalkX := Program → OkY → Tau → Array Oper → (Nat → V) → St → ((Nat → V) → St → Prop) → (V → (Nat → V) → St → Prop) → Prop
def awpX (A : WalkA) (X : WalkX) (P : Program) (ok : OkY) (τ : Tau) (nb : Nat) (c : Code) : (Ex → (Nat → V) → St → Prop) → (Nat → V) → St → Prop :=
  Code.rec (motive := fun _ => Nat → (Ex → (Nat → V) → St → Prop) → (Nat → V) → St → Prop)
    (fun _ Q fr st => Q .normal fr st)
    (fun _ ops d _ Q fr st => match d with
      | false => A P ok τ ops ops.toList fr st (Q .normal) (fun v => Q (.pan v))
      | true => X P ok τ ops fr st (Q .normal) (fun v => Q (.pan v)))
    (fun _ _ iha ihb nb Q fr st => iha nb (AThen (ihb nb Q) Q) fr st)
    (fun c _ _ iha ihb nb Q fr st => ACond (ev fr c) (iha nb Q fr st) (ihb nb Q fr st))
    (fun id _ ih nb Q fr st => ih nb (ABlock id Q) fr st)
    (fun _ ih nb Q fr st => ∃ (J : Nat → (Nat → V) → St → Prop) (n : Nat) (flag : Bool) (s0 : Option (List Nat)), cmp nb s0 fr st (J n) ∧
      ∀ n fr st, J n fr st → ih nb (AThen (ALoop nb flag J n) Q) fr st)
    (fun f ps _ _ ihx ihy _ Q fr st => (match ev fr f with
      | .fn g cap => ARange P g cap ps.size (fun Q vs st' => ihx st.length (AThen (ihy st.length Q) fun _ _ _ => False) (setPs ps.toList vs fr) st') Q fr st
      | _ => False))
    (fun id _ Q fr st => Q (.exit id) fr st)
    (fun _ _ _ _ _ _ => False)
    (fun _ _ _ _ _ => False)
    (fun _ _ _ _ _ => False)
    (fun _ Q fr st => Q .ret fr st)
    (fun _ _ _ _ _ => False) c nb
theorem full_of_draw {P : Program} {ok : OkY} {τ : Tau} (hτ : TauGood P τ) {f : FuncId} {fn : Func} {c : Code} {args : List V} {st0 : St} {R : Out → St → Prop}
    (hf : P.funcs[f]? = some fn) (hb : fn.body = some c) (hname : (fn.name == "runtime.NumGoroutine") = false) (hc : codeOk fn.ntmps c = true)
    (h : ∀ X, X = drawR → awpX aOps X P ok τ st0.length c (AEndF τ fn.results.toList st0.length R) (initFr args) st0) : Full P ok f args st0 R := full_of_awp hτ hf hb hname hc (h drawR rfl)
theorem pure_of_draw {P : Program} {τ : Tau} (hτ : TauGood P τ) {f : FuncId} {fn : Func} {c : Code} {args : List V} {R : V → Prop}
    (hf : P.funcs[f]? = some fn) (hb : fn.body = some c) (hname : (fn.name == "runtime.NumGoroutine") = false) (hc : codeOk fn.ntmps c = true)
    (h : ∀ X, X = drawR → awpX aOps X P noY τ 0 c (AEnd τ fn.results.toList R) (initFr args) []) : Pure P f args R := pure_of_awp hτ hf hb hname hc (h drawR rfl)
variable {X : WalkX} {P : Program} {ok : OkY} {τ : Tau} {ops : Array Oper} {fr : Nat → V} {st : St} {K : (Nat → V) → St → Prop} {Z : V → (Nat → V) → St → Prop}
/-- .. with the slots that are still looked at. -/
theorem draw_with (hX : X = drawR) (L : List (Nat × V)) (hh : Holds fr L) (h : ∀ C : (Nat → V) → St → Prop, (∀ fr st, K fr st → C fr st) → ∀ b, drawR P ok τ ops (setL b L) st C Z) : X P ok τ ops fr st K Z := by
  obtain ⟨b, rfl⟩ := hh.split
  rw [hX]
  exact h K (fun _ _ x => x) b
theorem draw_go (hX : X = drawR) (h : drawR P ok τ ops fr st K Z) : X P ok τ ops fr st K Z := by rw [hX]; exact h
end Go.Cod

namespace Go.Cod
open Go Go.Proofs
set_option linter.all false
set_option maxRecDepth 10000

def viewW (n m : Nat) (f : Nat → Nat → Int) : List (List V) := (List.range n).map fun a => [V.sl (numR m (f a))]
theorem viewW_get {n m : Nat} (f : Nat → Nat → Int) {a : Nat} (h : a < n) : (viewW n m f)[a]? = some [.sl (numR m (f a))] := by simp [viewW, h]
theorem viewW_len (n m : Nat) (f : Nat → Nat → Int) : (viewW n m f).length = n := by simp [viewW]
/-- What is known of a table of costs: the rows ahead of x, and of row x the places ahead of y. -/
structure Known (f : Nat → Nat → Int) (d : Nat → Nat → Nat) (r c x y : Nat) : Prop where
  done : ∀ a b, a ≤ r → b ≤ c → (a = 0 ∨ b = 0 ∨ a ≤ x ∨ (a = x + 1 ∧ b ≤ y)) → f a b = d a b
theorem wrapN (n : Nat) (h : n ≤ 1000000) : IntKind.i64.wrap (n : Int) = (n : Int) := wrap64 (by omega) (by omega)
theorem wrapA (n k : Nat) (h : n + k ≤ 1000000) : IntKind.i64.wrap ((n : Int) + (k : Int)) = ((n + k : Nat) : Int) := by rw [← wrapN (n + k) h]; simp
theorem wrapA1 (n : Nat) (h : n + 1 ≤ 1000000) : IntKind.i64.wrap ((n : Int) + 1) = ((n + 1 : Nat) : Int) := by rw [← wrapN (n + 1) h]; simp
theorem wrapS (n k : Nat) (h : n ≤ 1000000) (hk : k ≤ n) : IntKind.i64.wrap ((n : Int) - (k : Int)) = ((n - k : Nat) : Int) := by rw [← wrapN (n - k) (by omega)]; congr 1; omega
set_option maxHeartbeats 8000000 in
theorem diffWhole_run (D E : List Th) (i j left top r c : Nat) (di dj : Th) (g : Nat → Nat → Int) (d : Nat → Nat → Nat) (lD : D.length ≤ 1000) (lE : E.length ≤ 1000) (hi : D[i]? = some di) (hj : E[j]? = some dj) (hl : di.f = left) (ht : dj.f = top)
    (hir : left + r = i + 1) (hjc : top + c = j + 1) (hr1 : 1 ≤ r) (hc1 : 1 ≤ c) (h0 : ∀ x, d x 0 = x) (h1 : ∀ y, d 0 y = y) (hb : ∀ x y, x ≤ r → y ≤ c → d x y ≤ 2000)
    (hf : ∀ x a, x < r → D[left + x]? = some a → left ≤ a.f ∧ a.f ≤ left + x) (hf' : ∀ y b, y < c → E[top + y]? = some b → top ≤ b.f ∧ b.f ≤ top + y)
    (hs1 : ∀ x y a b, x < r → y < c → D[left + x]? = some a → E[top + y]? = some b → (left < a.f ∨ top < b.f) → ∃ w : Nat, g (left + x) (top + y) = w ∧ w ≤ 2000 ∧ d (x + 1) (y + 1) = min (min (d x (y + 1) + 1) (d (x + 1) y + 1)) (d (a.f - left) (b.f - top) + w))
    (hs2 : ∀ x y a b, x < r → y < c → D[left + x]? = some a → E[top + y]? = some b → a.f = left → b.f = top → d (x + 1) (y + 1) = min (min (d x (y + 1) + 1) (d (x + 1) y + 1)) (d x y + unH a b)) :
    Full Try.prog noY 26 [.sl (thR D), .sl (thR E), .int .i64 i, .int .i64 j, .sl (viewW D.length E.length g)] [poolO []] fun o st' => ∃ es, o = .ret (.int .i64 (d r c : Nat)) ∧ st' = [poolO es] := by
  have lhi : i < D.length := (List.getElem?_eq_some_iff.1 hi).1
  have lhj : j < E.length := (List.getElem?_eq_some_iff.1 hj).1
  have hti := thR_get hi
  have htj := thR_get hj
  obtain ⟨dik, dit, dif⟩ := di
  obtain ⟨djk, djt, djf⟩ := dj
  simp only at hl ht
  subst hl; subst ht
  have hdt := diffTable_new (r + 1) (c + 1) (by omega) (by omega)
  refine full_of_draw good Try.func26 rfl (by kernel_rfl) (by decide) fun X hX => ?_
  conv => whnf
  refine draw_go hX ?_
  conv => whnf
  refine ⟨by omega, _, _, 3, rfl, hti, rfl, rfl, ?_⟩
  conv => whnf
  refine ⟨by omega, _, _, 3, rfl, htj, rfl, rfl, ?_⟩
  conv => whnf
  rw [wrapS i dif (by omega) (by omega), wrapS j djf (by omega) (by omega), wrapA1 _ (by omega), wrapA1 _ (by omega), show i - dif + 1 = r by omega, show j - djf + 1 = c by omega]
  rw [wrapA1 r (by omega), wrapA1 c (by omega)]
  refine .inr (.inl ⟨[0], false, ?_⟩)
  conv => whnf
  refine hdt.mono ?_
  rintro o st' ⟨b, bs, es, rfl, rfl, hT, hbl⟩
  clear hdt hti htj
  have hw1 : V.int .i64 (IntKind.i64.wrap (r + 1)) = .int .i64 (r + 1 : Nat) := by rw [wrapA1 r (by omega)]
  have hw2 : V.int .i64 (IntKind.i64.wrap (c + 1)) = .int .i64 (c + 1 : Nat) := by rw [wrapA1 c (by omega)]
  conv => whnf
  -- the first column
  refine loop_drop (fun n fr st => ∃ (k : Nat) (es : List (List V)) (f : Nat → Nat → Int), n + k = r + 1 ∧ st = [poolO es] ∧ Tab es b (r + 1) bs (c + 1) f ∧ (∀ x, x < k → f x 0 = x) ∧
      Holds fr [(0, .sl (thR D)), (1, .sl (thR E)), (4, .sl (viewW D.length E.length g)), (11, .int .i64 dif), (12, .int .i64 djf), (13, .int .i64 r), (14, .int .i64 c), (15, .dref b (r + 1) (r + 1)), (47, .int .i64 (r + 1 : Nat)), (48, .int .i64 k)]) (r + 1) none ?_ ?_
  · exact ⟨0, es, _, rfl, rfl, hT, (fun x hx => absurd hx (Nat.not_lt_zero _)), rfl, rfl, rfl, rfl, rfl, rfl, rfl, rfl, hw1, rfl, trivial⟩
  clear hT es
  rintro n fr st ⟨k, es, f, hk, rfl, hT, hF, hh⟩
  obtain ⟨fr, rfl⟩ := hh.split
  clear hh
  conv => whnf
  by_cases hlt : k < r + 1
  · rw [ltB_t (by omega)]
    conv => whnf
    obtain ⟨x, hx, hx1, hx2⟩ := hT.at (i := k) (by omega)
    refine ⟨by omega, by omega, ?_⟩
    conv => whnf
    refine ⟨0, r + 1, _, _, hT.root, hx1, ?_⟩
    conv => whnf
    refine ⟨by omega, by omega, ?_⟩
    conv => whnf
    refine ⟨0, c + 1, _, _, _, hx2, numR_get _ (by omega), rfl, ?_⟩
    conv => whnf
    refine ⟨n - 1, by omega, none, k + 1, _, _, by omega, rfl, hT.put hx 0 k, ?_, rfl, rfl, rfl, rfl, rfl, rfl, rfl, rfl, rfl, ?_, trivial⟩
    · intro x hx
      unfold upd2
      by_cases e : x = k
      · subst e; simp
      · rw [if_neg (fun h => e h.1)]; exact hF x (by omega)
    · show V.int .i64 (IntKind.i64.wrap (k + 1)) = _
      rw [wrapA1 k (by omega)]
  rw [ltB_f (by omega)]
  conv => whnf
  -- the first row
  replace hF : ∀ x, x < r + 1 → f x 0 = x := fun x hx => hF x (by omega)
  clear hlt hk
  refine loop_drop (fun n fr st => ∃ (k : Nat) (es : List (List V)) (f : Nat → Nat → Int), n + k = c + 1 ∧ st = [poolO es] ∧ Tab es b (r + 1) bs (c + 1) f ∧ (∀ x, x < r + 1 → f x 0 = x) ∧ (∀ y, y < k → f 0 y = y) ∧
      Holds fr [(0, .sl (thR D)), (1, .sl (thR E)), (4, .sl (viewW D.length E.length g)), (11, .int .i64 dif), (12, .int .i64 djf), (13, .int .i64 r), (14, .int .i64 c), (15, .dref b (r + 1) (r + 1)), (59, .int .i64 (c + 1 : Nat)), (60, .int .i64 k)]) (c + 1) none ?_ ?_
  · exact ⟨0, es, f, rfl, rfl, hT, hF, (fun x hx => absurd hx (Nat.not_lt_zero _)), rfl, rfl, rfl, rfl, rfl, rfl, rfl, rfl, hw2, rfl, trivial⟩
  clear hT hF es f fr
  rintro n fr st ⟨k, es, f, hk, rfl, hT, hF, hG, hh⟩
  obtain ⟨fr, rfl⟩ := hh.split
  clear hh
  conv => whnf
  by_cases hlt : k < c + 1
  · rw [ltB_t (by omega)]
    conv => whnf
    obtain ⟨x, hx, hx1, hx2⟩ := hT.at (i := 0) (by omega)
    refine ⟨by omega, by omega, ?_⟩
    conv => whnf
    refine ⟨0, r + 1, _, _, hT.root, hx1, ?_⟩
    conv => whnf
    refine ⟨by omega, by omega, ?_⟩
    conv => whnf
    refine ⟨0, c + 1, _, _, _, hx2, numR_get _ hlt, rfl, ?_⟩
    conv => whnf
    refine ⟨n - 1, by omega, none, k + 1, _, _, by omega, rfl, hT.put hx k k, ?_, ?_, rfl, rfl, rfl, rfl, rfl, rfl, rfl, rfl, rfl, ?_, trivial⟩
    · intro x hx
      unfold upd2
      by_cases e : x = 0 ∧ 0 = k
      · rw [if_pos e]; omega
      · rw [if_neg e]; exact hF x hx
    · intro y hy
      unfold upd2
      by_cases e : y = k
      · subst e; simp
      · rw [if_neg (fun h => e h.2)]; exact hG y (by omega)
    · show V.int .i64 (IntKind.i64.wrap (k + 1)) = _
      rw [wrapA1 k (by omega)]
  rw [ltB_f (by omega)]
  conv => whnf
  have hK : Known f d r c 0 0 := ⟨fun a b ha hb h => by
    rcases h with rfl | rfl | h | ⟨rfl, h⟩
    · rw [h1]; exact hG b (by omega)
    · rw [h0]; exact hF a (by omega)
    · obtain rfl : a = 0 := by omega
      rw [h1]; exact hG b (by omega)
    · obtain rfl : b = 0 := by omega
      rw [h0]; exact hF _ (by omega)⟩
  clear hlt hk hF hG
  -- row by row
  refine loop_drop (fun n fr st => ∃ (k : Nat) (es : List (List V)) (f : Nat → Nat → Int), n + k = r ∧ st = [poolO es] ∧ Tab es b (r + 1) bs (c + 1) f ∧ Known f d r c k 0 ∧
      Holds fr [(0, .sl (thR D)), (1, .sl (thR E)), (4, .sl (viewW D.length E.length g)), (11, .int .i64 dif), (12, .int .i64 djf), (13, .int .i64 r), (14, .int .i64 c), (15, .dref b (r + 1) (r + 1)), (70, .int .i64 r), (71, .int .i64 k)]) r none ?_ ?_
  · exact ⟨0, es, f, rfl, rfl, hT, hK, rfl, rfl, rfl, rfl, rfl, rfl, rfl, rfl, rfl, rfl, trivial⟩
  clear hT hK es f fr
  rintro n fr st ⟨k, es, f, hk, rfl, hT, hK, hh⟩
  obtain ⟨fr, rfl⟩ := hh.split
  clear hh
  conv => whnf
  by_cases hlt : k < r
  · rw [ltB_t (by omega)]
    conv => whnf
    refine loop_drop (fun n fr st => ∃ (l : Nat) (es : List (List V)) (f : Nat → Nat → Int), n + l = c ∧ st = [poolO es] ∧ Tab es b (r + 1) bs (c + 1) f ∧ Known f d r c k l ∧
      Holds fr [(0, .sl (thR D)), (1, .sl (thR E)), (4, .sl (viewW D.length E.length g)), (11, .int .i64 dif), (12, .int .i64 djf), (13, .int .i64 r), (14, .int .i64 c), (15, .dref b (r + 1) (r + 1)), (18, .int .i64 k), (70, .int .i64 r), (71, .int .i64 k), (74, .int .i64 c), (75, .int .i64 l)]) c none ?_ ?_
    · exact ⟨0, es, f, rfl, rfl, hT, hK, rfl, rfl, rfl, rfl, rfl, rfl, rfl, rfl, rfl, rfl, rfl, rfl, rfl, trivial⟩
    clear hT hK es f fr
    rintro m fr st ⟨l, es, f, hl, rfl, hT, hK, hh⟩
    obtain ⟨fr, rfl⟩ := hh.split
    clear hh
    conv => whnf
    by_cases hltc : l < c
    · rw [ltB_t (by omega)]
      conv => whnf
      obtain ⟨was, hwas⟩ : ∃ a, D[dif + k]? = some a := ⟨_, List.getElem?_eq_getElem (by omega)⟩
      obtain ⟨is, his⟩ : ∃ a, E[djf + l]? = some a := ⟨_, List.getElem?_eq_getElem (by omega)⟩
      have e1 := hf k was hlt hwas
      have e2 := hf' l is hltc his
      have e3 := hs1 k l was is hlt hltc hwas his
      have e4 := hs2 k l was is hlt hltc hwas his
      have hun := diffUnlike_pure was is
      have htw := thR_get hwas
      have hti := thR_get his
      obtain ⟨wk, wt, wf⟩ := was
      obtain ⟨ik, it, jf⟩ := is
      simp only at e1 e2 e3 e4
      refine draw_with hX [(0, .sl (thR D)), (1, .sl (thR E)), (4, .sl (viewW D.length E.length g)), (11, .int .i64 dif), (12, .int .i64 djf), (13, .int .i64 r), (14, .int .i64 c), (15, .dref b (r + 1) (r + 1)), (18, .int .i64 k), (19, .int .i64 l), (70, .int .i64 r), (71, .int .i64 k), (74, .int .i64 c), (75, .int .i64 l)] ⟨rfl, rfl, rfl, rfl, rfl, rfl, rfl, rfl, rfl, rfl, rfl, rfl, rfl, rfl, trivial⟩ fun C hC fr => ?_
      have hwk := wrapA dif k (by omega)
      have hwl := wrapA djf l (by omega)
      have key : ∀ fr st, (Holds fr [(0, .sl (thR D)), (1, .sl (thR E)), (4, .sl (viewW D.length E.length g)), (11, .int .i64 dif), (12, .int .i64 djf), (13, .int .i64 r), (14, .int .i64 c), (15, .dref b (r + 1) (r + 1)), (18, .int .i64 k), (19, .int .i64 l), (20, .ptr 1 0 0), (21, .ptr 2 0 0), (70, .int .i64 r), (71, .int .i64 k), (74, .int .i64 c), (75, .int .i64 l)] ∧
            st = [poolO es, ⟨[[.str wk, .str wt, .int .i64 wf]], 3, true, true, true, .cell⟩, ⟨[[.str ik, .str it, .int .i64 jf]], 3, true, true, true, .cell⟩]) ∨
          (Holds fr [(0, .sl (thR D)), (1, .sl (thR E)), (4, .sl (viewW D.length E.length g)), (11, .int .i64 dif), (12, .int .i64 djf), (13, .int .i64 r), (14, .int .i64 c), (15, .dref b (r + 1) (r + 1)), (18, .int .i64 k), (19, .int .i64 l), (20, .ptr 2 0 0), (21, .ptr 1 0 0), (70, .int .i64 r), (71, .int .i64 k), (74, .int .i64 c), (75, .int .i64 l)] ∧
            st = [poolO es, ⟨[[.str ik, .str it, .int .i64 jf]], 3, true, true, true, .cell⟩, ⟨[[.str wk, .str wt, .int .i64 wf]], 3, true, true, true, .cell⟩]) → C fr st := by
        rintro fr st hJ
        refine hC _ _ ?_
        clear hC
        obtain ⟨xk, hx0, hx1, hx2⟩ := hT.at (i := k) (by omega)
        obtain ⟨xk', hy0, hy1, hy2⟩ := hT.at (i := k + 1) (by omega)
        obtain ⟨xf, hz0, hz1, hz2⟩ := hT.at (i := wf - dif) (by omega)
        have hwk1 := wrapA1 k (by omega)
        have hwl1 := wrapA1 l (by omega)
        have hws1 := wrapS wf dif (by omega) (by omega)
        have hws2 := wrapS jf djf (by omega) (by omega)
        have k1 := hK.done k l (by omega) (by omega) (by omega)
        have k2 := hK.done k (l + 1) (by omega) (by omega) (by omega)
        have k3 := hK.done (k + 1) l (by omega) (by omega) (by omega)
        have k4 := hK.done (wf - dif) (jf - djf) (by omega) (by omega) (by omega)
        have b1 := hb k l (by omega) (by omega)
        have b2 := hb k (l + 1) (by omega) (by omega)
        have b3 := hb (k + 1) l (by omega) (by omega)
        have b4 := hb (wf - dif) (jf - djf) (by omega) (by omega)
        have bu : unH ⟨wk, wt, wf⟩ ⟨ik, it, jf⟩ ≤ 1 := by unfold unH; split <;> omega
        have hgw := viewW_get (m := E.length) g (show dif + k < D.length by omega)
        have hgn := numR_get (g (dif + k)) (show djf + l < E.length by omega)
        rcases hJ with ⟨hh, rfl⟩ | ⟨hh, rfl⟩
        all_goals
          obtain ⟨fr, rfl⟩ := hh.split
          clear hh
          conv => whnf
          refine draw_go hX ?_
          conv => whnf
          refine ⟨by omega, by omega, ?_⟩
          conv => whnf
          refine ⟨0, r + 1, _, _, hT.root, hx1, ?_⟩
          conv => whnf
          refine ⟨by omega, by omega, ?_⟩
          conv => whnf
          refine ⟨0, c + 1, _, _, hx2, numR_get _ (by omega), ?_⟩
          conv => whnf
          refine ⟨_, .inl hun, ?_⟩
          conv => whnf
          have hval : ∀ v : Nat, d (k + 1) (l + 1) = min (min (d k (l + 1) + 1) (d (k + 1) l + 1)) v → mn (mn (v : Int) (IntKind.i64.wrap (f k (l + 1) + 1))) (IntKind.i64.wrap (f (k + 1) l + 1)) = d (k + 1) (l + 1) := fun v hv => by
            rw [k2, k3, wrapA1 _ (by omega), wrapA1 _ (by omega)]
            unfold mn; split <;> split <;> omega
          have hfin : ∃ v : Nat, v ≤ 4000 ∧ d (k + 1) (l + 1) = min (min (d k (l + 1) + 1) (d (k + 1) l + 1)) v ∧ ((dif < wf ∨ djf < jf) → IntKind.i64.wrap (f (wf - dif) (jf - djf) + g (dif + k) (djf + l)) = v) ∧ (¬ (dif < wf ∨ djf < jf) → IntKind.i64.wrap (f k l + unH ⟨wk, wt, wf⟩ ⟨ik, it, jf⟩) = v) := by
            by_cases a : dif < wf ∨ djf < jf
            · obtain ⟨w, w1, w2, w3⟩ := e3 a
              exact ⟨_, by omega, w3, (fun _ => by rw [k4, w1, wrapA _ _ (by omega)]), fun h => absurd a h⟩
            · exact ⟨_, by omega, e4 (by omega) (by omega), (fun h => absurd h a), fun _ => by rw [k1, wrapA _ _ (by omega)]⟩
          obtain ⟨v, hv1, hv2, hv3, hv4⟩ := hfin
          have hvv := hval v hv2
          clear hval hv2 e3 e4 k1 k2 k3 k4
          by_cases a1 : dif < wf
          · rw [ltB_t (by omega)]
            conv => whnf
            refine draw_go hX ?_
            conv => whnf
            refine ⟨by rw [hws1]; omega, by rw [hws1]; omega, ?_⟩
            conv => whnf
            refine ⟨0, r + 1, _, _, hT.root, by rw [hws1]; exact hz1, ?_⟩
            conv => whnf
            refine ⟨by rw [hws2]; omega, by rw [hws2]; omega, ?_⟩
            conv => whnf
            refine ⟨0, c + 1, _, _, hz2, by rw [hws2]; exact numR_get _ (by omega), ?_⟩
            conv => whnf
            refine ⟨by rw [hwk]; omega, _, _, 1, rfl, by rw [hwk]; exact hgw, rfl, rfl, ?_⟩
            conv => whnf
            refine ⟨by rw [hwl]; omega, _, _, 1, rfl, by rw [hwl]; exact hgn, rfl, rfl, ?_⟩
            conv => whnf
            refine draw_with hX [(0, .sl (thR D)), (1, .sl (thR E)), (4, .sl (viewW D.length E.length g)), (11, .int .i64 dif), (12, .int .i64 djf), (13, .int .i64 r), (14, .int .i64 c), (15, .dref b (r + 1) (r + 1)), (18, .int .i64 k), (19, .int .i64 l), (22, .int .i64 v), (70, .int .i64 r), (71, .int .i64 k), (74, .int .i64 c), (75, .int .i64 l)] ⟨rfl, rfl, rfl, rfl, rfl, rfl, rfl, rfl, rfl, rfl, congrArg (V.int .i64) (hv3 (.inl a1)), rfl, rfl, rfl, rfl, trivial⟩ fun C hC fr => ?_
            have hend : ∀ fr st, (∃ (a1 a2 b1 b2 : List UInt8) (a3 b3 : Int) (o3 : List (List V)) (o4 : Bool), st = [poolO (putEnt xk' ((numR (c + 1) (f (k + 1))).set (l + 1) [.int .i64 (mn (mn (v : Int) (IntKind.i64.wrap (f k (l + 1) + 1))) (IntKind.i64.wrap (f (k + 1) l + 1)))]) es), ⟨[[.str a1, .str a2, .int .i64 a3]], 3, true, true, true, .cell⟩, ⟨[[.str b1, .str b2, .int .i64 b3]], 3, true, true, true, .cell⟩, ⟨o3, 1, true, o4, false, .cell⟩]) ∧ Holds fr [(0, .sl (thR D)), (1, .sl (thR E)), (4, .sl (viewW D.length E.length g)), (11, .int .i64 dif), (12, .int .i64 djf), (13, .int .i64 r), (14, .int .i64 c), (15, .dref b (r + 1) (r + 1)), (18, .int .i64 k), (70, .int .i64 r), (71, .int .i64 k), (74, .int .i64 c), (75, .int .i64 l)] → C fr st := by
              rintro fr st ⟨⟨a1, a2, b1, b2, a3, b3, o3, o4, rfl⟩, hh⟩
              obtain ⟨fr, rfl⟩ := hh.split
              refine hC _ _ ?_
              clear hC hh
              conv => whnf
              refine ⟨m - 1, by omega, some [0], ?_⟩
              conv => whnf
              refine ⟨l + 1, _, _, by omega, rfl, hT.put hy0 (l + 1) _, ⟨fun x y hx hy h => ?_⟩, rfl, rfl, rfl, rfl, rfl, rfl, rfl, rfl, rfl, rfl, rfl, rfl, ?_, trivial⟩
              · unfold upd2
                by_cases e : x = k + 1 ∧ y = l + 1
                · rw [if_pos e, e.1, e.2]; exact hvv
                · rw [if_neg e]; exact hK.done x y hx hy (by omega)
              · show V.int .i64 (IntKind.i64.wrap (l + 1)) = _
                rw [wrapA1 l (by omega)]
            conv => whnf
            refine ⟨by rw [hwk1]; omega, by rw [hwk1]; omega, ?_⟩
            conv => whnf
            refine ⟨0, r + 1, _, _, hT.root, by rw [hwk1]; exact hy1, ?_⟩
            conv => whnf
            refine ⟨by omega, by omega, ?_⟩
            conv => whnf
            refine ⟨0, r + 1, _, _, hT.root, hx1, ?_⟩
            conv => whnf
            refine ⟨by rw [hwl1]; omega, by rw [hwl1]; omega, ?_⟩
            conv => whnf
            refine ⟨0, c + 1, _, _, hx2, by rw [hwl1]; exact numR_get _ (by omega), ?_⟩
            conv => whnf
            refine ⟨by rw [hwk1]; omega, by rw [hwk1]; omega, ?_⟩
            conv => whnf
            refine ⟨0, r + 1, _, _, hT.root, by rw [hwk1]; exact hy1, ?_⟩
            conv => whnf
            refine ⟨by omega, by omega, ?_⟩
            conv => whnf
            refine ⟨0, c + 1, _, _, hy2, numR_get _ (by omega), ?_⟩
            conv => whnf
            refine ⟨[], false, ?_⟩
            conv => whnf
            refine Full.mono (least_pure v (IntKind.i64.wrap (f k (l + 1) + 1)) (IntKind.i64.wrap (f (k + 1) l + 1))) ?_
            rintro o st' ⟨rfl, rr, rfl, rfl⟩
            conv => whnf
            refine And.intro (by (conv => whnf); exact ⟨by rw [hwk1]; omega, by rw [hwk1]; omega, rfl⟩) ?_
            conv => whnf
            refine And.intro (by (conv => whnf); exact ⟨0, r + 1, rootR (r + 1) bs (c + 1), [.dref xk' (c + 1) (c + 1)], hT.root, by rw [hwk1]; exact hy1, rfl⟩) ?_
            conv => whnf
            refine ⟨by rw [hwl1]; omega, by rw [hwl1]; omega, ?_⟩
            conv => whnf
            refine ⟨0, c + 1, _, _, putEnt xk' ((numR (c + 1) (f (k + 1))).set (l + 1) [.int .i64 (mn (mn (v : Int) (IntKind.i64.wrap (f k (l + 1) + 1))) (IntKind.i64.wrap (f (k + 1) l + 1)))]) es, hy2, by rw [hwl1]; exact numR_get _ (by omega), by rw [hwl1]; rfl, ?_⟩
            conv => whnf
            refine hend _ _ ⟨⟨_, _, _, _, _, _, _, _, rfl⟩, rfl, rfl, rfl, rfl, rfl, rfl, rfl, rfl, rfl, rfl, rfl, rfl, rfl, trivial⟩
          · rw [ltB_f (by omega)]
            conv => whnf
            by_cases a2 : djf < jf
            · rw [ltB_t (by omega)]
              conv => whnf
              refine draw_go hX ?_
              conv => whnf
              refine ⟨by rw [hws1]; omega, by rw [hws1]; omega, ?_⟩
              conv => whnf
              refine ⟨0, r + 1, _, _, hT.root, by rw [hws1]; exact hz1, ?_⟩
              conv => whnf
              refine ⟨by rw [hws2]; omega, by rw [hws2]; omega, ?_⟩
              conv => whnf
              refine ⟨0, c + 1, _, _, hz2, by rw [hws2]; exact numR_get _ (by omega), ?_⟩
              conv => whnf
              refine ⟨by rw [hwk]; omega, _, _, 1, rfl, by rw [hwk]; exact hgw, rfl, rfl, ?_⟩
              conv => whnf
              refine ⟨by rw [hwl]; omega, _, _, 1, rfl, by rw [hwl]; exact hgn, rfl, rfl, ?_⟩
              conv => whnf
              refine draw_with hX [(0, .sl (thR D)), (1, .sl (thR E)), (4, .sl (viewW D.length E.length g)), (11, .int .i64 dif), (12, .int .i64 djf), (13, .int .i64 r), (14, .int .i64 c), (15, .dref b (r + 1) (r + 1)), (18, .int .i64 k), (19, .int .i64 l), (22, .int .i64 v), (70, .int .i64 r), (71, .int .i64 k), (74, .int .i64 c), (75, .int .i64 l)] ⟨rfl, rfl, rfl, rfl, rfl, rfl, rfl, rfl, rfl, rfl, congrArg (V.int .i64) (hv3 (.inr a2)), rfl, rfl, rfl, rfl, trivial⟩ fun C hC fr => ?_
              have hend : ∀ fr st, (∃ (a1 a2 b1 b2 : List UInt8) (a3 b3 : Int) (o3 : List (List V)) (o4 : Bool), st = [poolO (putEnt xk' ((numR (c + 1) (f (k + 1))).set (l + 1) [.int .i64 (mn (mn (v : Int) (IntKind.i64.wrap (f k (l + 1) + 1))) (IntKind.i64.wrap (f (k + 1) l + 1)))]) es), ⟨[[.str a1, .str a2, .int .i64 a3]], 3, true, true, true, .cell⟩, ⟨[[.str b1, .str b2, .int .i64 b3]], 3, true, true, true, .cell⟩, ⟨o3, 1, true, o4, false, .cell⟩]) ∧ Holds fr [(0, .sl (thR D)), (1, .sl (thR E)), (4, .sl (viewW D.length E.length g)), (11, .int .i64 dif), (12, .int .i64 djf), (13, .int .i64 r), (14, .int .i64 c), (15, .dref b (r + 1) (r + 1)), (18, .int .i64 k), (70, .int .i64 r), (71, .int .i64 k), (74, .int .i64 c), (75, .int .i64 l)] → C fr st := by
                rintro fr st ⟨⟨a1, a2, b1, b2, a3, b3, o3, o4, rfl⟩, hh⟩
                obtain ⟨fr, rfl⟩ := hh.split
                refine hC _ _ ?_
                clear hC hh
                conv => whnf
                refine ⟨m - 1, by omega, some [0], ?_⟩
                conv => whnf
                refine ⟨l + 1, _, _, by omega, rfl, hT.put hy0 (l + 1) _, ⟨fun x y hx hy h => ?_⟩, rfl, rfl, rfl, rfl, rfl, rfl, rfl, rfl, rfl, rfl, rfl, rfl, ?_, trivial⟩
                · unfold upd2
                  by_cases e : x = k + 1 ∧ y = l + 1
                  · rw [if_pos e, e.1, e.2]; exact hvv
                  · rw [if_neg e]; exact hK.done x y hx hy (by omega)
                · show V.int .i64 (IntKind.i64.wrap (l + 1)) = _
                  rw [wrapA1 l (by omega)]
              conv => whnf
              refine ⟨by rw [hwk1]; omega, by rw [hwk1]; omega, ?_⟩
              conv => whnf
              refine ⟨0, r + 1, _, _, hT.root, by rw [hwk1]; exact hy1, ?_⟩
              conv => whnf
              refine ⟨by omega, by omega, ?_⟩
              conv => whnf
              refine ⟨0, r + 1, _, _, hT.root, hx1, ?_⟩
              conv => whnf
              refine ⟨by rw [hwl1]; omega, by rw [hwl1]; omega, ?_⟩
              conv => whnf
              refine ⟨0, c + 1, _, _, hx2, by rw [hwl1]; exact numR_get _ (by omega), ?_⟩
              conv => whnf
              refine ⟨by rw [hwk1]; omega, by rw [hwk1]; omega, ?_⟩
              conv => whnf
              refine ⟨0, r + 1, _, _, hT.root, by rw [hwk1]; exact hy1, ?_⟩
              conv => whnf
              refine ⟨by omega, by omega, ?_⟩
              conv => whnf
              refine ⟨0, c + 1, _, _, hy2, numR_get _ (by omega), ?_⟩
              conv => whnf
              refine ⟨[], false, ?_⟩
              conv => whnf
              refine Full.mono (least_pure v (IntKind.i64.wrap (f k (l + 1) + 1)) (IntKind.i64.wrap (f (k + 1) l + 1))) ?_
              rintro o st' ⟨rfl, rr, rfl, rfl⟩
              conv => whnf
              refine And.intro (by (conv => whnf); exact ⟨by rw [hwk1]; omega, by rw [hwk1]; omega, rfl⟩) ?_
              conv => whnf
              refine And.intro (by (conv => whnf); exact ⟨0, r + 1, rootR (r + 1) bs (c + 1), [.dref xk' (c + 1) (c + 1)], hT.root, by rw [hwk1]; exact hy1, rfl⟩) ?_
              conv => whnf
              refine ⟨by rw [hwl1]; omega, by rw [hwl1]; omega, ?_⟩
              conv => whnf
              refine ⟨0, c + 1, _, _, putEnt xk' ((numR (c + 1) (f (k + 1))).set (l + 1) [.int .i64 (mn (mn (v : Int) (IntKind.i64.wrap (f k (l + 1) + 1))) (IntKind.i64.wrap (f (k + 1) l + 1)))]) es, hy2, by rw [hwl1]; exact numR_get _ (by omega), by rw [hwl1]; rfl, ?_⟩
              conv => whnf
              refine hend _ _ ⟨⟨_, _, _, _, _, _, _, _, rfl⟩, rfl, rfl, rfl, rfl, rfl, rfl, rfl, rfl, rfl, rfl, rfl, rfl, rfl, trivial⟩
            · rw [ltB_f (by omega)]
              conv => whnf
              refine draw_with hX [(0, .sl (thR D)), (1, .sl (thR E)), (4, .sl (viewW D.length E.length g)), (11, .int .i64 dif), (12, .int .i64 djf), (13, .int .i64 r), (14, .int .i64 c), (15, .dref b (r + 1) (r + 1)), (18, .int .i64 k), (19, .int .i64 l), (22, .int .i64 v), (70, .int .i64 r), (71, .int .i64 k), (74, .int .i64 c), (75, .int .i64 l)] ⟨rfl, rfl, rfl, rfl, rfl, rfl, rfl, rfl, rfl, rfl, congrArg (V.int .i64) (hv4 (by omega)), rfl, rfl, rfl, rfl, trivial⟩ fun C hC fr => ?_
              have hend : ∀ fr st, (∃ (a1 a2 b1 b2 : List UInt8) (a3 b3 : Int) (o3 : List (List V)) (o4 : Bool), st = [poolO (putEnt xk' ((numR (c + 1) (f (k + 1))).set (l + 1) [.int .i64 (mn (mn (v : Int) (IntKind.i64.wrap (f k (l + 1) + 1))) (IntKind.i64.wrap (f (k + 1) l + 1)))]) es), ⟨[[.str a1, .str a2, .int .i64 a3]], 3, true, true, true, .cell⟩, ⟨[[.str b1, .str b2, .int .i64 b3]], 3, true, true, true, .cell⟩, ⟨o3, 1, true, o4, false, .cell⟩]) ∧ Holds fr [(0, .sl (thR D)), (1, .sl (thR E)), (4, .sl (viewW D.length E.length g)), (11, .int .i64 dif), (12, .int .i64 djf), (13, .int .i64 r), (14, .int .i64 c), (15, .dref b (r + 1) (r + 1)), (18, .int .i64 k), (70, .int .i64 r), (71, .int .i64 k), (74, .int .i64 c), (75, .int .i64 l)] → C fr st := by
                rintro fr st ⟨⟨a1, a2, b1, b2, a3, b3, o3, o4, rfl⟩, hh⟩
                obtain ⟨fr, rfl⟩ := hh.split
                refine hC _ _ ?_
                clear hC hh
                conv => whnf
                refine ⟨m - 1, by omega, some [0], ?_⟩
                conv => whnf
                refine ⟨l + 1, _, _, by omega, rfl, hT.put hy0 (l + 1) _, ⟨fun x y hx hy h => ?_⟩, rfl, rfl, rfl, rfl, rfl, rfl, rfl, rfl, rfl, rfl, rfl, rfl, ?_, trivial⟩
                · unfold upd2
                  by_cases e : x = k + 1 ∧ y = l + 1
                  · rw [if_pos e, e.1, e.2]; exact hvv
                  · rw [if_neg e]; exact hK.done x y hx hy (by omega)
                · show V.int .i64 (IntKind.i64.wrap (l + 1)) = _
                  rw [wrapA1 l (by omega)]
              conv => whnf
              refine ⟨by rw [hwk1]; omega, by rw [hwk1]; omega, ?_⟩
              conv => whnf
              refine ⟨0, r + 1, _, _, hT.root, by rw [hwk1]; exact hy1, ?_⟩
              conv => whnf
              refine ⟨by omega, by omega, ?_⟩
              conv => whnf
              refine ⟨0, r + 1, _, _, hT.root, hx1, ?_⟩
              conv => whnf
              refine ⟨by rw [hwl1]; omega, by rw [hwl1]; omega, ?_⟩
              conv => whnf
              refine ⟨0, c + 1, _, _, hx2, by rw [hwl1]; exact numR_get _ (by omega), ?_⟩
              conv => whnf
              refine ⟨by rw [hwk1]; omega, by rw [hwk1]; omega, ?_⟩
              conv => whnf
              refine ⟨0, r + 1, _, _, hT.root, by rw [hwk1]; exact hy1, ?_⟩
              conv => whnf
              refine ⟨by omega, by omega, ?_⟩
              conv => whnf
              refine ⟨0, c + 1, _, _, hy2, numR_get _ (by omega), ?_⟩
              conv => whnf
              refine ⟨[], false, ?_⟩
              conv => whnf
              refine Full.mono (least_pure v (IntKind.i64.wrap (f k (l + 1) + 1)) (IntKind.i64.wrap (f (k + 1) l + 1))) ?_
              rintro o st' ⟨rfl, rr, rfl, rfl⟩
              conv => whnf
              refine And.intro (by (conv => whnf); exact ⟨by rw [hwk1]; omega, by rw [hwk1]; omega, rfl⟩) ?_
              conv => whnf
              refine And.intro (by (conv => whnf); exact ⟨0, r + 1, rootR (r + 1) bs (c + 1), [.dref xk' (c + 1) (c + 1)], hT.root, by rw [hwk1]; exact hy1, rfl⟩) ?_
              conv => whnf
              refine ⟨by rw [hwl1]; omega, by rw [hwl1]; omega, ?_⟩
              conv => whnf
              refine ⟨0, c + 1, _, _, putEnt xk' ((numR (c + 1) (f (k + 1))).set (l + 1) [.int .i64 (mn (mn (v : Int) (IntKind.i64.wrap (f k (l + 1) + 1))) (IntKind.i64.wrap (f (k + 1) l + 1)))]) es, hy2, by rw [hwl1]; exact numR_get _ (by omega), by rw [hwl1]; rfl, ?_⟩
              conv => whnf
              refine hend _ _ ⟨⟨_, _, _, _, _, _, _, _, rfl⟩, rfl, rfl, rfl, rfl, rfl, rfl, rfl, rfl, rfl, rfl, rfl, rfl, rfl, trivial⟩
      conv => whnf
      repeat' (first
        | (refine ⟨by rw [hwk]; omega, thR D, _, 3, rfl, (by rw [hwk]; exact htw), rfl, rfl, ?_⟩
           conv => whnf)
        | (refine ⟨by rw [hwl]; omega, thR E, _, 3, rfl, (by rw [hwl]; exact hti), rfl, rfl, ?_⟩
           conv => whnf)
        | (refine And.intro (by (conv => whnf); exact ⟨by rw [hwk]; omega, thR D, _, 3, rfl, (by rw [hwk]; exact htw), rfl, rfl, rfl⟩) ?_
           conv => whnf)
        | (refine And.intro (by (conv => whnf); exact ⟨by rw [hwl]; omega, thR E, _, 3, rfl, (by rw [hwl]; exact hti), rfl, rfl, rfl⟩) ?_
           conv => whnf)
        | (refine And.intro rfl ?_
           conv => whnf)
        | (refine And.intro ?_ ?_
           all_goals (conv => whnf)))
      all_goals first
        | exact key _ _ (.inl ⟨⟨rfl, rfl, rfl, rfl, rfl, rfl, rfl, rfl, rfl, rfl, rfl, rfl, rfl, rfl, rfl, rfl, trivial⟩, rfl⟩)
        | exact key _ _ (.inr ⟨⟨rfl, rfl, rfl, rfl, rfl, rfl, rfl, rfl, rfl, rfl, rfl, rfl, rfl, rfl, rfl, rfl, trivial⟩, rfl⟩)
    · rw [ltB_f (by omega)]
      conv => whnf
      refine ⟨n - 1, by omega, none, k + 1, es, f, by omega, rfl, hT, ⟨fun a b ha hb h => hK.done a b ha hb (by omega)⟩, rfl, rfl, rfl, rfl, rfl, rfl, rfl, rfl, rfl, ?_, trivial⟩
      show V.int .i64 (IntKind.i64.wrap (k + 1)) = _
      rw [wrapA1 k (by omega)]
  · rw [ltB_f (by omega)]
    conv => whnf
    obtain ⟨x, hx, hx1, hx2⟩ := hT.at (i := r) (by omega)
    refine ⟨by omega, by omega, ?_⟩
    conv => whnf
    refine ⟨0, r + 1, _, _, hT.root, hx1, ?_⟩
    conv => whnf
    refine ⟨by omega, by omega, ?_⟩
    conv => whnf
    refine ⟨0, c + 1, _, _, hx2, numR_get _ (by omega), ?_⟩
    conv => whnf
    have hfin := hK.done r c (by omega) (by omega) (by omega)
    refine ⟨[], false, ?_⟩
    conv => whnf
    exact ⟨es, by rw [← hfin]; rfl, rfl⟩
end Go.Cod

namespace Go.Cod
open Go Go.Proofs
set_option linter.all false
set_option maxRecDepth 10000
theorem unl_get {L M : List Th} {a b : Nat} {x y : Th} (h : L[a]? = some x) (h' : M[b]? = some y) : unl L M a b = unH x y := by
  unfold unl labAt unH
  rw [h, h']
  simp
/-- What stands in a table of costs: whole trees. -/
def treeD (D E : List Th) (a b : Nat) : Nat := dist (fstOf D) (fstOf E) (unl D E) (fstOf D a) (a + 1) (fstOf E b) (b + 1)
def cellD (D E : List Th) (l t x y : Nat) : Nat := dist (fstOf D) (fstOf E) (unl D E) l (l + x) t (t + y)
variable {D E : List Th} {l t : Nat}
theorem cellD_0 (x : Nat) : cellD D E l t x 0 = x := by unfold cellD; rw [dist_r (by omega)]; omega
theorem cellD_00 (y : Nat) : cellD D E l t 0 y = y := by unfold cellD; rw [dist_l (by omega)]; omega
theorem cellD_le (x y : Nat) : cellD D E l t x y ≤ x + y := by
  have := dist_le (p := fstOf D) (q := fstOf E) (u := unl D E) _ (l1 := l) (h1 := l + x) (l2 := t) (h2 := t + y) (Nat.le_refl _)
  unfold cellD; omega
theorem treeD_le (hD : Nest 0 D) (hE : Nest 0 E) {a b : Nat} (ha : a < D.length) (hb : b < E.length) : treeD D E a b ≤ D.length + E.length := by
  have := dist_le (p := fstOf D) (q := fstOf E) (u := unl D E) _ (l1 := fstOf D a) (h1 := a + 1) (l2 := fstOf E b) (h2 := b + 1) (Nat.le_refl _)
  have := hD.lamin.le a ha
  have := hE.lamin.le b hb
  unfold treeD; omega
/-- .. by the cost of the last trees as wholes; or, where these are all, of what is in them. -/
theorem cellD_tree (hD : Nest 0 D) (hE : Nest 0 E) {x y : Nat} {a b : Th} (ha : D[l + x]? = some a) (hb : E[t + y]? = some b) (h1 : l ≤ a.f) (h2 : t ≤ b.f) :
    cellD D E l t (x + 1) (y + 1) = min (min (cellD D E l t x (y + 1) + 1) (cellD D E l t (x + 1) y + 1)) (cellD D E l t (a.f - l) (b.f - t) + treeD D E (l + x) (t + y)) := by
  have la := (List.getElem?_eq_some_iff.1 ha).1
  have lb := (List.getElem?_eq_some_iff.1 hb).1
  have fa := fstOf_get ha
  have fb := fstOf_get hb
  have := dist_tree (u := unl D E) hD.lamin hE.lamin la lb (l1 := l) (l2 := t) (by omega) (by omega)
  unfold cellD treeD
  rw [← Nat.add_assoc, ← Nat.add_assoc, this, fa, fb, show l + (a.f - l) = a.f by omega, show t + (b.f - t) = b.f by omega]
theorem cellD_top (hD : Nest 0 D) (hE : Nest 0 E) {x y : Nat} {a b : Th} (ha : D[l + x]? = some a) (hb : E[t + y]? = some b) (h1 : a.f = l) (h2 : b.f = t) :
    cellD D E l t (x + 1) (y + 1) = min (min (cellD D E l t x (y + 1) + 1) (cellD D E l t (x + 1) y + 1)) (cellD D E l t x y + unH a b) := by
  have la := (List.getElem?_eq_some_iff.1 ha).1
  have lb := (List.getElem?_eq_some_iff.1 hb).1
  have fa := fstOf_get ha
  have fb := fstOf_get hb
  have := dist_step (p := fstOf D) (q := fstOf E) (u := unl D E) (l1 := l) (a := l + x) (l2 := t) (b := t + y) (by omega) (by omega) (by omega) (by omega)
  unfold cellD
  rw [← Nat.add_assoc, ← Nat.add_assoc, this, fa, fb, h1, h2, dist_l (l1 := l) (h1 := l) (Nat.le_refl _), unl_get ha hb]
  omega
/-- What is known of the table of whole trees, while i and j are at hand. -/
theorem diffWhole_full (D E : List Th) (i j : Nat) (g : Nat → Nat → Int) (hD : Nest 0 D) (hE : Nest 0 E) (lD : D.length ≤ 1000) (lE : E.length ≤ 1000) (hi : i < D.length) (hj : j < E.length)
    (hg : ∀ a b, a ≤ i → b ≤ j → (a < i ∨ b < j) → g a b = treeD D E a b) :
    Full Try.prog noY 26 [.sl (thR D), .sl (thR E), .int .i64 i, .int .i64 j, .sl (viewW D.length E.length g)] [poolO []] fun o st' => ∃ es, o = .ret (.int .i64 (treeD D E i j : Nat)) ∧ st' = [poolO es] := by
  have hdi := List.getElem?_eq_getElem hi
  have hdj := List.getElem?_eq_getElem hj
  have fi := fstOf_get hdi
  have fj := fstOf_get hdj
  have li := hD.lamin.le i hi
  have lj := hE.lamin.le j hj
  have ci := hD.lamin.closed hi
  have cj := hE.lamin.closed hj
  generalize D[i] = di at *
  generalize E[j] = dj at *
  have hfin : treeD D E i j = cellD D E di.f dj.f (i + 1 - di.f) (j + 1 - dj.f) := by
    unfold treeD cellD
    rw [fi, fj, show di.f + (i + 1 - di.f) = i + 1 by omega, show dj.f + (j + 1 - dj.f) = j + 1 by omega]
  rw [hfin]
  refine diffWhole_run D E i j di.f dj.f (i + 1 - di.f) (j + 1 - dj.f) di dj g (cellD D E di.f dj.f) lD lE hdi hdj rfl rfl (by omega) (by omega) (by omega) (by omega) cellD_0 cellD_00 (fun x y hx hy => by have := cellD_le (D := D) (E := E) (l := di.f) (t := dj.f) x y; omega)
    (fun x a hx ha => ?_) (fun y b hy hb => ?_) (fun x y a b hx hy ha hb h => ?_) (fun x y a b hx hy ha hb h1 h2 => cellD_top hD hE ha hb h1 h2)
  · have la := (List.getElem?_eq_some_iff.1 ha).1
    have := hD.lamin.le _ la
    have := ci (di.f + x) (by omega) (by omega)
    have := fstOf_get ha
    omega
  · have lb := (List.getElem?_eq_some_iff.1 hb).1
    have := hE.lamin.le _ lb
    have := cj (dj.f + y) (by omega) (by omega)
    have := fstOf_get hb
    omega
  · have la := (List.getElem?_eq_some_iff.1 ha).1
    have lb := (List.getElem?_eq_some_iff.1 hb).1
    have e1 := ci (di.f + x) (by omega) (by omega)
    have e2 := cj (dj.f + y) (by omega) (by omega)
    have f1 := fstOf_get ha
    have f2 := fstOf_get hb
    have hne : di.f + x < i ∨ dj.f + y < j := by
      rcases Nat.lt_or_ge (di.f + x) i with h' | h'
      · exact .inl h'
      · rcases Nat.lt_or_ge (dj.f + y) j with h'' | h''
        · exact .inr h''
        · exfalso
          have q1 : di.f + x = i := by omega
          have q2 : dj.f + y = j := by omega
          rw [q1] at f1; rw [q2] at f2
          omega
    refine ⟨treeD D E (di.f + x) (dj.f + y), hg _ _ (by omega) (by omega) hne, ?_, cellD_tree hD hE ha hb (by omega) (by omega)⟩
    have := treeD_le hD hE la lb
    omega
end Go.Cod

namespace Go.Cod
open Go Go.Proofs
set_option linter.all false
set_option maxRecDepth 10000

mutual
theorem ids_len : ∀ t : T, t.ids.length = nT t
  | .mk id k x ks => by simp only [T.ids, nT, List.length_cons, idsL_len ks]
theorem idsL_len : ∀ ts : List T, (T.idsL ts).length = nL ts
  | [] => rfl
  | t :: ts => by simp only [T.idsL, nL, List.length_append, ids_len t, idsL_len ts]
end
theorem okT_nT {t : T} (h : okT t = true) : nT t ≤ 20 := by
  unfold okT at h
  simp only [Bool.and_eq_true, decide_eq_true_eq] at h
  rw [← ids_len]; exact h.2
theorem numR_ok (m : Nat) (g : Nat → Int) : V.clean.cleanLL 0 (numR m g) = true ∧ (∀ e ∈ numR m g, ∀ x ∈ e, x.leaf = true) := by
  refine ⟨?_, fun e he x hx => ?_⟩
  · rw [cleanLL_iff]
    intro e he
    obtain ⟨j, _, rfl⟩ := List.mem_map.1 he
    rfl
  · obtain ⟨j, _, rfl⟩ := List.mem_map.1 he
    simp at hx; subst hx; rfl
theorem rootR_full {n m : Nat} {bs : List Nat} (h : bs.length = n) : rootR n bs m = bs.map fun x => [V.dref x m m] := by
  unfold rootR; rw [h]; simp
theorem Tab.view {es b n bs m f} (h : Tab es b n bs m f) (hn : bs.length = n) : View es (.dref b n n) (.sl (viewW n m f)) := by
  refine .dref (sz := 1) (rows := rootR n bs m) h.root (by rw [rootR_full hn, List.length_map, hn]) (by rw [viewW_len, rootR_full hn, List.length_map, hn]) ?_ ?_ (fun i r r' p q => ?_) (fun i r r' j x y p q u v => ?_)
  · rw [cleanLL_iff]
    intro e he
    obtain ⟨a, _, rfl⟩ := List.mem_map.1 he
    rfl
  · intro e he x hx
    obtain ⟨a, _, rfl⟩ := List.mem_map.1 he
    simp at hx; subst hx; rfl
  · have hi : i < n := by
      have := (List.getElem?_eq_some_iff.1 q).1
      rw [viewW_len] at this; exact this
    rw [viewW_get f hi] at q
    rw [rootR_full hn, List.getElem?_map, List.getElem?_eq_getElem (by omega)] at p
    cases p; cases q; rfl
  · have hi : i < n := by
      have := (List.getElem?_eq_some_iff.1 q).1
      rw [viewW_len] at this; exact this
    rw [viewW_get f hi] at q
    have hb := List.getElem?_eq_getElem (l := bs) (i := i) (by omega)
    rw [rootR_full hn, List.getElem?_map, hb] at p
    cases p; cases q
    have hj : j = 0 := by
      have := (List.getElem?_eq_some_iff.1 u).1
      simp at this; exact this
    subst hj
    simp at u v
    subst u; subst v
    refine .dref (sz := 1) (rows := numR m (f i)) (h.row i _ hb) (numR_len m (f i)).symm rfl (numR_ok m (f i)).1 (numR_ok m (f i)).2 (fun i r r' p q => ?_) (fun i r r' j x y p q u v => ?_)
    · rw [p] at q; cases q; rfl
    · rw [p] at q; cases q; rw [u] at v; cases v; exact .same _
theorem diffWhole_pure (D E : List Th) (i j : Nat) (g : Nat → Nat → Int) (hD : Nest 0 D) (hE : Nest 0 E) (lD : D.length ≤ 1000) (lE : E.length ≤ 1000) (hi : i < D.length) (hj : j < E.length)
    (hg : ∀ a b, a ≤ i → b ≤ j → (a < i ∨ b < j) → g a b = treeD D E a b) :
    Pure Try.prog 26 [.sl (thR D), .sl (thR E), .int .i64 i, .int .i64 j, .sl (viewW D.length E.length g)] (· = .int .i64 (treeD D E i j : Nat)) := by
  refine Full.freeze (Full.start (st0 := []) (diffWhole_full D E i j g hD hE lD lE hi hj hg)) ?_
  rintro o st' ⟨es, rfl, rfl⟩
  exact ⟨_, _, _, rfl, rfl, .same _, rfl, rfl⟩
theorem viewL5 {es : List (List V)} {x1 x2 x3 x4 x5 y1 y2 y3 y4 y5 : V} (h1 : View es x1 y1) (h2 : View es x2 y2) (h3 : View es x3 y3) (h4 : View es x4 y4) (h5 : View es x5 y5) : ViewL es [x1, x2, x3, x4, x5] [y1, y2, y3, y4, y5] := ⟨rfl, fun i a b p q => by
  match i, p, q with
  | 0, p, q => simp at p q; subst p; subst q; exact h1
  | 1, p, q => simp at p q; subst p; subst q; exact h2
  | 2, p, q => simp at p q; subst p; subst q; exact h3
  | 3, p, q => simp at p q; subst p; subst q; exact h4
  | 4, p, q => simp at p q; subst p; subst q; exact h5
  | i + 5, p, q => simp at p⟩
/-- What DiffCost answers. -/
def diffCost (a b : T) : Int := if okT a && okT b then (costT a b : Nat) else -1
theorem postT_last (t : T) : ∃ e, (postT 0 t)[nT t - 1]? = some e ∧ e.f = 0 := by
  obtain ⟨id, k, x, ks⟩ := t
  refine ⟨⟨k, x, 0⟩, ?_, rfl⟩
  simp only [postT, nT, Nat.add_sub_cancel]
  rw [List.getElem?_append_right (by rw [postL_len]; exact Nat.le_refl _), postL_len]
  simp
theorem costT_tree (a b : T) : costT a b = treeD (postT 0 a) (postT 0 b) (nT a - 1) (nT b - 1) := by
  obtain ⟨e, h1, h2⟩ := postT_last a
  obtain ⟨e', h1', h2'⟩ := postT_last b
  have ha := nT_pos a
  have hb := nT_pos b
  rw [costT_eq]
  unfold treeD
  rw [fstOf_get h1, fstOf_get h1', h2, h2', show nT a - 1 + 1 = nT a by omega, show nT b - 1 + 1 = nT b by omega]
set_option maxHeartbeats 8000000 in
theorem implDiffCost_full (a b : T) (ha : a.Small) (hb : b.Small) : Full Try.prog noY 9 [.agg a.cells, .agg b.cells] [poolO []] fun o st' => ∃ es, o = .ret (.int .i64 (diffCost a b)) ∧ st' = [poolO es] := by
  have h1 := implTreeOk a ha
  have h2 := implTreeOk b hb
  have hd : diffCost a b = if okT a && okT b then ((costT a b : Nat) : Int) else -1 := rfl
  have hla := @okT_nT a
  have hlb := @okT_nT b
  have hta := fun h => diffThings_pure a ha h
  have htb := fun h => diffThings_pure b hb h
  have hDn := postT_nest 0 a
  have hEn := postT_nest 0 b
  have hDl := postT_len 0 a
  have hEl := postT_len 0 b
  have hct := costT_tree a b
  have hpa := nT_pos a
  have hpb := nT_pos b
  generalize diffCost a b = R at *
  generalize okT a = ra at *
  generalize okT b = rb at *
  generalize postT 0 a = D at *
  generalize postT 0 b = E at *
  generalize nT a = n at *
  generalize nT b = m at *
  subst hDl; subst hEl
  rw [hct] at hd
  clear hct
  obtain ⟨ai, ak, ax, aks⟩ := a
  obtain ⟨bi, bk, bx, bks⟩ := b
  refine full_of_draw good Try.func9 rfl (by kernel_rfl) (by decide) fun X hX => ?_
  conv => whnf
  refine .inl (h1.mono ?_)
  rintro r rfl
  cases ra
  · conv => whnf
    refine ⟨[], false, ?_⟩
    conv => whnf
    exact ⟨[], by rw [hd]; rfl, rfl⟩
  conv => whnf
  refine .inl (h2.mono ?_)
  rintro r rfl
  cases rb
  · conv => whnf
    refine ⟨[], false, ?_⟩
    conv => whnf
    exact ⟨[], by rw [hd]; rfl, rfl⟩
  have hla := hla rfl
  have hlb := hlb rfl
  have hta := hta (by omega)
  have htb := htb (by omega)
  simp only [Bool.and_self, if_true] at hd
  have hnl := thR_len D
  have hml := thR_len E
  have hdt := diffTable_new D.length E.length (by omega) (by omega)
  conv => whnf
  refine draw_go hX ?_
  conv => whnf
  refine ⟨_, .inr ⟨[], [.nils, .agg (T.mk ai ak ax aks).cells], fun e he => (by cases he), viewL2 (.same _) (.same _), rfl, hta.mono fun r hr => ⟨by simp, hr⟩⟩, ?_⟩
  conv => whnf
  refine ⟨_, .inr ⟨[], [.nils, .agg (T.mk bi bk bx bks).cells], fun e he => (by cases he), viewL2 (.same _) (.same _), rfl, htb.mono fun r hr => ⟨by simp, hr⟩⟩, ?_⟩
  conv => whnf
  rw [hnl, hml]
  refine .inr (.inl ⟨[0], false, ?_⟩)
  conv => whnf
  refine hdt.mono ?_
  rintro o st' ⟨t, bs, es, rfl, rfl, hT, hbl⟩
  clear hdt
  conv => whnf
  refine loop_drop (fun k fr st => ∃ (i : Nat) (es : List (List V)) (g : Nat → Nat → Int), k + i = D.length ∧ st = [poolO es, ⟨[(T.mk ai ak ax aks).cells], 4, true, true, true, .cell⟩, ⟨[(T.mk bi bk bx bks).cells], 4, true, true, true, .cell⟩] ∧ Tab es t D.length bs E.length g ∧
      (∀ a b, a < D.length → b < E.length → a < i → g a b = treeD D E a b) ∧
      Holds fr [(5, .sl (thR D)), (6, .sl (thR E)), (7, .dref t D.length D.length), (28, .int .i64 D.length), (29, .int .i64 i)]) D.length none ?_ ?_
  · exact ⟨0, es, _, rfl, rfl, hT, (fun a b _ _ h => absurd h (Nat.not_lt_zero _)), rfl, rfl, rfl, by rw [← hnl]; rfl, rfl, trivial⟩
  clear hT es
  rintro k fr st ⟨i, es, g, hk, rfl, hT, hG, hh⟩
  obtain ⟨fr, rfl⟩ := hh.split
  clear hh
  conv => whnf
  by_cases hlt : i < D.length
  · rw [ltB_t (by omega)]
    conv => whnf
    refine loop_drop (fun k fr st => ∃ (j : Nat) (es : List (List V)) (g : Nat → Nat → Int), k + j = E.length ∧ st = [poolO es, ⟨[(T.mk ai ak ax aks).cells], 4, true, true, true, .cell⟩, ⟨[(T.mk bi bk bx bks).cells], 4, true, true, true, .cell⟩] ∧ Tab es t D.length bs E.length g ∧
        (∀ a b, a < D.length → b < E.length → (a < i ∨ (a = i ∧ b < j)) → g a b = treeD D E a b) ∧
        Holds fr [(5, .sl (thR D)), (6, .sl (thR E)), (7, .dref t D.length D.length), (8, .int .i64 i), (28, .int .i64 D.length), (29, .int .i64 i), (33, .int .i64 E.length), (34, .int .i64 j)]) E.length none ?_ ?_
    · exact ⟨0, es, _, rfl, rfl, hT, (fun a b h1 h2 h => hG a b h1 h2 (by omega)), rfl, rfl, rfl, rfl, rfl, rfl, by rw [← hml]; rfl, rfl, trivial⟩
    clear hT hG es g
    rintro k2 fr st ⟨j, es, g, hk2, rfl, hT, hG, hh⟩
    obtain ⟨fr, rfl⟩ := hh.split
    clear hh
    conv => whnf
    by_cases hltj : j < E.length
    · rw [ltB_t (by omega)]
      conv => whnf
      have hw := diffWhole_pure D E i j g hDn hEn (by omega) (by omega) hlt hltj (fun a b h1 h2 h => hG a b (by omega) (by omega) (by omega))
      have hv := hT.view hbl
      obtain ⟨x, hx, hx1, hx2⟩ := hT.at (i := i) (by omega)
      refine draw_go hX ?_
      conv => whnf
      refine ⟨by omega, by omega, ?_⟩
      conv => whnf
      refine ⟨0, D.length, _, _, hT.root, hx1, ?_⟩
      conv => whnf
      refine ⟨_, .inr ⟨es, [.sl (thR D), .sl (thR E), .int .i64 i, .int .i64 j, .sl (viewW D.length E.length g)], fun e he => ⟨0, he⟩, viewL5 (.same _) (.same _) (.same _) (.same _) hv, rfl, hw.mono fun r hr => ⟨by rw [hr]; rfl, hr⟩⟩, ?_⟩
      conv => whnf
      refine ⟨by omega, by omega, ?_⟩
      conv => whnf
      refine ⟨0, E.length, _, _, _, hx2, numR_get _ hltj, rfl, ?_⟩
      conv => whnf
      refine ⟨k2 - 1, by omega, none, j + 1, _, _, by omega, rfl, hT.put hx j (treeD D E i j : Nat), fun a b h1 h2 h => ?_, rfl, rfl, rfl, rfl, rfl, rfl, rfl, ?_, trivial⟩
      · unfold upd2
        by_cases e : a = i ∧ b = j
        · rw [if_pos e, e.1, e.2]
        · rw [if_neg e]; exact hG a b h1 h2 (by omega)
      · show V.int .i64 (IntKind.i64.wrap (j + 1)) = _
        rw [wrapA1 j (by omega)]
    · rw [ltB_f (by omega)]
      conv => whnf
      refine ⟨k - 1, by omega, none, i + 1, es, g, by omega, rfl, hT, fun a b h1 h2 h => hG a b h1 h2 (by omega), rfl, rfl, rfl, rfl, ?_, trivial⟩
      show V.int .i64 (IntKind.i64.wrap (i + 1)) = _
      rw [wrapA1 i (by omega)]
  · rw [ltB_f (by omega)]
    conv => whnf
    obtain ⟨x, hx, hx1, hx2⟩ := hT.at (i := D.length - 1) (by omega)
    have w1 := wrapS D.length 1 (by omega) (by omega)
    have w2 := wrapS E.length 1 (by omega) (by omega)
    rw [hnl]
    refine ⟨by show 0 ≤ IntKind.i64.wrap ((D.length : Int) - (1 : Nat)); rw [w1]; omega, by show (IntKind.i64.wrap ((D.length : Int) - (1 : Nat))).toNat < _; rw [w1]; omega, ?_⟩
    conv => whnf
    refine ⟨0, D.length, _, _, hT.root, by show _[(IntKind.i64.wrap ((D.length : Int) - (1 : Nat))).toNat]? = _; rw [w1]; exact hx1, ?_⟩
    conv => whnf
    rw [hml]
    refine ⟨by show 0 ≤ IntKind.i64.wrap ((E.length : Int) - (1 : Nat)); rw [w2]; omega, by show (IntKind.i64.wrap ((E.length : Int) - (1 : Nat))).toNat < _; rw [w2]; omega, ?_⟩
    conv => whnf
    refine ⟨0, E.length, _, _, hx2, by show _[(IntKind.i64.wrap ((E.length : Int) - (1 : Nat))).toNat]? = _; rw [w2]; exact numR_get _ (by omega), ?_⟩
    conv => whnf
    have hfin := hG (D.length - 1) (E.length - 1) (by omega) (by omega) (by omega)
    refine ⟨[], false, ?_⟩
    conv => whnf
    exact ⟨es, by rw [hd, ← hfin]; rfl, rfl⟩
theorem implDiffCost_pure (a b : T) (ha : a.Small) (hb : b.Small) : Pure Try.prog 9 [.agg a.cells, .agg b.cells] (· = .int .i64 (diffCost a b)) := by
  refine Full.freeze (Full.start (st0 := []) (implDiffCost_full a b ha hb)) ?_
  rintro o st' ⟨es, rfl, rfl⟩
  exact ⟨_, _, _, rfl, rfl, .same _, rfl, rfl⟩
end Go.Cod

namespace Go.Cod
open Go Go.Proofs
set_option linter.all false
set_option maxRecDepth 10000

/-! The spec's list of things. -/
def labR (L : List Th) : List (List V) := L.map fun h => [V.str (h.k ++ 34 :: h.t)]
def firR (L : List Th) : List (List V) := L.map fun h => [V.int .i64 h.f]
theorem labR_len (L : List Th) : (labR L).length = L.length := by simp [labR]
theorem firR_len (L : List Th) : (firR L).length = L.length := by simp [firR]
theorem labR_app (L M : List Th) : labR (L ++ M) = labR L ++ labR M := by simp [labR]
theorem firR_app (L M : List Th) : firR (L ++ M) = firR L ++ firR M := by simp [firR]
theorem labR_get {L : List Th} {i : Nat} {e : Th} (h : L[i]? = some e) : (labR L)[i]? = some [.str (e.k ++ 34 :: e.t)] := by simp [labR, h]
theorem firR_get {L : List Th} {i : Nat} {e : Th} (h : L[i]? = some e) : (firR L)[i]? = some [.int .i64 e.f] := by simp [firR, h]
def pboxO (a b : V) : O := ⟨[[a, b]], 2, true, true, true, .cell⟩
def AddN (t : T) (o : Out) (st' : St) : Prop := o = .ret (.int .i64 0) ∧ st' = [pboxO (.own 1) (.own 2), ⟨labR (postT 0 t), 1, true, true, false, .cell⟩, ⟨firR (postT 0 t), 1, true, true, false, .cell⟩]
def AddO (L : List Th) (t : T) (o : Out) (st' : St) : Prop := o = .ret (.int .i64 L.length) ∧ st' = [pboxO (.own 3) (.own 4), ⟨labR L, 1, false, true, false, .cell⟩, ⟨firR L, 1, false, true, false, .cell⟩, ⟨labR (L ++ postT L.length t), 1, true, true, false, .cell⟩, ⟨firR (L ++ postT L.length t), 1, true, true, false, .cell⟩]
set_option maxHeartbeats 800000 in
theorem add_own1 (id : Int) (kind text : List UInt8) (kids : List T) (L : List Th) (hs : L.length + nL kids + 1 ≤ 1048576) (h2 : kind.length ≤ 1048576) (h3 : text.length ≤ 1048576)
    (hT : ∀ t' ∈ kids, ∀ L : List Th, L.length + nT t' ≤ 1048576 → Full Try.prog noY 27 [.ptr 0 0 0, .agg t'.cells] [pboxO (.own 1) (.own 2), ⟨labR L, 1, true, true, false, .cell⟩, ⟨firR L, 1, true, true, false, .cell⟩] (AddO L t')) :
    Full Try.prog noY 27 [.ptr 0 0 0, .agg (T.mk id kind text kids).cells] [pboxO (.own 1) (.own 2), ⟨labR L, 1, true, true, false, .cell⟩, ⟨firR L, 1, true, true, false, .cell⟩] (AddO L (.mk id kind text kids)) := by
  have hlr := Go.Cod.rows_len kids
  have hkl := len_nL kids
  have hLl := labR_len L
  have hres : L ++ postT L.length (.mk id kind text kids) = (L ++ postL L.length kids) ++ [⟨kind, text, L.length⟩] := by simp [postT]
  unfold AddO
  rw [hres]
  clear hres
  refine full_of_draw good Try.func27 rfl (by kernel_rfl) (by decide) fun X hX => ?_
  conv => whnf
  refine loop_drop (fun n fr st => ∃ i : Nat, n + i = kids.length ∧
      ((i = 0 ∧ Holds fr [(0, .ptr 0 0 0), (3, .ptr 3 0 0), (5, .int .i64 L.length), (6, .int .i64 i)] ∧ st = [pboxO (.own 1) (.own 2), ⟨labR L, 1, true, true, false, .cell⟩, ⟨firR L, 1, true, true, false, .cell⟩, ⟨[(T.mk id kind text kids).cells], 4, true, true, true, .cell⟩]) ∨
       (0 < i ∧ Holds fr [(0, .ptr 0 0 0), (3, .ptr 3 0 0), (5, .int .i64 L.length), (6, .int .i64 i)] ∧ st = [pboxO (.own 4) (.own 5), ⟨labR L, 1, false, true, false, .cell⟩, ⟨firR L, 1, false, true, false, .cell⟩, ⟨[(T.mk id kind text kids).cells], 4, true, true, true, .cell⟩, ⟨labR (L ++ postL L.length (kids.take i)), 1, true, true, false, .cell⟩, ⟨firR (L ++ postL L.length (kids.take i)), 1, true, true, false, .cell⟩]))) kids.length none ?_ ?_
  · exact ⟨0, rfl, .inl ⟨rfl, ⟨rfl, rfl, by rw [← hLl]; rfl, rfl, trivial⟩, rfl⟩⟩
  rintro n fr st ⟨i, hi, ⟨rfl, hh, rfl⟩ | ⟨hi0, hh, rfl⟩⟩
  · obtain ⟨fr, rfl⟩ := hh.split
    clear hh
    conv => whnf
    by_cases hlt : 0 < kids.length
    · rw [hlr, ltB_t (by omega)]
      conv => whnf
      have hg := Go.Cod.rows_get kids 0 hlt
      have hc := hT kids[0] (List.getElem_mem _) L
      have hn := nL_take kids 0 hlt
      have hle := nL_take_le kids 1
      have hp := postL_take L.length kids 0 hlt
      simp only [List.take_zero, nL, Nat.zero_add, postL, List.nil_append, Nat.add_zero] at hn hp
      generalize kids[0] = t at hc hg hn hp
      obtain ⟨id', kind', text', kids'⟩ := t
      refine ⟨by omega, T.rows kids, _, 4, rfl, hg, rfl, rfl, ?_⟩
      conv => whnf
      refine ⟨[0, 1, 2], false, ?_⟩
      conv => whnf
      refine (hc (by omega)).mono ?_
      rintro o st' ⟨rfl, rfl⟩
      rw [← hp]
      conv => whnf
      refine ⟨n - 1, by omega, some [0, 1, 2, 3, 4, 5], ?_⟩
      conv => whnf
      exact ⟨1, by omega, .inr ⟨by omega, ⟨rfl, rfl, rfl, rfl, trivial⟩, rfl⟩⟩
    · rw [hlr, ltB_f (by omega)]
      obtain rfl : kids = [] := List.eq_nil_of_length_eq_zero (by omega)
      conv => whnf
      refine draw_go hX ?_
      conv => whnf
      refine ⟨by show kind.length + 1 ≤ _; omega, ?_⟩
      conv => whnf
      refine ⟨by
        show (kind ++ [34]).length + text.length ≤ _
        rw [List.length_append, List.length_singleton]; omega, ?_⟩
      conv => whnf
      refine ⟨fun m hm => by rw [List.mem_singleton.1 hm]; rfl, ?_⟩
      conv => whnf
      refine ⟨by show ((labR L).length + 1) * 16 ≤ _; rw [labR_len]; omega, ?_⟩
      conv => whnf
      refine ⟨fun m hm => by rw [List.mem_singleton.1 hm]; rfl, ?_⟩
      conv => whnf
      refine ⟨by show ((firR L).length + 1) * 8 ≤ _; rw [firR_len]; omega, ?_⟩
      conv => whnf
      refine ⟨[5, 7], false, ?_⟩
      conv => whnf
      refine ⟨rfl, ?_⟩
      rw [show postL L.length [] = [] from rfl, List.append_nil, labR_app, firR_app]
      show [_, _, _, _, _] = [_, _, _, _, _]
      rw [show labR [⟨kind, text, L.length⟩] = [[V.str ((kind ++ [34]) ++ text)]] by simp [labR]]
      rfl
  · obtain ⟨fr, rfl⟩ := hh.split
    clear hh
    conv => whnf
    by_cases hlt : i < kids.length
    · rw [hlr, ltB_t (by omega)]
      conv => whnf
      have hg := Go.Cod.rows_get kids i hlt
      have hc := hT kids[i] (List.getElem_mem _) (L ++ postL L.length (kids.take i))
      have hn := nL_take kids i hlt
      have hle := nL_take_le kids (i + 1)
      have hp := postL_take L.length kids i hlt
      have hll : (L ++ postL L.length (kids.take i)).length = L.length + nL (kids.take i) := by simp [postL_len]
      rw [hll] at hc
      unfold AddO at hc
      rw [hll] at hc
      simp only [List.append_assoc, ← hp] at hc
      generalize kids[i] = t at hc hg hn
      obtain ⟨id', kind', text', kids'⟩ := t
      generalize L ++ postL L.length (kids.take i) = M at *
      refine ⟨by omega, T.rows kids, _, 4, rfl, hg, rfl, rfl, ?_⟩
      conv => whnf
      refine ⟨[0, 4, 5], false, ?_⟩
      conv => whnf
      refine (hc (by omega)).mono ?_
      rintro o st' ⟨rfl, rfl⟩
      conv => whnf
      refine ⟨n - 1, by omega, some [0, 1, 2, 3, 6, 7], ?_⟩
      conv => whnf
      refine ⟨i + 1, by omega, .inr ⟨by omega, ⟨rfl, rfl, rfl, ?_, trivial⟩, rfl⟩⟩
      show V.int .i64 (IntKind.i64.wrap (i + 1)) = _
      rw [wrap64 (by omega) (by omega)]; simp
    · rw [hlr, ltB_f (by omega)]
      rw [List.take_of_length_le (by omega)]
      have hll : (L ++ postL L.length kids).length = L.length + nL kids := by simp [postL_len]
      generalize hM : L ++ postL L.length kids = M at *
      conv => whnf
      refine draw_go hX ?_
      conv => whnf
      refine ⟨by show kind.length + 1 ≤ _; omega, ?_⟩
      conv => whnf
      refine ⟨by
        show (kind ++ [34]).length + text.length ≤ _
        rw [List.length_append, List.length_singleton]; omega, ?_⟩
      conv => whnf
      refine ⟨fun m hm => by rw [List.mem_singleton.1 hm]; rfl, ?_⟩
      conv => whnf
      refine ⟨by show ((labR M).length + 1) * 16 ≤ _; rw [labR_len]; omega, ?_⟩
      conv => whnf
      refine ⟨fun m hm => by rw [List.mem_singleton.1 hm]; rfl, ?_⟩
      conv => whnf
      refine ⟨by show ((firR M).length + 1) * 8 ≤ _; rw [firR_len]; omega, ?_⟩
      conv => whnf
      refine ⟨[7, 9], false, ?_⟩
      conv => whnf
      refine ⟨rfl, ?_⟩
      rw [labR_app, firR_app]
      show [_, _, _, _, _] = [_, _, _, _, _]
      rw [show labR [⟨kind, text, L.length⟩] = [[V.str ((kind ++ [34]) ++ text)]] by simp [labR]]
      rfl
end Go.Cod

namespace Go.Cod
open Go Go.Proofs
set_option linter.all false
set_option maxRecDepth 10000

set_option maxHeartbeats 800000 in
theorem add_nil1 (id : Int) (kind text : List UInt8) (kids : List T) (hs : nL kids + 1 ≤ 1048576) (h2 : kind.length ≤ 1048576) (h3 : text.length ≤ 1048576)
    (hT0 : ∀ t' ∈ kids, nT t' ≤ 1048576 → Full Try.prog noY 27 [.ptr 0 0 0, .agg t'.cells] [pboxO .nils .nils] (AddN t'))
    (hT : ∀ t' ∈ kids, ∀ L : List Th, L.length + nT t' ≤ 1048576 → Full Try.prog noY 27 [.ptr 0 0 0, .agg t'.cells] [pboxO (.own 1) (.own 2), ⟨labR L, 1, true, true, false, .cell⟩, ⟨firR L, 1, true, true, false, .cell⟩] (AddO L t')) :
    Full Try.prog noY 27 [.ptr 0 0 0, .agg (T.mk id kind text kids).cells] [pboxO .nils .nils] (AddN (.mk id kind text kids)) := by
  have hlr := Go.Cod.rows_len kids
  have hkl := len_nL kids
  have hres : postT 0 (.mk id kind text kids) = postL 0 kids ++ [⟨kind, text, 0⟩] := by simp [postT]
  unfold AddN
  rw [hres]
  clear hres
  refine full_of_draw good Try.func27 rfl (by kernel_rfl) (by decide) fun X hX => ?_
  conv => whnf
  refine loop_drop (fun n fr st => ∃ i : Nat, n + i = kids.length ∧
      ((i = 0 ∧ Holds fr [(0, .ptr 0 0 0), (3, .ptr 1 0 0), (5, .int .i64 0), (6, .int .i64 i)] ∧ st = [pboxO .nils .nils, ⟨[(T.mk id kind text kids).cells], 4, true, true, true, .cell⟩]) ∨
       (0 < i ∧ Holds fr [(0, .ptr 0 0 0), (3, .ptr 1 0 0), (5, .int .i64 0), (6, .int .i64 i)] ∧ st = [pboxO (.own 2) (.own 3), ⟨[(T.mk id kind text kids).cells], 4, true, true, true, .cell⟩, ⟨labR (postL 0 (kids.take i)), 1, true, true, false, .cell⟩, ⟨firR (postL 0 (kids.take i)), 1, true, true, false, .cell⟩]))) kids.length none ?_ ?_
  · exact ⟨0, rfl, .inl ⟨rfl, ⟨rfl, rfl, rfl, rfl, trivial⟩, rfl⟩⟩
  rintro n fr st ⟨i, hi, ⟨rfl, hh, rfl⟩ | ⟨hi0, hh, rfl⟩⟩
  · obtain ⟨fr, rfl⟩ := hh.split
    clear hh
    conv => whnf
    by_cases hlt : 0 < kids.length
    · rw [hlr, ltB_t (by omega)]
      conv => whnf
      have hg := Go.Cod.rows_get kids 0 hlt
      have hc := hT0 kids[0] (List.getElem_mem _)
      have hn := nL_take kids 0 hlt
      have hle := nL_take_le kids 1
      have hp := postL_take 0 kids 0 hlt
      simp only [List.take_zero, nL, Nat.zero_add, postL, List.nil_append, Nat.add_zero] at hn hp
      unfold AddN at hc
      rw [← hp] at hc
      generalize kids[0] = t at hc hg hn
      obtain ⟨id', kind', text', kids'⟩ := t
      refine ⟨by omega, T.rows kids, _, 4, rfl, hg, rfl, rfl, ?_⟩
      conv => whnf
      refine ⟨[0], true, ?_⟩
      conv => whnf
      refine (hc (by omega)).mono ?_
      rintro o st' ⟨rfl, rfl⟩
      conv => whnf
      refine ⟨n - 1, by omega, some [0, 1, 2, 3], ?_⟩
      conv => whnf
      exact ⟨1, by omega, .inr ⟨by omega, ⟨rfl, rfl, rfl, rfl, trivial⟩, rfl⟩⟩
    · rw [hlr, ltB_f (by omega)]
      obtain rfl : kids = [] := List.eq_nil_of_length_eq_zero (by omega)
      conv => whnf
      refine draw_go hX ?_
      conv => whnf
      refine ⟨by show kind.length + 1 ≤ _; omega, ?_⟩
      conv => whnf
      refine ⟨by
        show (kind ++ [34]).length + text.length ≤ _
        rw [List.length_append, List.length_singleton]; omega, ?_⟩
      conv => whnf
      refine ⟨fun m hm => by rw [List.mem_singleton.1 hm]; rfl, ?_⟩
      conv => whnf
      refine ⟨by show 1 * 16 ≤ _; omega, .inr ⟨(by intro e; cases e), ?_⟩⟩
      conv => whnf
      refine ⟨fun m hm => by rw [List.mem_singleton.1 hm]; rfl, ?_⟩
      conv => whnf
      refine ⟨by show 1 * 8 ≤ _; omega, .inr ⟨(by intro e; cases e), ?_⟩⟩
      conv => whnf
      refine ⟨[3, 5], false, ?_⟩
      conv => whnf
      refine ⟨rfl, ?_⟩
      show [_, _, _] = [_, _, _]
      rw [show labR (postL 0 [] ++ [⟨kind, text, 0⟩]) = [[V.str ((kind ++ [34]) ++ text)]] by simp [labR, postL]]
      rfl
  · obtain ⟨fr, rfl⟩ := hh.split
    clear hh
    conv => whnf
    by_cases hlt : i < kids.length
    · rw [hlr, ltB_t (by omega)]
      conv => whnf
      have hg := Go.Cod.rows_get kids i hlt
      have hc := hT kids[i] (List.getElem_mem _) (postL 0 (kids.take i))
      have hn := nL_take kids i hlt
      have hle := nL_take_le kids (i + 1)
      have hp := postL_take 0 kids i hlt
      unfold AddO at hc
      rw [postL_len] at hc
      rw [Nat.zero_add] at hp
      rw [← hp] at hc
      generalize kids[i] = t at hc hg hn
      obtain ⟨id', kind', text', kids'⟩ := t
      generalize postL 0 (kids.take i) = M at *
      refine ⟨by omega, T.rows kids, _, 4, rfl, hg, rfl, rfl, ?_⟩
      conv => whnf
      refine ⟨[0, 2, 3], false, ?_⟩
      conv => whnf
      refine (hc (by omega)).mono ?_
      rintro o st' ⟨rfl, rfl⟩
      conv => whnf
      refine ⟨n - 1, by omega, some [0, 1, 4, 5], ?_⟩
      conv => whnf
      refine ⟨i + 1, by omega, .inr ⟨by omega, ⟨rfl, rfl, rfl, ?_, trivial⟩, rfl⟩⟩
      show V.int .i64 (IntKind.i64.wrap (i + 1)) = _
      rw [wrap64 (by omega) (by omega)]; simp
    · rw [hlr, ltB_f (by omega)]
      rw [List.take_of_length_le (by omega)]
      have hll := postL_len 0 kids
      generalize hM : postL 0 kids = M at *
      conv => whnf
      refine draw_go hX ?_
      conv => whnf
      refine ⟨by show kind.length + 1 ≤ _; omega, ?_⟩
      conv => whnf
      refine ⟨by
        show (kind ++ [34]).length + text.length ≤ _
        rw [List.length_append, List.length_singleton]; omega, ?_⟩
      conv => whnf
      refine ⟨fun m hm => by rw [List.mem_singleton.1 hm]; rfl, ?_⟩
      conv => whnf
      refine ⟨by show ((labR M).length + 1) * 16 ≤ _; rw [labR_len]; omega, ?_⟩
      conv => whnf
      refine ⟨fun m hm => by rw [List.mem_singleton.1 hm]; rfl, ?_⟩
      conv => whnf
      refine ⟨by show ((firR M).length + 1) * 8 ≤ _; rw [firR_len]; omega, ?_⟩
      conv => whnf
      refine ⟨[5, 7], false, ?_⟩
      conv => whnf
      refine ⟨rfl, ?_⟩
      rw [labR_app, firR_app]
      show [_, _, _] = [_, _, _]
      rw [show labR [⟨kind, text, 0⟩] = [[V.str ((kind ++ [34]) ++ text)]] by simp [labR]]
      rfl
theorem add_own (t : T) (ht : t.Small) : ∀ L : List Th, L.length + nT t ≤ 1048576 → Full Try.prog noY 27 [.ptr 0 0 0, .agg t.cells] [pboxO (.own 1) (.own 2), ⟨labR L, 1, true, true, false, .cell⟩, ⟨firR L, 1, true, true, false, .cell⟩] (AddO L t) := by
  induction ht with
  | @mk id kind text kids g1 g2 g3 g4 g5 ih =>
    intro L hL
    simp only [nT] at hL
    exact add_own1 id kind text kids L (by omega) g2 g3 ih
theorem add_nil (t : T) (ht : t.Small) (hn : nT t ≤ 1048576) : Full Try.prog noY 27 [.ptr 0 0 0, .agg t.cells] [pboxO .nils .nils] (AddN t) := by
  induction ht with
  | @mk id kind text kids g1 g2 g3 g4 g5 ih =>
    simp only [nT] at hn
    exact add_nil1 id kind text kids hn g2 g3 (fun t' h' h => ih t' h' h) (fun t' h' => add_own t' (g5 t' h'))
end Go.Cod

namespace Go.Cod
open Go Go.Proofs
set_option linter.all false
set_option maxRecDepth 10000

/-- What a table has been filled in with. -/
structure Filled (g0 g : Nat → Nat → Int) (D E : List Th) (d : Nat → Nat → Nat) (left top c x y : Nat) : Prop where
  old : ∀ a b, (∀ s t, D[a]? = some s → E[b]? = some t → left ≤ a → top ≤ b → s.f = left → t.f = top → False) → g a b = g0 a b
  new : ∀ k l s t, D[left + k]? = some s → E[top + l]? = some t → s.f = left → t.f = top → l < c → (k < x ∨ (k = x ∧ l < y)) → g (left + k) (top + l) = d (k + 1) (l + 1)
def fillS (D E : List Th) (es : List (List V)) : St := [pboxO (.own 1) (.own 2), ⟨labR D, 1, true, true, false, .cell⟩, ⟨firR D, 1, true, true, false, .cell⟩, pboxO (.own 4) (.own 5), ⟨labR E, 1, true, true, false, .cell⟩, ⟨firR E, 1, true, true, false, .cell⟩, poolO es]
theorem wrapA2 (n : Nat) (h : n + 2 ≤ 1000000) : IntKind.i64.wrap ((n : Int) + 2) = ((n + 2 : Nat) : Int) := by rw [← wrapN (n + 2) h]; simp
theorem wrapS1 (n : Nat) (h : n ≤ 1000000) (h1 : 1 ≤ n) : IntKind.i64.wrap ((n : Int) - 1) = ((n - 1 : Nat) : Int) := by rw [← wrapN (n - 1) (by omega)]; congr 1; omega
def fA (k : Nat) : Nat → Nat → Int := fun x y => if y = 0 ∧ x < k then x else 0
theorem fA_zero (k j : Nat) : fA k k j = 0 := by unfold fA; rw [if_neg (by omega)]
theorem fA_succ (k : Nat) : upd2 (fA k) k 0 k = fA (k + 1) := by
  funext x y
  unfold upd2 fA
  by_cases h : x = k ∧ y = 0
  · rw [if_pos h, if_pos (by omega), h.1]
  · rw [if_neg h]
    by_cases h2 : y = 0 ∧ x < k
    · rw [if_pos h2, if_pos (by omega)]
    · rw [if_neg h2, if_neg (by omega)]
def Apart (a : List Nat) (b : List Nat) : Prop := ∀ y ∈ a, y ∉ b
theorem Apart.grow {a b : List Nat} {c x : Nat} {bs : List Nat} (h : Apart a (c :: bs)) (hx : x ∉ a) (hb : b = c :: (bs ++ [x])) : Apart a b := by
  subst hb
  intro y hy hm
  rcases List.mem_cons.1 hm with rfl | hm
  · exact h y hy (by simp)
  · rcases List.mem_append.1 hm with hm | hm
    · exact h y hy (List.mem_cons_of_mem _ hm)
    · simp at hm; subst hm; exact hx hy
theorem Filled.step {g0 g : Nat → Nat → Int} {D E : List Th} {d : Nat → Nat → Nat} {left top c k l : Nat} {s t : Th} {v : Int} (h : Filled g0 g D E d left top c k l) (hs : D[left + k]? = some s) (ht : E[top + l]? = some t) (h1 : s.f = left) (h2 : t.f = top) (hv : v = d (k + 1) (l + 1)) : Filled g0 (upd2 g (left + k) (top + l) v) D E d left top c k (l + 1) := by
  refine ⟨fun a b hab => ?_, fun k' l' s' t' a1 a2 a3 a4 a5 a6 => ?_⟩
  · unfold upd2
    rw [if_neg (fun e => hab s t (by rw [e.1]; exact hs) (by rw [e.2]; exact ht) (by omega) (by omega) h1 h2)]
    exact h.old a b hab
  · unfold upd2
    by_cases e : left + k' = left + k ∧ top + l' = top + l
    · rw [if_pos e, hv, show k' = k by omega, show l' = l by omega]
    · rw [if_neg e]
      exact h.new k' l' s' t' a1 a2 a3 a4 a5 (by omega)
theorem Filled.skip {g0 g : Nat → Nat → Int} {D E : List Th} {d : Nat → Nat → Nat} {left top c k l : Nat} {s t : Th} (h : Filled g0 g D E d left top c k l) (hs : D[left + k]? = some s) (ht : E[top + l]? = some t) (h1 : ¬ (s.f = left ∧ t.f = top)) : Filled g0 g D E d left top c k (l + 1) := by
  refine ⟨h.old, fun k' l' s' t' a1 a2 a3 a4 a5 a6 => ?_⟩
  by_cases e : k' = k ∧ l' = l
  · obtain ⟨rfl, rfl⟩ := e
    rw [hs] at a1; rw [ht] at a2
    cases a1; cases a2
    exact absurd ⟨a3, a4⟩ h1
  · exact h.new k' l' s' t' a1 a2 a3 a4 a5 (by omega)
set_option maxHeartbeats 8000000 in
theorem l5Fill_run (D E : List Th) (i j left top r c nC : Nat) (di dj : Th) (g0 : Nat → Nat → Int) (d : Nat → Nat → Nat) (bC : Nat) (bsC : List Nat) (es0 : List (List V)) (hC0 : Tab es0 bC nC bsC E.length g0) (hnC : bsC.length = nC) (hnD : nC = D.length)
    (lD : D.length ≤ 1000) (lE : E.length ≤ 1000) (hi : D[i]? = some di) (hj : E[j]? = some dj) (hl : di.f = left) (ht : dj.f = top)
    (hir : left + r = i + 1) (hjc : top + c = j + 1) (hr1 : 1 ≤ r) (hc1 : 1 ≤ c) (h0 : ∀ x, d x 0 = x) (h1 : ∀ y, d 0 y = y) (hb : ∀ x y, x ≤ r → y ≤ c → d x y ≤ 2000)
    (hf : ∀ x a, x < r → D[left + x]? = some a → left ≤ a.f ∧ a.f ≤ left + x) (hf' : ∀ y b, y < c → E[top + y]? = some b → top ≤ b.f ∧ b.f ≤ top + y)
    (hs1 : ∀ x y a b, x < r → y < c → D[left + x]? = some a → E[top + y]? = some b → (left < a.f ∨ top < b.f) → ∃ w : Nat, g0 (left + x) (top + y) = w ∧ w ≤ 2000 ∧ d (x + 1) (y + 1) = min (min (d x (y + 1) + 1) (d (x + 1) y + 1)) (d (a.f - left) (b.f - top) + w))
    (hs2 : ∀ x y a b, x < r → y < c → D[left + x]? = some a → E[top + y]? = some b → a.f = left → b.f = top → d (x + 1) (y + 1) = min (min (d x (y + 1) + 1) (d (x + 1) y + 1)) (d x y + unH a b))
    (hlab : ∀ a ∈ D, ∀ b ∈ E, a.k ++ 34 :: a.t = b.k ++ 34 :: b.t ↔ a.k = b.k ∧ a.t = b.t) :
    Full Try.prog noY 29 [.ptr 0 0 0, .ptr 3 0 0, .int .i64 i, .int .i64 j, .dref bC nC nC] (fillS D E es0)
      fun o st' => ∃ es g, o = .ret (.tup []) ∧ Tab es bC nC bsC E.length g ∧ Filled g0 g D E d left top c r 0 ∧ st' = fillS D E es := by
  have lhi : i < D.length := (List.getElem?_eq_some_iff.1 hi).1
  have lhj : j < E.length := (List.getElem?_eq_some_iff.1 hj).1
  have hti := firR_get hi
  have htj := firR_get hj
  obtain ⟨dik, dit, dif⟩ := di
  obtain ⟨djk, djt, djf⟩ := dj
  simp only at hl ht
  subst hl; subst ht
  have hw1 : IntKind.i64.wrap (IntKind.i64.wrap ((i : Int) - dif) + 2) = ((r + 1 : Nat) : Int) := by rw [wrapS i dif (by omega) (by omega), wrapA2 _ (by omega), show i - dif + 2 = r + 1 by omega]
  have hw2 : IntKind.i64.wrap (IntKind.i64.wrap ((j : Int) - djf) + 2) = ((c + 1 : Nat) : Int) := by rw [wrapS j djf (by omega) (by omega), wrapA2 _ (by omega), show j - djf + 2 = c + 1 by omega]
  refine full_of_draw good Try.func29 rfl (by kernel_rfl) (by decide) fun X hX => ?_
  conv => whnf
  refine ⟨by omega, firR D, _, 1, rfl, hti, rfl, rfl, ?_⟩
  conv => whnf
  refine AtRow_intro _ hti ?_
  conv => whnf
  refine ⟨by omega, firR E, _, 1, rfl, htj, rfl, rfl, ?_⟩
  conv => whnf
  refine AtRow_intro _ htj ?_
  conv => whnf
  rw [hw1]
  refine semMake (k := 6) (m := r + 1) good rfl rfl rfl rfl rfl rfl rfl rfl (by show (r + 1) * 24 ≤ _; omega) (by omega) fun b hbf => ?_
  have hT := Tab.begin es0 b (r + 1) (c + 1) (fA 0)
  have hC := hC0.more [ent b (r + 1) 1 (List.replicate (r + 1) [.nils])]
  have hA : Apart (bC :: bsC) [b] := fun y hy hm => by
    simp at hm; subst hm; exact hC0.fresh hbf hy
  conv => whnf
  -- the rows, and the first column
  refine loop_drop (fun n fr st => ∃ (bs : List Nat) (es : List (List V)), n + bs.length = r + 1 ∧ st = fillS D E es ∧ Tab es b (r + 1) bs (c + 1) (fA bs.length) ∧ Tab es bC nC bsC E.length g0 ∧ Apart (bC :: bsC) (b :: bs) ∧
      Holds fr [(0, .ptr 0 0 0), (1, .ptr 3 0 0), (3, .int .i64 j), (4, .dref bC nC nC), (10, .int .i64 dif), (11, .int .i64 djf), (12, .dref b (r + 1) (r + 1)), (40, .int .i64 (r + 1 : Nat)), (41, .int .i64 bs.length)]) (r + 1) none ?_ ?_
  · exact ⟨[], _, rfl, rfl, hT, hC, hA, rfl, rfl, rfl, rfl, rfl, rfl, rfl, rfl, rfl, trivial⟩
  clear hT hC hA hC0 hbf
  rintro n fr st ⟨bs, es, hk, rfl, hT, hC, hA, hh⟩
  obtain ⟨fr, rfl⟩ := hh.split
  clear hh
  conv => whnf
  by_cases hlt : bs.length < r + 1
  · rw [ltB_t (by omega)]
    conv => whnf
    rw [hw2]
    refine semMake (k := 6) (m := c + 1) good rfl rfl rfl rfl rfl rfl rfl rfl (by show (c + 1) * 8 ≤ _; omega) (by omega) fun x hx => ?_
    have hG := hT.grow hlt (fA_zero _) hx
    have hxC := hC.fresh hx
    have hbC : b ∉ bC :: bsC := fun h => hA b h (by simp)
    have hG2 := hG.put (i := bs.length) (x := x) (by simp) 0 bs.length
    rw [fA_succ] at hG2
    have hC2 := ((hC.more [ent x (c + 1) 1 (List.replicate (c + 1) [.int .i64 0])]).other hbC ((rootR (r + 1) bs (c + 1)).set bs.length [.dref x (c + 1) (c + 1)])).other hxC ((numR (c + 1) (fA bs.length bs.length)).set 0 [.int .i64 bs.length])
    have hA2 : Apart (bC :: bsC) (b :: (bs ++ [x])) := hA.grow hxC rfl
    obtain ⟨y, hy, hy1, hy2⟩ := hG.at (i := bs.length) (by simp)
    have hyx : y = x := by simp at hy; exact hy.symm
    subst hyx
    conv => whnf
    refine ⟨by omega, by omega, ?_⟩
    conv => whnf
    refine ⟨6, r + 1, rootR (r + 1) bs (c + 1), [.nils], _, List.mem_append_left _ hT.root, rootR_nil hlt, rfl, ?_⟩
    conv => whnf
    refine ⟨by omega, by omega, ?_⟩
    conv => whnf
    refine ⟨6, r + 1, _, _, hG.root, hy1, ?_⟩
    conv => whnf
    refine ⟨by omega, by omega, ?_⟩
    conv => whnf
    refine ⟨6, c + 1, _, _, _, hy2, numR_get _ (by omega), rfl, ?_⟩
    conv => whnf
    refine ⟨n - 1, by omega, none, bs ++ [y], _, by simp; omega, rfl, by rw [List.length_append]; exact hG2, hC2, hA2, rfl, rfl, rfl, rfl, rfl, rfl, rfl, rfl, ?_, trivial⟩
    show V.int .i64 (IntKind.i64.wrap (bs.length + 1)) = _
    rw [wrapA1 bs.length (by omega)]; simp
  rw [ltB_f (by omega)]
  have hbl : bs.length = r + 1 := by have := hT.le; omega
  rw [hbl] at hT
  conv => whnf
  -- the first row
  obtain ⟨x, hx, hx1, hx2⟩ := hT.at (i := 0) (by omega)
  refine ⟨by omega, by omega, ?_⟩
  conv => whnf
  refine ⟨6, r + 1, _, _, hT.root, hx1, ?_⟩
  conv => whnf
  refine loop_drop (fun n fr st => ∃ (k : Nat) (es : List (List V)) (f : Nat → Nat → Int), n + k = c + 1 ∧ st = fillS D E es ∧ Tab es b (r + 1) bs (c + 1) f ∧ Tab es bC nC bsC E.length g0 ∧ (∀ x, x < r + 1 → f x 0 = x) ∧ (∀ y, y < k → f 0 y = y) ∧
      Holds fr [(0, .ptr 0 0 0), (1, .ptr 3 0 0), (4, .dref bC nC nC), (10, .int .i64 dif), (11, .int .i64 djf), (12, .dref b (r + 1) (r + 1)), (62, .int .i64 (c + 1 : Nat)), (63, .int .i64 k)]) (c + 1) none ?_ ?_
  · exact ⟨0, es, _, rfl, rfl, hT, hC, (fun x hx => by unfold fA; rw [if_pos ⟨rfl, hx⟩]), (fun x hx => absurd hx (Nat.not_lt_zero _)), rfl, rfl, rfl, rfl, rfl, rfl, rfl, rfl, trivial⟩
  clear hT hC es hx hx1 hx2 x
  rintro n fr st ⟨k, es, f, hk, rfl, hT, hC, hF, hG, hh⟩
  obtain ⟨fr, rfl⟩ := hh.split
  clear hh
  conv => whnf
  by_cases hltB : k < c + 1
  · rw [ltB_t (by omega)]
    conv => whnf
    obtain ⟨x, hx, hx1, hx2⟩ := hT.at (i := 0) (by omega)
    have hxC : x ∉ bC :: bsC := fun h => hA x h (List.mem_cons_of_mem _ (List.mem_of_getElem? hx))
    refine ⟨by omega, by omega, ?_⟩
    conv => whnf
    refine ⟨6, r + 1, _, _, hT.root, hx1, ?_⟩
    conv => whnf
    refine ⟨by omega, by omega, ?_⟩
    conv => whnf
    refine ⟨6, c + 1, _, _, _, hx2, numR_get _ hltB, rfl, ?_⟩
    conv => whnf
    refine ⟨n - 1, by omega, none, k + 1, _, _, by omega, rfl, hT.put hx k k, hC.other hxC _, ?_, ?_, rfl, rfl, rfl, rfl, rfl, rfl, rfl, ?_, trivial⟩
    · intro x hx
      unfold upd2
      by_cases e : x = 0 ∧ 0 = k
      · rw [if_pos e]; omega
      · rw [if_neg e]; exact hF x hx
    · intro y hy
      unfold upd2
      by_cases e : y = k
      · subst e; simp
      · rw [if_neg (fun h => e h.2)]; exact hG y (by omega)
    · show V.int .i64 (IntKind.i64.wrap (k + 1)) = _
      rw [wrapA1 k (by omega)]
  rw [ltB_f (by omega)]
  conv => whnf
  have hK : Known f d r c 0 0 := ⟨fun a b ha hb h => by
    rcases h with rfl | rfl | h | ⟨rfl, h⟩
    · rw [h1]; exact hG b (by omega)
    · rw [h0]; exact hF a (by omega)
    · obtain rfl : a = 0 := by omega
      rw [h1]; exact hG b (by omega)
    · obtain rfl : b = 0 := by omega
      rw [h0]; exact hF _ (by omega)⟩
  have hFi : Filled g0 g0 D E d dif djf c 0 0 := ⟨fun _ _ _ => rfl, fun k l s t _ _ _ _ _ h => by omega⟩
  clear hltB hk hF hG
  -- place by place
  refine loop_drop (fun n fr st => ∃ (k : Nat) (es : List (List V)) (f g : Nat → Nat → Int), n + k = r ∧ st = fillS D E es ∧ Tab es b (r + 1) bs (c + 1) f ∧ Tab es bC nC bsC E.length g ∧ Known f d r c k 0 ∧ Filled g0 g D E d dif djf c k 0 ∧
      Holds fr [(0, .ptr 0 0 0), (1, .ptr 3 0 0), (4, .dref bC nC nC), (10, .int .i64 dif), (11, .int .i64 djf), (12, .dref b (r + 1) (r + 1)), (15, .int .i64 (k + 1 : Nat))]) r none ?_ ?_
  · exact ⟨0, es, f, g0, rfl, rfl, hT, hC, hK, hFi, rfl, rfl, rfl, rfl, rfl, rfl, rfl, trivial⟩
  clear hT hC hK hFi es f
  rintro n fr st ⟨k, es, f, g, hk, rfl, hT, hC, hK, hFi, hh⟩
  obtain ⟨fr, rfl⟩ := hh.split
  clear hh
  conv => whnf
  by_cases hltk : k < r
  · rw [ltB_t (by omega)]
    conv => whnf
    refine loop_drop (fun n fr st => ∃ (l : Nat) (es : List (List V)) (f g : Nat → Nat → Int), n + l = c ∧ st = fillS D E es ∧ Tab es b (r + 1) bs (c + 1) f ∧ Tab es bC nC bsC E.length g ∧ Known f d r c k l ∧ Filled g0 g D E d dif djf c k l ∧
        Holds fr [(0, .ptr 0 0 0), (1, .ptr 3 0 0), (4, .dref bC nC nC), (10, .int .i64 dif), (11, .int .i64 djf), (12, .dref b (r + 1) (r + 1)), (15, .int .i64 (k + 1 : Nat)), (16, .int .i64 (l + 1 : Nat))]) c none ?_ ?_
    · exact ⟨0, es, f, g, rfl, rfl, hT, hC, hK, hFi, rfl, rfl, rfl, rfl, rfl, rfl, rfl, rfl, trivial⟩
    clear hT hC hK hFi es f g
    rintro m fr st ⟨l, es, f, g, hl, rfl, hT, hC, hK, hFi, hh⟩
    obtain ⟨fr, rfl⟩ := hh.split
    clear hh
    obtain ⟨xz, hxz, hxz1, hxz2⟩ := hT.at (i := 0) (by omega)
    conv => whnf
    refine ⟨by omega, by omega, ?_⟩
    conv => whnf
    refine ⟨6, r + 1, _, _, hT.root, hxz1, ?_⟩
    conv => whnf
    by_cases hltl : l < c
    · rw [ltB_t (by omega)]
      have hwa : IntKind.i64.wrap (IntKind.i64.wrap ((dif : Int) + ((k + 1 : Nat) : Int)) - 1) = ((dif + k : Nat) : Int) := by rw [wrapA dif (k + 1) (by omega), wrapS1 _ (by omega) (by omega), show dif + (k + 1) - 1 = dif + k by omega]
      have hwb : IntKind.i64.wrap (IntKind.i64.wrap ((djf : Int) + ((l + 1 : Nat) : Int)) - 1) = ((djf + l : Nat) : Int) := by rw [wrapA djf (l + 1) (by omega), wrapS1 _ (by omega) (by omega), show djf + (l + 1) - 1 = djf + l by omega]
      conv => whnf
      rw [hwa, hwb]
      obtain ⟨was, hwas⟩ : ∃ a, D[dif + k]? = some a := ⟨_, List.getElem?_eq_getElem (by omega)⟩
      obtain ⟨is, his⟩ : ∃ a, E[djf + l]? = some a := ⟨_, List.getElem?_eq_getElem (by omega)⟩
      have e1 := hf k was hltk hwas
      have e2 := hf' l is hltl his
      have e3 := hs1 k l was is hltk hltl hwas his
      have e4 := hs2 k l was is hltk hltl hwas his
      have hlb := hlab was (List.mem_of_getElem? hwas) is (List.mem_of_getElem? his)
      have fw := firR_get hwas
      have fi := firR_get his
      have lw := labR_get hwas
      have li := labR_get his
      obtain ⟨wk, wt, wf⟩ := was
      obtain ⟨ik, it, jf⟩ := is
      simp only at e1 e2 e3 e4 hlb fw fi lw li
      refine ⟨by omega, firR D, _, 1, rfl, fw, rfl, rfl, ?_⟩
      conv => whnf
      refine AtRow_intro _ fw ?_
      conv => whnf
      have hwx : IntKind.i64.wrap (((k + 1 : Nat) : Int) - 1) = (k : Int) := by rw [wrapS1 (k + 1) (by omega) (by omega)]; simp
      have hwy : IntKind.i64.wrap (((l + 1 : Nat) : Int) - 1) = (l : Int) := by rw [wrapS1 (l + 1) (by omega) (by omega)]; simp
      have hws1 := wrapS wf dif (by omega) (by omega)
      have hws2 := wrapS jf djf (by omega) (by omega)
      obtain ⟨xk, hx0, hx1, hx2⟩ := hT.at (i := k) (by omega)
      obtain ⟨xk', hy0, hy1, hy2⟩ := hT.at (i := k + 1) (by omega)
      obtain ⟨xf, hz0, hz1, hz2⟩ := hT.at (i := wf - dif) (by omega)
      obtain ⟨xc, hc0, hc1', hc2⟩ := hC.at (i := dif + k) (by omega)
      have k1 := hK.done k l (by omega) (by omega) (by omega)
      have k2 := hK.done k (l + 1) (by omega) (by omega) (by omega)
      have k3 := hK.done (k + 1) l (by omega) (by omega) (by omega)
      have k4 := hK.done (wf - dif) (jf - djf) (by omega) (by omega) (by omega)
      have b1 := hb k l (by omega) (by omega)
      have b2 := hb k (l + 1) (by omega) (by omega)
      have b3 := hb (k + 1) l (by omega) (by omega)
      have b4 := hb (wf - dif) (jf - djf) (by omega) (by omega)
      have bu : unH ⟨wk, wt, wf⟩ ⟨ik, it, jf⟩ ≤ 1 := by unfold unH; split <;> omega
      have hval : ∀ v : Nat, d (k + 1) (l + 1) = min (min (d k (l + 1) + 1) (d (k + 1) l + 1)) v → mn (mn (IntKind.i64.wrap (f k (l + 1) + 1)) (IntKind.i64.wrap (f (k + 1) l + 1))) (v : Int) = d (k + 1) (l + 1) := fun v hv => by
        rw [k2, k3, wrapA1 _ (by omega), wrapA1 _ (by omega)]
        unfold mn; split <;> split <;> omega
      have hkC : xk' ∉ bC :: bsC := fun h => hA xk' h (List.mem_cons_of_mem _ (List.mem_of_getElem? hy0))
      have hcM : xc ∉ b :: bs := fun h => hA xc (List.mem_cons_of_mem _ (List.mem_of_getElem? hc0)) h
      have hnxt : ∀ val : Int, val = d (k + 1) (l + 1) → Known (upd2 f (k + 1) (l + 1) val) d r c k (l + 1) := fun val hv => ⟨fun x y hx hy h => by
        unfold upd2
        by_cases e : x = k + 1 ∧ y = l + 1
        · rw [if_pos e, e.1, e.2]; exact hv
        · rw [if_neg e]; exact hK.done x y hx hy (by omega)⟩
      have hwl2 : V.int .i64 (IntKind.i64.wrap (((l + 1 : Nat) : Int) + 1)) = .int .i64 (l + 1 + 1 : Nat) := by rw [wrapA1 (l + 1) (by omega)]
      by_cases a1 : wf = dif
      · rw [eqB_t (by omega)]
        conv => whnf
        refine ⟨by omega, firR E, _, 1, rfl, fi, rfl, rfl, ?_⟩
        conv => whnf
        refine AtRow_intro _ fi ?_
        conv => whnf
        by_cases a2 : jf = djf
        · rw [eqB_t (by omega)]
          conv => whnf
          refine draw_go hX ?_
          conv => whnf
          refine ⟨by omega, labR D, _, 1, rfl, lw, rfl, rfl, ?_⟩
          conv => whnf
          refine AtRow_intro _ lw ?_
          conv => whnf
          refine ⟨by omega, labR E, _, 1, rfl, li, rfl, rfl, ?_⟩
          conv => whnf
          refine AtRow_intro _ li ?_
          conv => whnf
          by_cases hq : wk ++ 34 :: wt = ik ++ 34 :: it
          · rw [eqS_t hq]
            have hu : unH ⟨wk, wt, wf⟩ ⟨ik, it, jf⟩ = 0 := by unfold unH; rw [if_pos (hlb.1 hq)]
            conv => whnf
            refine draw_with hX [(0, .ptr 0 0 0), (1, .ptr 3 0 0), (4, .dref bC nC nC), (10, .int .i64 dif), (11, .int .i64 djf), (12, .dref b (r + 1) (r + 1)), (15, .int .i64 (k + 1 : Nat)), (16, .int .i64 (l + 1 : Nat)), (17, .int .i64 (dif + k : Nat)), (18, .int .i64 (djf + l : Nat)), (19, .int .i64 (unH ⟨wk, wt, wf⟩ ⟨ik, it, jf⟩ : Nat))] ⟨rfl, rfl, rfl, rfl, rfl, rfl, rfl, rfl, rfl, rfl, by rw [hu]; rfl, trivial⟩ fun C hC' fr => ?_
            conv => whnf
            refine ⟨by omega, by omega, ?_⟩
            conv => whnf
            refine ⟨6, r + 1, _, _, hT.root, hy1, ?_⟩
            conv => whnf
            refine ⟨by rw [hwx]; omega, by rw [hwx]; omega, ?_⟩
            conv => whnf
            refine ⟨6, r + 1, _, _, hT.root, by rw [hwx]; exact hx1, ?_⟩
            conv => whnf
            refine ⟨by omega, by omega, ?_⟩
            conv => whnf
            refine ⟨6, c + 1, _, _, hx2, numR_get _ (by omega), ?_⟩
            conv => whnf
            refine ⟨by omega, by omega, ?_⟩
            conv => whnf
            refine ⟨6, r + 1, _, _, hT.root, hy1, ?_⟩
            conv => whnf
            refine ⟨by rw [hwy]; omega, by rw [hwy]; omega, ?_⟩
            conv => whnf
            refine ⟨6, c + 1, _, _, hy2, by rw [hwy]; exact numR_get _ (by omega), ?_⟩
            conv => whnf
            refine ⟨by rw [hwx]; omega, by rw [hwx]; omega, ?_⟩
            conv => whnf
            refine ⟨6, r + 1, _, _, hT.root, by rw [hwx]; exact hx1, ?_⟩
            conv => whnf
            refine ⟨by rw [hwy]; omega, by rw [hwy]; omega, ?_⟩
            conv => whnf
            refine ⟨6, c + 1, _, _, hx2, by rw [hwy]; exact numR_get _ (by omega), ?_⟩
            conv => whnf
            refine ⟨_, .inl (l5Least_pure _ _ _), ?_⟩
            conv => whnf
            refine ⟨by omega, by omega, ?_⟩
            conv => whnf
            refine ⟨6, c + 1, _, _, putEnt xk' ((numR (c + 1) (f (k + 1))).set (l + 1) [.int .i64 (mn (mn (IntKind.i64.wrap (f k (l + 1) + 1)) (IntKind.i64.wrap (f (k + 1) l + 1))) (IntKind.i64.wrap (f k l + (unH ⟨wk, wt, wf⟩ ⟨ik, it, jf⟩ : Nat))))]) es, hy2, numR_get _ (by omega), rfl, ?_⟩
            conv => whnf
            refine hC' _ _ ?_
            clear hC'
            have hv1 : (mn (mn (IntKind.i64.wrap (f k (l + 1) + 1)) (IntKind.i64.wrap (f (k + 1) l + 1))) (IntKind.i64.wrap (f k l + (unH ⟨wk, wt, wf⟩ ⟨ik, it, jf⟩ : Nat)))) = d (k + 1) (l + 1) := by
              rw [k1, wrapA _ _ (by omega)]; exact hval _ (e4 a1 a2)
            have hT1 := hT.put hy0 (l + 1) (mn (mn (IntKind.i64.wrap (f k (l + 1) + 1)) (IntKind.i64.wrap (f (k + 1) l + 1))) (IntKind.i64.wrap (f k l + (unH ⟨wk, wt, wf⟩ ⟨ik, it, jf⟩ : Nat))))
            have hC1 := hC.other hkC ((numR (c + 1) (f (k + 1))).set (l + 1) [.int .i64 (mn (mn (IntKind.i64.wrap (f k (l + 1) + 1)) (IntKind.i64.wrap (f (k + 1) l + 1))) (IntKind.i64.wrap (f k l + (unH ⟨wk, wt, wf⟩ ⟨ik, it, jf⟩ : Nat))))])
            have hK1 := hnxt _ hv1
            generalize (mn (mn (IntKind.i64.wrap (f k (l + 1) + 1)) (IntKind.i64.wrap (f (k + 1) l + 1))) (IntKind.i64.wrap (f k l + (unH ⟨wk, wt, wf⟩ ⟨ik, it, jf⟩ : Nat)))) = val at *
            have hr1' := hT1.row _ _ hy0
            have hr2' := hC1.row _ _ hc0
            have hff : upd2 f (k + 1) (l + 1) val (k + 1) (l + 1) = val := by unfold upd2; rw [if_pos ⟨rfl, rfl⟩]
            generalize upd2 f (k + 1) (l + 1) val = f1 at *
            generalize putEnt xk' ((numR (c + 1) (f (k + 1))).set (l + 1) [.int .i64 val]) es = es1 at *
            conv => whnf
            refine draw_go hX ?_
            conv => whnf
            refine ⟨by omega, by omega, ?_⟩
            conv => whnf
            refine ⟨6, nC, _, _, hC1.root, hc1', ?_⟩
            conv => whnf
            refine ⟨by omega, by omega, ?_⟩
            conv => whnf
            refine ⟨6, r + 1, _, _, hT1.root, hy1, ?_⟩
            conv => whnf
            refine ⟨by omega, by omega, ?_⟩
            conv => whnf
            refine ⟨6, c + 1, _, _, hr1', numR_get _ (by omega), ?_⟩
            conv => whnf
            refine ⟨by omega, by omega, ?_⟩
            conv => whnf
            refine ⟨6, E.length, _, _, _, hr2', numR_get _ (by omega), rfl, ?_⟩
            conv => whnf
            exact ⟨m - 1, by omega, none, l + 1, _, f1, _, by omega, rfl, hT1.other hcM _, hC1.put hc0 (djf + l) (f1 (k + 1) (l + 1)), hK1, hFi.step hwas his a1 a2 (hff.trans hv1), rfl, rfl, rfl, rfl, rfl, rfl, rfl, hwl2, trivial⟩
          · rw [eqS_f hq]
            have hu : unH ⟨wk, wt, wf⟩ ⟨ik, it, jf⟩ = 1 := by unfold unH; rw [if_neg (fun h => hq (hlb.2 h))]
            conv => whnf
            refine draw_with hX [(0, .ptr 0 0 0), (1, .ptr 3 0 0), (4, .dref bC nC nC), (10, .int .i64 dif), (11, .int .i64 djf), (12, .dref b (r + 1) (r + 1)), (15, .int .i64 (k + 1 : Nat)), (16, .int .i64 (l + 1 : Nat)), (17, .int .i64 (dif + k : Nat)), (18, .int .i64 (djf + l : Nat)), (19, .int .i64 (unH ⟨wk, wt, wf⟩ ⟨ik, it, jf⟩ : Nat))] ⟨rfl, rfl, rfl, rfl, rfl, rfl, rfl, rfl, rfl, rfl, by rw [hu]; rfl, trivial⟩ fun C hC' fr => ?_
            conv => whnf
            refine ⟨by omega, by omega, ?_⟩
            conv => whnf
            refine ⟨6, r + 1, _, _, hT.root, hy1, ?_⟩
            conv => whnf
            refine ⟨by rw [hwx]; omega, by rw [hwx]; omega, ?_⟩
            conv => whnf
            refine ⟨6, r + 1, _, _, hT.root, by rw [hwx]; exact hx1, ?_⟩
            conv => whnf
            refine ⟨by omega, by omega, ?_⟩
            conv => whnf
            refine ⟨6, c + 1, _, _, hx2, numR_get _ (by omega), ?_⟩
            conv => whnf
            refine ⟨by omega, by omega, ?_⟩
            conv => whnf
            refine ⟨6, r + 1, _, _, hT.root, hy1, ?_⟩
            conv => whnf
            refine ⟨by rw [hwy]; omega, by rw [hwy]; omega, ?_⟩
            conv => whnf
            refine ⟨6, c + 1, _, _, hy2, by rw [hwy]; exact numR_get _ (by omega), ?_⟩
            conv => whnf
            refine ⟨by rw [hwx]; omega, by rw [hwx]; omega, ?_⟩
            conv => whnf
            refine ⟨6, r + 1, _, _, hT.root, by rw [hwx]; exact hx1, ?_⟩
            conv => whnf
            refine ⟨by rw [hwy]; omega, by rw [hwy]; omega, ?_⟩
            conv => whnf
            refine ⟨6, c + 1, _, _, hx2, by rw [hwy]; exact numR_get _ (by omega), ?_⟩
            conv => whnf
            refine ⟨_, .inl (l5Least_pure _ _ _), ?_⟩
            conv => whnf
            refine ⟨by omega, by omega, ?_⟩
            conv => whnf
            refine ⟨6, c + 1, _, _, putEnt xk' ((numR (c + 1) (f (k + 1))).set (l + 1) [.int .i64 (mn (mn (IntKind.i64.wrap (f k (l + 1) + 1)) (IntKind.i64.wrap (f (k + 1) l + 1))) (IntKind.i64.wrap (f k l + (unH ⟨wk, wt, wf⟩ ⟨ik, it, jf⟩ : Nat))))]) es, hy2, numR_get _ (by omega), rfl, ?_⟩
            conv => whnf
            refine hC' _ _ ?_
            clear hC'
            have hv1 : (mn (mn (IntKind.i64.wrap (f k (l + 1) + 1)) (IntKind.i64.wrap (f (k + 1) l + 1))) (IntKind.i64.wrap (f k l + (unH ⟨wk, wt, wf⟩ ⟨ik, it, jf⟩ : Nat)))) = d (k + 1) (l + 1) := by
              rw [k1, wrapA _ _ (by omega)]; exact hval _ (e4 a1 a2)
            have hT1 := hT.put hy0 (l + 1) (mn (mn (IntKind.i64.wrap (f k (l + 1) + 1)) (IntKind.i64.wrap (f (k + 1) l + 1))) (IntKind.i64.wrap (f k l + (unH ⟨wk, wt, wf⟩ ⟨ik, it, jf⟩ : Nat))))
            have hC1 := hC.other hkC ((numR (c + 1) (f (k + 1))).set (l + 1) [.int .i64 (mn (mn (IntKind.i64.wrap (f k (l + 1) + 1)) (IntKind.i64.wrap (f (k + 1) l + 1))) (IntKind.i64.wrap (f k l + (unH ⟨wk, wt, wf⟩ ⟨ik, it, jf⟩ : Nat))))])
            have hK1 := hnxt _ hv1
            generalize (mn (mn (IntKind.i64.wrap (f k (l + 1) + 1)) (IntKind.i64.wrap (f (k + 1) l + 1))) (IntKind.i64.wrap (f k l + (unH ⟨wk, wt, wf⟩ ⟨ik, it, jf⟩ : Nat)))) = val at *
            have hr1' := hT1.row _ _ hy0
            have hr2' := hC1.row _ _ hc0
            have hff : upd2 f (k + 1) (l + 1) val (k + 1) (l + 1) = val := by unfold upd2; rw [if_pos ⟨rfl, rfl⟩]
            generalize upd2 f (k + 1) (l + 1) val = f1 at *
            generalize putEnt xk' ((numR (c + 1) (f (k + 1))).set (l + 1) [.int .i64 val]) es = es1 at *
            conv => whnf
            refine draw_go hX ?_
            conv => whnf
            refine ⟨by omega, by omega, ?_⟩
            conv => whnf
            refine ⟨6, nC, _, _, hC1.root, hc1', ?_⟩
            conv => whnf
            refine ⟨by omega, by omega, ?_⟩
            conv => whnf
            refine ⟨6, r + 1, _, _, hT1.root, hy1, ?_⟩
            conv => whnf
            refine ⟨by omega, by omega, ?_⟩
            conv => whnf
            refine ⟨6, c + 1, _, _, hr1', numR_get _ (by omega), ?_⟩
            conv => whnf
            refine ⟨by omega, by omega, ?_⟩
            conv => whnf
            refine ⟨6, E.length, _, _, _, hr2', numR_get _ (by omega), rfl, ?_⟩
            conv => whnf
            exact ⟨m - 1, by omega, none, l + 1, _, f1, _, by omega, rfl, hT1.other hcM _, hC1.put hc0 (djf + l) (f1 (k + 1) (l + 1)), hK1, hFi.step hwas his a1 a2 (hff.trans hv1), rfl, rfl, rfl, rfl, rfl, rfl, rfl, hwl2, trivial⟩
        · rw [eqB_f (by omega)]
          conv => whnf
          refine draw_with hX [(0, .ptr 0 0 0), (1, .ptr 3 0 0), (4, .dref bC nC nC), (10, .int .i64 dif), (11, .int .i64 djf), (12, .dref b (r + 1) (r + 1)), (15, .int .i64 (k + 1 : Nat)), (16, .int .i64 (l + 1 : Nat)), (17, .int .i64 (dif + k : Nat)), (18, .int .i64 (djf + l : Nat))] ⟨rfl, rfl, rfl, rfl, rfl, rfl, rfl, rfl, rfl, rfl, trivial⟩ fun C hC' fr => ?_
          conv => whnf
          refine ⟨by omega, by omega, ?_⟩
          conv => whnf
          refine ⟨6, r + 1, _, _, hT.root, hy1, ?_⟩
          conv => whnf
          refine ⟨by rw [hwx]; omega, by rw [hwx]; omega, ?_⟩
          conv => whnf
          refine ⟨6, r + 1, _, _, hT.root, by rw [hwx]; exact hx1, ?_⟩
          conv => whnf
          refine ⟨by omega, by omega, ?_⟩
          conv => whnf
          refine ⟨6, c + 1, _, _, hx2, numR_get _ (by omega), ?_⟩
          conv => whnf
          refine ⟨by omega, by omega, ?_⟩
          conv => whnf
          refine ⟨6, r + 1, _, _, hT.root, hy1, ?_⟩
          conv => whnf
          refine ⟨by rw [hwy]; omega, by rw [hwy]; omega, ?_⟩
          conv => whnf
          refine ⟨6, c + 1, _, _, hy2, by rw [hwy]; exact numR_get _ (by omega), ?_⟩
          conv => whnf
          refine ⟨by omega, firR D, _, 1, rfl, fw, rfl, rfl, ?_⟩
          conv => whnf
          refine AtRow_intro _ fw ?_
          conv => whnf
          refine ⟨by rw [hws1]; omega, by rw [hws1]; omega, ?_⟩
          conv => whnf
          refine ⟨6, r + 1, _, _, hT.root, by rw [hws1]; exact hz1, ?_⟩
          conv => whnf
          refine ⟨by omega, firR E, _, 1, rfl, fi, rfl, rfl, ?_⟩
          conv => whnf
          refine AtRow_intro _ fi ?_
          conv => whnf
          refine ⟨by rw [hws2]; omega, by rw [hws2]; omega, ?_⟩
          conv => whnf
          refine ⟨6, c + 1, _, _, hz2, by rw [hws2]; exact numR_get _ (by omega), ?_⟩
          conv => whnf
          refine ⟨by omega, by omega, ?_⟩
          conv => whnf
          refine ⟨6, nC, _, _, hC.root, hc1', ?_⟩
          conv => whnf
          refine ⟨by omega, by omega, ?_⟩
          conv => whnf
          refine ⟨6, E.length, _, _, hc2, numR_get _ (by omega), ?_⟩
          conv => whnf
          refine ⟨_, .inl (l5Least_pure _ _ _), ?_⟩
          conv => whnf
          refine ⟨by omega, by omega, ?_⟩
          conv => whnf
          refine ⟨6, c + 1, _, _, putEnt xk' ((numR (c + 1) (f (k + 1))).set (l + 1) [.int .i64 (mn (mn (IntKind.i64.wrap (f k (l + 1) + 1)) (IntKind.i64.wrap (f (k + 1) l + 1))) (IntKind.i64.wrap (f (wf - dif) (jf - djf) + g (dif + k) (djf + l))))]) es, hy2, numR_get _ (by omega), rfl, ?_⟩
          conv => whnf
          refine hC' _ _ ?_
          clear hC'
          have hgo := hFi.old (dif + k) (djf + l) (fun s t p1 p2 _ _ p3 p4 => by
            rw [hwas] at p1; rw [his] at p2
            cases p1; cases p2
            exact a2 p4)
          have hv1 : (mn (mn (IntKind.i64.wrap (f k (l + 1) + 1)) (IntKind.i64.wrap (f (k + 1) l + 1))) (IntKind.i64.wrap (f (wf - dif) (jf - djf) + g (dif + k) (djf + l)))) = d (k + 1) (l + 1) := by
            obtain ⟨w, w1, w2, w3⟩ := e3 (.inr (by omega))
            rw [k4, hgo, w1, wrapA _ _ (by omega)]; exact hval _ w3
          have hT1 := hT.put hy0 (l + 1) (mn (mn (IntKind.i64.wrap (f k (l + 1) + 1)) (IntKind.i64.wrap (f (k + 1) l + 1))) (IntKind.i64.wrap (f (wf - dif) (jf - djf) + g (dif + k) (djf + l))))
          have hC1 := hC.other hkC ((numR (c + 1) (f (k + 1))).set (l + 1) [.int .i64 (mn (mn (IntKind.i64.wrap (f k (l + 1) + 1)) (IntKind.i64.wrap (f (k + 1) l + 1))) (IntKind.i64.wrap (f (wf - dif) (jf - djf) + g (dif + k) (djf + l))))])
          have hK1 := hnxt _ hv1
          have hF1 := hFi.skip hwas his (fun h => a2 h.2)
          conv => whnf
          exact ⟨m - 1, by omega, none, l + 1, _, _, g, by omega, rfl, hT1, hC1, hK1, hF1, rfl, rfl, rfl, rfl, rfl, rfl, rfl, hwl2, trivial⟩
      · rw [eqB_f (by omega)]
        conv => whnf
        refine draw_with hX [(0, .ptr 0 0 0), (1, .ptr 3 0 0), (4, .dref bC nC nC), (10, .int .i64 dif), (11, .int .i64 djf), (12, .dref b (r + 1) (r + 1)), (15, .int .i64 (k + 1 : Nat)), (16, .int .i64 (l + 1 : Nat)), (17, .int .i64 (dif + k : Nat)), (18, .int .i64 (djf + l : Nat))] ⟨rfl, rfl, rfl, rfl, rfl, rfl, rfl, rfl, rfl, rfl, trivial⟩ fun C hC' fr => ?_
        conv => whnf
        refine ⟨by omega, by omega, ?_⟩
        conv => whnf
        refine ⟨6, r + 1, _, _, hT.root, hy1, ?_⟩
        conv => whnf
        refine ⟨by rw [hwx]; omega, by rw [hwx]; omega, ?_⟩
        conv => whnf
        refine ⟨6, r + 1, _, _, hT.root, by rw [hwx]; exact hx1, ?_⟩
        conv => whnf
        refine ⟨by omega, by omega, ?_⟩
        conv => whnf
        refine ⟨6, c + 1, _, _, hx2, numR_get _ (by omega), ?_⟩
        conv => whnf
        refine ⟨by omega, by omega, ?_⟩
        conv => whnf
        refine ⟨6, r + 1, _, _, hT.root, hy1, ?_⟩
        conv => whnf
        refine ⟨by rw [hwy]; omega, by rw [hwy]; omega, ?_⟩
        conv => whnf
        refine ⟨6, c + 1, _, _, hy2, by rw [hwy]; exact numR_get _ (by omega), ?_⟩
        conv => whnf
        refine ⟨by omega, firR D, _, 1, rfl, fw, rfl, rfl, ?_⟩
        conv => whnf
        refine AtRow_intro _ fw ?_
        conv => whnf
        refine ⟨by rw [hws1]; omega, by rw [hws1]; omega, ?_⟩
        conv => whnf
        refine ⟨6, r + 1, _, _, hT.root, by rw [hws1]; exact hz1, ?_⟩
        conv => whnf
        refine ⟨by omega, firR E, _, 1, rfl, fi, rfl, rfl, ?_⟩
        conv => whnf
        refine AtRow_intro _ fi ?_
        conv => whnf
        refine ⟨by rw [hws2]; omega, by rw [hws2]; omega, ?_⟩
        conv => whnf
        refine ⟨6, c + 1, _, _, hz2, by rw [hws2]; exact numR_get _ (by omega), ?_⟩
        conv => whnf
        refine ⟨by omega, by omega, ?_⟩
        conv => whnf
        refine ⟨6, nC, _, _, hC.root, hc1', ?_⟩
        conv => whnf
        refine ⟨by omega, by omega, ?_⟩
        conv => whnf
        refine ⟨6, E.length, _, _, hc2, numR_get _ (by omega), ?_⟩
        conv => whnf
        refine ⟨_, .inl (l5Least_pure _ _ _), ?_⟩
        conv => whnf
        refine ⟨by omega, by omega, ?_⟩
        conv => whnf
        refine ⟨6, c + 1, _, _, putEnt xk' ((numR (c + 1) (f (k + 1))).set (l + 1) [.int .i64 (mn (mn (IntKind.i64.wrap (f k (l + 1) + 1)) (IntKind.i64.wrap (f (k + 1) l + 1))) (IntKind.i64.wrap (f (wf - dif) (jf - djf) + g (dif + k) (djf + l))))]) es, hy2, numR_get _ (by omega), rfl, ?_⟩
        conv => whnf
        refine hC' _ _ ?_
        clear hC'
        have hgo := hFi.old (dif + k) (djf + l) (fun s t p1 p2 _ _ p3 p4 => by
          rw [hwas] at p1; rw [his] at p2
          cases p1; cases p2
          exact a1 p3)
        have hv1 : (mn (mn (IntKind.i64.wrap (f k (l + 1) + 1)) (IntKind.i64.wrap (f (k + 1) l + 1))) (IntKind.i64.wrap (f (wf - dif) (jf - djf) + g (dif + k) (djf + l)))) = d (k + 1) (l + 1) := by
          obtain ⟨w, w1, w2, w3⟩ := e3 (.inl (by omega))
          rw [k4, hgo, w1, wrapA _ _ (by omega)]; exact hval _ w3
        have hT1 := hT.put hy0 (l + 1) (mn (mn (IntKind.i64.wrap (f k (l + 1) + 1)) (IntKind.i64.wrap (f (k + 1) l + 1))) (IntKind.i64.wrap (f (wf - dif) (jf - djf) + g (dif + k) (djf + l))))
        have hC1 := hC.other hkC ((numR (c + 1) (f (k + 1))).set (l + 1) [.int .i64 (mn (mn (IntKind.i64.wrap (f k (l + 1) + 1)) (IntKind.i64.wrap (f (k + 1) l + 1))) (IntKind.i64.wrap (f (wf - dif) (jf - djf) + g (dif + k) (djf + l))))])
        have hK1 := hnxt _ hv1
        have hF1 := hFi.skip hwas his (fun h => a1 h.1)
        conv => whnf
        exact ⟨m - 1, by omega, none, l + 1, _, _, g, by omega, rfl, hT1, hC1, hK1, hF1, rfl, rfl, rfl, rfl, rfl, rfl, rfl, hwl2, trivial⟩
    · rw [ltB_f (by omega)]
      conv => whnf
      refine ⟨n - 1, by omega, none, k + 1, es, f, g, by omega, rfl, hT, hC, ⟨fun a b ha hb h => hK.done a b ha hb (by omega)⟩, ⟨hFi.old, fun a b s t h1 h2 h3 h4 h5 h => hFi.new a b s t h1 h2 h3 h4 h5 (by omega)⟩, rfl, rfl, rfl, rfl, rfl, rfl, ?_, trivial⟩
      · show V.int .i64 (IntKind.i64.wrap ((k + 1 : Nat) + 1)) = _
        rw [wrapA1 (k + 1) (by omega)]
  · rw [ltB_f (by omega)]
    conv => whnf
    obtain rfl : k = r := by omega
    refine ⟨[], false, ?_⟩
    conv => whnf
    exact ⟨es, g, rfl, hC, hFi, rfl⟩
end Go.Cod

namespace Go.Cod
open Go Go.Proofs
set_option linter.all false
set_option maxRecDepth 10000

/-- The places of things that are not the first in what they are in. -/
def partKey (D : List Th) (i k : Nat) : Bool := (List.range k).all fun x => !decide (i < x) || !decide (fstOf D x = fstOf D i)
theorem partKey_iff (D : List Th) (i k : Nat) : partKey D i k = true ↔ ∀ x, i < x → x < k → fstOf D x ≠ fstOf D i := by
  unfold partKey
  rw [List.all_eq_true]
  constructor
  · intro H x h1 h2 e
    have := H x (List.mem_range.2 h2)
    rw [decide_eq_true h1, decide_eq_true e] at this
    cases this
  · intro H x hx
    by_cases h1 : i < x
    · rw [decide_eq_true h1, decide_eq_false (H x h1 (List.mem_range.1 hx))]; rfl
    · rw [decide_eq_false h1]; rfl
def isKey (D : List Th) (i : Nat) : Bool := partKey D i D.length
def keysL (D : List Th) (n : Nat) : List Nat := (List.range n).filter (isKey D)
def nI (l : List Nat) : List Int := l.map fun (n : Nat) => (n : Int)
theorem nI_len (l : List Nat) : (nI l).length = l.length := by simp [nI]
theorem keysL_succ (D : List Th) (n : Nat) : keysL D (n + 1) = keysL D n ++ if isKey D n then [n] else [] := by
  unfold keysL
  rw [List.range_succ, List.filter_append]
  congr 1
  by_cases h : isKey D n = true <;> simp [h]
theorem keysL_len (D : List Th) (n : Nat) : (keysL D n).length ≤ n := by
  have := List.length_filter_le (isKey D) (List.range n)
  rw [List.length_range] at this; exact this
theorem keysL_nil (D : List Th) (h : D ≠ []) : keysL D D.length ≠ [] := by
  have hp := List.length_pos_iff.2 h
  intro e
  have hm : D.length - 1 ∈ keysL D D.length := by
    unfold keysL
    rw [List.mem_filter]
    refine ⟨List.mem_range.2 (by omega), ?_⟩
    unfold isKey
    rw [partKey_iff]
    intro k h1 h2; omega
  rw [e] at hm; cases hm
theorem fir_fst {D : List Th} {i : Nat} (h : i < D.length) : (firR D)[i]? = some [.int .i64 (fstOf D i)] := by
  have e := List.getElem?_eq_getElem h
  rw [firR_get e, fstOf_get e]
theorem partKey_succ (D : List Th) (i k : Nat) (h : i < k) : partKey D i (k + 1) = (partKey D i k && decide (fstOf D k ≠ fstOf D i)) := by
  rw [Bool.eq_iff_iff, Bool.and_eq_true, partKey_iff, partKey_iff, decide_eq_true_eq]
  constructor
  · exact fun H => ⟨fun x h1 h2 => H x h1 (by omega), H k h (by omega)⟩
  · intro ⟨H1, H2⟩ x h1 h2
    rcases Nat.lt_or_ge x k with h3 | h3
    · exact H1 x h1 h3
    · have : x = k := by omega
      subst this; exact H2
set_option maxHeartbeats 8000000 in
theorem keys_full (D : List Th) (hD : D ≠ []) (lD : D.length ≤ 1000) : Full Try.prog noY 28 [.ptr 0 0 0] [pboxO (.own 1) (.own 2), ⟨labR D, 1, true, true, false, .cell⟩, ⟨firR D, 1, true, true, false, .cell⟩]
    fun o st' => o = .ret (.own 3) ∧ st' = [pboxO (.own 1) (.own 2), ⟨labR D, 1, true, true, false, .cell⟩, ⟨firR D, 1, true, true, false, .cell⟩, ⟨irows (nI (keysL D D.length)), 1, true, true, false, .cell⟩] := by
  have hfl := firR_len D
  have hnn := keysL_nil D hD
  refine full_of_draw good Try.func28 rfl (by kernel_rfl) (by decide) fun X hX => ?_
  conv => whnf
  refine loop_drop (fun n fr st => ∃ i : Nat, n + i = D.length ∧
      ((keysL D i = [] ∧ Holds fr [(0, .ptr 0 0 0), (3, .nils), (4, .int .i64 i)] ∧ st = [pboxO (.own 1) (.own 2), ⟨labR D, 1, true, true, false, .cell⟩, ⟨firR D, 1, true, true, false, .cell⟩]) ∨
       (keysL D i ≠ [] ∧ Holds fr [(0, .ptr 0 0 0), (3, .own 3), (4, .int .i64 i)] ∧ st = [pboxO (.own 1) (.own 2), ⟨labR D, 1, true, true, false, .cell⟩, ⟨firR D, 1, true, true, false, .cell⟩, ⟨irows (nI (keysL D i)), 1, true, true, false, .cell⟩]))) D.length none ?_ ?_
  · exact ⟨0, rfl, .inl ⟨rfl, ⟨rfl, rfl, rfl, trivial⟩, rfl⟩⟩
  rintro n fr st ⟨i, hi, ⟨hK, hh, rfl⟩ | ⟨hK, hh, rfl⟩⟩
  · obtain ⟨fr, rfl⟩ := hh.split
    clear hh
    conv => whnf
    by_cases hlt : i < D.length
    · rw [hfl, ltB_t (by omega)]
      conv => whnf
      refine loop_drop (fun m fr st => ∃ k : Nat, m + k = D.length + 1 ∧ i < k ∧ k ≤ D.length ∧ st = [pboxO (.own 1) (.own 2), ⟨labR D, 1, true, true, false, .cell⟩, ⟨firR D, 1, true, true, false, .cell⟩] ∧ Holds fr [(0, .ptr 0 0 0), (3, .nils), (4, .int .i64 i), (5, .bool (partKey D i k)), (6, .int .i64 k)]) (D.length - i) none ?_ ?_
      · refine ⟨i + 1, by omega, by omega, by omega, rfl, rfl, rfl, rfl, ?_, ?_, trivial⟩
        · show V.bool true = _
          rw [show partKey D i (i + 1) = true by rw [partKey_iff]; intro x h1 h2; omega]
        · show V.int .i64 (IntKind.i64.wrap (i + 1)) = _
          rw [wrapA1 i (by omega)]
      rintro m fr st ⟨k, hm, hik, hkD, rfl, hh⟩
      obtain ⟨fr, rfl⟩ := hh.split
      clear hh
      conv => whnf
      by_cases hltk : k < D.length
      · rw [hfl, ltB_t (by omega)]
        conv => whnf
        have hps := partKey_succ D i k hik
        have fk := fir_fst hltk
        have fi := fir_fst hlt
        have hwk : V.int .i64 (IntKind.i64.wrap ((k : Int) + 1)) = .int .i64 (k + 1 : Nat) := by rw [wrapA1 k (by omega)]
        generalize partKey D i k = pk at hps
        refine draw_go hX ?_
        cases pk
        · conv => whnf
          refine ⟨m - 1, by omega, none, k + 1, by omega, by omega, by omega, rfl, rfl, rfl, rfl, ?_, hwk, trivial⟩
          rw [hps]; rfl
        · conv => whnf
          refine ⟨by omega, firR D, _, 1, rfl, fk, rfl, rfl, ?_⟩
          conv => whnf
          refine AtRow_intro _ fk ?_
          conv => whnf
          refine ⟨by omega, firR D, _, 1, rfl, fi, rfl, rfl, ?_⟩
          conv => whnf
          refine AtRow_intro _ fi ?_
          conv => whnf
          refine ⟨m - 1, by omega, none, k + 1, by omega, by omega, by omega, rfl, rfl, rfl, rfl, ?_, hwk, trivial⟩
          show V.bool (negB (eqB (fstOf D k : Int) (fstOf D i))) = _
          rw [hps]
          by_cases e : fstOf D k = fstOf D i
          · rw [eqB_t (by omega)]; simp [e, negB]
          · rw [eqB_f (by omega)]; simp [e, negB]
      · rw [hfl, ltB_f (by omega)]
        conv => whnf
        have hk : k = D.length := by omega
        have hps : partKey D i k = isKey D i := by rw [hk]; rfl
        have hsu := keysL_succ D i
        have hln := keysL_len D i
        have hwi : V.int .i64 (IntKind.i64.wrap ((i : Int) + 1)) = .int .i64 (i + 1 : Nat) := by rw [wrapA1 i (by omega)]
        rw [hps]
        generalize isKey D i = ik at hsu
        cases ik
        · conv => whnf
          simp only [Bool.false_eq_true, if_false, List.append_nil] at hsu
          exact ⟨n - 1, by omega, none, i + 1, by omega, .inl ⟨by rw [hsu]; exact hK, ⟨rfl, rfl, hwi, trivial⟩, rfl⟩⟩
        · conv => whnf
          simp only [if_true] at hsu
          refine ⟨fun m hm => by rw [List.mem_singleton.1 hm]; rfl, ?_⟩
          conv => whnf
          refine ⟨by show 1 * 8 ≤ _; omega, .inr ⟨(by intro e; cases e), ?_⟩⟩
          conv => whnf
          refine ⟨n - 1, by omega, some [0, 1, 2, 4], ?_⟩
          conv => whnf
          refine ⟨i + 1, by omega, .inr ⟨by rw [hsu]; simp, ⟨rfl, rfl, hwi, trivial⟩, ?_⟩⟩
          rw [hsu, hK]
          rfl
    · rw [hfl, ltB_f (by omega)]
      obtain rfl : i = D.length := by omega
      exact absurd hK hnn
  · obtain ⟨fr, rfl⟩ := hh.split
    clear hh
    conv => whnf
    by_cases hlt : i < D.length
    · rw [hfl, ltB_t (by omega)]
      conv => whnf
      refine loop_drop (fun m fr st => ∃ k : Nat, m + k = D.length + 1 ∧ i < k ∧ k ≤ D.length ∧ st = [pboxO (.own 1) (.own 2), ⟨labR D, 1, true, true, false, .cell⟩, ⟨firR D, 1, true, true, false, .cell⟩, ⟨irows (nI (keysL D i)), 1, true, true, false, .cell⟩] ∧ Holds fr [(0, .ptr 0 0 0), (3, .own 3), (4, .int .i64 i), (5, .bool (partKey D i k)), (6, .int .i64 k)]) (D.length - i) none ?_ ?_
      · refine ⟨i + 1, by omega, by omega, by omega, rfl, rfl, rfl, rfl, ?_, ?_, trivial⟩
        · show V.bool true = _
          rw [show partKey D i (i + 1) = true by rw [partKey_iff]; intro x h1 h2; omega]
        · show V.int .i64 (IntKind.i64.wrap (i + 1)) = _
          rw [wrapA1 i (by omega)]
      rintro m fr st ⟨k, hm, hik, hkD, rfl, hh⟩
      obtain ⟨fr, rfl⟩ := hh.split
      clear hh
      conv => whnf
      by_cases hltk : k < D.length
      · rw [hfl, ltB_t (by omega)]
        conv => whnf
        have hps := partKey_succ D i k hik
        have fk := fir_fst hltk
        have fi := fir_fst hlt
        have hwk : V.int .i64 (IntKind.i64.wrap ((k : Int) + 1)) = .int .i64 (k + 1 : Nat) := by rw [wrapA1 k (by omega)]
        generalize partKey D i k = pk at hps
        refine draw_go hX ?_
        cases pk
        · conv => whnf
          refine ⟨m - 1, by omega, none, k + 1, by omega, by omega, by omega, rfl, rfl, rfl, rfl, ?_, hwk, trivial⟩
          rw [hps]; rfl
        · conv => whnf
          refine ⟨by omega, firR D, _, 1, rfl, fk, rfl, rfl, ?_⟩
          conv => whnf
          refine AtRow_intro _ fk ?_
          conv => whnf
          refine ⟨by omega, firR D, _, 1, rfl, fi, rfl, rfl, ?_⟩
          conv => whnf
          refine AtRow_intro _ fi ?_
          conv => whnf
          refine ⟨m - 1, by omega, none, k + 1, by omega, by omega, by omega, rfl, rfl, rfl, rfl, ?_, hwk, trivial⟩
          show V.bool (negB (eqB (fstOf D k : Int) (fstOf D i))) = _
          rw [hps]
          by_cases e : fstOf D k = fstOf D i
          · rw [eqB_t (by omega)]; simp [e, negB]
          · rw [eqB_f (by omega)]; simp [e, negB]
      · rw [hfl, ltB_f (by omega)]
        conv => whnf
        have hk : k = D.length := by omega
        have hps : partKey D i k = isKey D i := by rw [hk]; rfl
        have hsu := keysL_succ D i
        have hln := keysL_len D i
        have hwi : V.int .i64 (IntKind.i64.wrap ((i : Int) + 1)) = .int .i64 (i + 1 : Nat) := by rw [wrapA1 i (by omega)]
        rw [hps]
        generalize isKey D i = ik at hsu
        cases ik
        · conv => whnf
          simp only [Bool.false_eq_true, if_false, List.append_nil] at hsu
          exact ⟨n - 1, by omega, none, i + 1, by omega, .inr ⟨by rw [hsu]; exact hK, ⟨rfl, rfl, hwi, trivial⟩, by rw [hsu]; rfl⟩⟩
        · conv => whnf
          simp only [if_true] at hsu
          refine ⟨fun m hm => by rw [List.mem_singleton.1 hm]; rfl, ?_⟩
          conv => whnf
          refine ⟨by
            show ((irows (nI (keysL D i))).length + 1) * 8 ≤ _
            rw [irows_len, nI_len]; omega, ?_⟩
          conv => whnf
          refine ⟨n - 1, by omega, some [0, 1, 2, 5], ?_⟩
          conv => whnf
          refine ⟨i + 1, by omega, .inr ⟨by rw [hsu]; simp, ⟨rfl, rfl, hwi, trivial⟩, ?_⟩⟩
          rw [hsu, show nI (keysL D i ++ [i]) = nI (keysL D i) ++ [(i : Int)] by simp [nI], irows_append]
          rfl
    · rw [hfl, ltB_f (by omega)]
      obtain rfl : i = D.length := by omega
      conv => whnf
      refine ⟨[3], false, ?_⟩
      conv => whnf
      exact ⟨rfl, rfl⟩
end Go.Cod

namespace Go.Cod
open Go Go.Proofs
set_option linter.all false
set_option maxRecDepth 10000

theorem l5Fill_full (D E : List Th) (i j nC : Nat) (g0 : Nat → Nat → Int) (bC : Nat) (bsC : List Nat) (es0 : List (List V)) (hC0 : Tab es0 bC nC bsC E.length g0) (hnC : bsC.length = nC) (hnD : nC = D.length) (hD : Nest 0 D) (hE : Nest 0 E) (lD : D.length ≤ 1000) (lE : E.length ≤ 1000) (hi : i < D.length) (hj : j < E.length)
    (hlab : ∀ a ∈ D, ∀ b ∈ E, a.k ++ 34 :: a.t = b.k ++ 34 :: b.t ↔ a.k = b.k ∧ a.t = b.t)
    (hg : ∀ a b, fstOf D i ≤ a → a ≤ i → fstOf E j ≤ b → b ≤ j → (fstOf D i < fstOf D a ∨ fstOf E j < fstOf E b) → g0 a b = treeD D E a b) :
    Full Try.prog noY 29 [.ptr 0 0 0, .ptr 3 0 0, .int .i64 i, .int .i64 j, .dref bC nC nC] (fillS D E es0)
      fun o st' => ∃ es g, o = .ret (.tup []) ∧ Tab es bC nC bsC E.length g ∧ st' = fillS D E es ∧
        (∀ a b, a < D.length → b < E.length → ¬ (fstOf D i ≤ a ∧ fstOf E j ≤ b ∧ fstOf D a = fstOf D i ∧ fstOf E b = fstOf E j) → g a b = g0 a b) ∧
        (∀ a b, fstOf D i ≤ a → a ≤ i → fstOf E j ≤ b → b ≤ j → fstOf D a = fstOf D i → fstOf E b = fstOf E j → g a b = treeD D E a b) := by
  have hdi := List.getElem?_eq_getElem hi
  have hdj := List.getElem?_eq_getElem hj
  have fi := fstOf_get hdi
  have fj := fstOf_get hdj
  have li := hD.lamin.le i hi
  have lj := hE.lamin.le j hj
  have ci := hD.lamin.closed hi
  have cj := hE.lamin.closed hj
  generalize D[i] = di at *
  generalize E[j] = dj at *
  refine (l5Fill_run D E i j di.f dj.f (i + 1 - di.f) (j + 1 - dj.f) nC di dj g0 (cellD D E di.f dj.f) bC bsC es0 hC0 hnC hnD lD lE hdi hdj rfl rfl (by omega) (by omega) (by omega) (by omega) cellD_0 cellD_00 (fun x y hx hy => by have := cellD_le (D := D) (E := E) (l := di.f) (t := dj.f) x y; omega)
    (fun x a hx ha => ?_) (fun y b hy hb => ?_) (fun x y a b hx hy ha hb h => ?_) (fun x y a b hx hy ha hb h1 h2 => cellD_top hD hE ha hb h1 h2) hlab).mono ?_
  · have la := (List.getElem?_eq_some_iff.1 ha).1
    have := hD.lamin.le _ la
    have := ci (di.f + x) (by omega) (by omega)
    have := fstOf_get ha
    omega
  · have lb := (List.getElem?_eq_some_iff.1 hb).1
    have := hE.lamin.le _ lb
    have := cj (dj.f + y) (by omega) (by omega)
    have := fstOf_get hb
    omega
  · have la := (List.getElem?_eq_some_iff.1 ha).1
    have lb := (List.getElem?_eq_some_iff.1 hb).1
    have e1 := ci (di.f + x) (by omega) (by omega)
    have e2 := cj (dj.f + y) (by omega) (by omega)
    have f1 := fstOf_get ha
    have f2 := fstOf_get hb
    refine ⟨treeD D E (di.f + x) (dj.f + y), hg _ _ (by omega) (by omega) (by omega) (by omega) (by omega), ?_, cellD_tree hD hE ha hb (by omega) (by omega)⟩
    have := treeD_le hD hE la lb
    omega
  · rintro o st' ⟨es, g, rfl, hT, hF, rfl⟩
    refine ⟨es, g, rfl, hT, rfl, fun a b ha hb h => ?_, fun a b h1 h2 h3 h4 h5 h6 => ?_⟩
    · refine hF.old a b fun s t q1 q2 q3 q4 q5 q6 => h ?_
      have := fstOf_get q1
      have := fstOf_get q2
      omega
    · have ea := List.getElem?_eq_getElem (l := D) (i := a) (by omega)
      have eb := List.getElem?_eq_getElem (l := E) (i := b) (by omega)
      have ga := fstOf_get ea
      have gb := fstOf_get eb
      have ra : di.f + (a - di.f) = a := by omega
      have rb : dj.f + (b - dj.f) = b := by omega
      have := hF.new (a - di.f) (b - dj.f) D[a] E[b] (by rw [ra]; exact ea) (by rw [rb]; exact eb) (by omega) (by omega) (by omega) (by omega)
      rw [ra, rb] at this
      rw [this]
      unfold cellD treeD
      rw [h5, h6, fi, fj, show di.f + (a - di.f + 1) = a + 1 by omega, show dj.f + (b - dj.f + 1) = b + 1 by omega]
/-- Each thing's place has a key: the last one that begins where it does. -/
theorem key_of (D : List Th) (a : Nat) (ha : a < D.length) : ∃ k, k ∈ keysL D D.length ∧ a ≤ k ∧ fstOf D k = fstOf D a := by
  obtain ⟨m, hm⟩ : ∃ m, D.length - a = m := ⟨_, rfl⟩
  induction m using Nat.strongRecOn generalizing a with
  | ind m ih =>
    by_cases h : isKey D a = true
    · exact ⟨a, by unfold keysL; rw [List.mem_filter]; exact ⟨List.mem_range.2 ha, h⟩, Nat.le_refl _, rfl⟩
    · have h' : ¬ ∀ x, a < x → x < D.length → fstOf D x ≠ fstOf D a := fun H => h ((partKey_iff D a D.length).2 H)
      have : ∃ x, a < x ∧ x < D.length ∧ fstOf D x = fstOf D a := Classical.byContradiction fun hn => h' fun x h1 h2 e => hn ⟨x, h1, h2, e⟩
      obtain ⟨x, h1, h2, e⟩ := this
      obtain ⟨k, k1, k2, k3⟩ := ih (D.length - x) (by omega) x h2 rfl
      exact ⟨k, k1, by omega, k3.trans e⟩
theorem key_mem {D : List Th} {k : Nat} (h : k ∈ keysL D D.length) : k < D.length ∧ ∀ x, k < x → x < D.length → fstOf D x ≠ fstOf D k := by
  unfold keysL at h
  rw [List.mem_filter] at h
  exact ⟨List.mem_range.1 h.1, (partKey_iff D k D.length).1 h.2⟩
theorem key_one {D : List Th} {k k' : Nat} (h : k ∈ keysL D D.length) (h' : k' ∈ keysL D D.length) (e : fstOf D k = fstOf D k') : k = k' := by
  obtain ⟨a1, a2⟩ := key_mem h
  obtain ⟨b1, b2⟩ := key_mem h'
  rcases Nat.lt_trichotomy k k' with h | h | h
  · exact absurd e.symm (a2 k' h b1)
  · exact h
  · exact absurd e (b2 k h a1)
theorem keys_sorted (D : List Th) (n : Nat) : (keysL D n).Pairwise (· < ·) := by
  induction n with
  | zero => simp [keysL]
  | succ n ih =>
    rw [keysL_succ, List.pairwise_append]
    refine ⟨ih, by split <;> simp, fun a ha b hb => ?_⟩
    have h1 : a < n := by
      unfold keysL at ha
      rw [List.mem_filter] at ha
      exact List.mem_range.1 ha.1
    split at hb
    · simp at hb; omega
    · cases hb
theorem sorted_take {X : List Nat} (hX : X.Pairwise (· < ·)) {ix i k : Nat} (hi : X[ix]? = some i) (hk : k ∈ X) (h : k < i) : k ∈ X.take ix := by
  obtain ⟨t, ht⟩ := List.getElem?_of_mem hk
  have lt := (List.getElem?_eq_some_iff.1 ht).1
  have li := (List.getElem?_eq_some_iff.1 hi).1
  by_cases htx : t < ix
  · rw [List.mem_iff_getElem?]
    exact ⟨t, by rw [List.getElem?_take_of_lt htx]; exact ht⟩
  · exfalso
    rcases Nat.lt_or_ge ix t with h' | h'
    · have := List.pairwise_iff_getElem.1 hX ix t li lt h'
      rw [List.getElem?_eq_getElem lt] at ht
      rw [List.getElem?_eq_getElem li] at hi
      cases ht; cases hi; omega
    · have : t = ix := by omega
      subst this
      rw [hi] at ht; cases ht; omega
/-- What has been filled in, key by key. -/
def DoneK (D E : List Th) (ix iy : Nat) (g : Nat → Nat → Int) : Prop := ∀ a b ka kb, a < D.length → b < E.length → ka ∈ keysL D D.length → kb ∈ keysL E E.length → a ≤ ka → b ≤ kb → fstOf D ka = fstOf D a → fstOf E kb = fstOf E b →
  (ka ∈ (keysL D D.length).take ix ∨ ((keysL D D.length)[ix]? = some ka ∧ kb ∈ (keysL E E.length).take iy)) → g a b = treeD D E a b
theorem key_below {D : List Th} (hD : Nest 0 D) {i a ka : Nat} (hi : i ∈ keysL D D.length) (hka : ka ∈ keysL D D.length) (h1 : fstOf D i ≤ a) (h2 : a ≤ i) (h3 : a ≤ ka) (h4 : fstOf D ka = fstOf D a) (h5 : fstOf D i < fstOf D a) : ka < i := by
  obtain ⟨i1, i2⟩ := key_mem hi
  obtain ⟨k1, k2⟩ := key_mem hka
  have la := hD.lamin.le a (by omega)
  rcases Nat.lt_trichotomy ka i with h | h | h
  · exact h
  · subst h; omega
  · rcases hD.lamin.nest i ka h k1 with h' | h'
    · omega
    · omega
theorem DoneK.before {D E : List Th} (hD : Nest 0 D) (hE : Nest 0 E) {ix iy i j : Nat} {g : Nat → Nat → Int} (H : DoneK D E ix iy g) (hi : (keysL D D.length)[ix]? = some i) (hj : (keysL E E.length)[iy]? = some j) :
    ∀ a b, fstOf D i ≤ a → a ≤ i → fstOf E j ≤ b → b ≤ j → (fstOf D i < fstOf D a ∨ fstOf E j < fstOf E b) → g a b = treeD D E a b := by
  intro a b a1 a2 b1 b2 hab
  have mi := List.mem_of_getElem? hi
  have mj := List.mem_of_getElem? hj
  obtain ⟨i1, i2⟩ := key_mem mi
  obtain ⟨j1, j2⟩ := key_mem mj
  obtain ⟨ka, p1, p2, p3⟩ := key_of D a (by omega)
  obtain ⟨kb, q1, q2, q3⟩ := key_of E b (by omega)
  refine H a b ka kb (by omega) (by omega) p1 q1 p2 q2 p3 q3 ?_
  have ca := hD.lamin.closed i1 a a1 (by omega)
  by_cases hA : fstOf D i < fstOf D a
  · exact .inl (sorted_take (keys_sorted D _) hi p1 (key_below hD mi p1 a1 a2 p2 p3 hA))
  · have e : ka = i := key_one p1 mi (by omega)
    subst e
    exact .inr ⟨hi, sorted_take (keys_sorted E _) hj q1 (key_below hE mj q1 b1 b2 q2 q3 (by omega))⟩
theorem DoneK.after {D E : List Th} (hD : Nest 0 D) (hE : Nest 0 E) {ix iy i j : Nat} {g g' : Nat → Nat → Int} (H : DoneK D E ix iy g) (hi : (keysL D D.length)[ix]? = some i) (hj : (keysL E E.length)[iy]? = some j)
    (h1 : ∀ a b, a < D.length → b < E.length → ¬ (fstOf D i ≤ a ∧ fstOf E j ≤ b ∧ fstOf D a = fstOf D i ∧ fstOf E b = fstOf E j) → g' a b = g a b)
    (h2 : ∀ a b, fstOf D i ≤ a → a ≤ i → fstOf E j ≤ b → b ≤ j → fstOf D a = fstOf D i → fstOf E b = fstOf E j → g' a b = treeD D E a b) : DoneK D E ix (iy + 1) g' := by
  intro a b ka kb la lb p1 q1 p2 q2 p3 q3 h
  have mi := List.mem_of_getElem? hi
  have mj := List.mem_of_getElem? hj
  have fa := hD.lamin.le a la
  have fb := hE.lamin.le b lb
  by_cases hc : fstOf D a = fstOf D i ∧ fstOf E b = fstOf E j
  · have e1 : ka = i := key_one p1 mi (p3.trans hc.1)
    have e2 : kb = j := key_one q1 mj (q3.trans hc.2)
    exact h2 a b (by omega) (by omega) (by omega) (by omega) hc.1 hc.2
  · rw [h1 a b la lb (fun h => hc h.2.2)]
    refine H a b ka kb la lb p1 q1 p2 q2 p3 q3 ?_
    rcases h with h | ⟨h, h'⟩
    · exact .inl h
    · refine .inr ⟨h, ?_⟩
      rw [hi] at h; cases h
      have lj := (List.getElem?_eq_some_iff.1 hj).1
      rw [List.take_succ_eq_append_getElem lj] at h'
      rcases List.mem_append.1 h' with h' | h'
      · exact h'
      · exfalso
        simp at h'
        rw [List.getElem?_eq_getElem lj] at hj
        cases hj
        exact hc ⟨p3.symm, by rw [← q3, h']⟩
theorem DoneK.next {D E : List Th} {ix : Nat} {g : Nat → Nat → Int} (H : DoneK D E ix (keysL E E.length).length g) (hl : ix < (keysL D D.length).length) : DoneK D E (ix + 1) 0 g := by
  intro a b ka kb la lb p1 q1 p2 q2 p3 q3 h
  refine H a b ka kb la lb p1 q1 p2 q2 p3 q3 ?_
  rcases h with h | ⟨_, h⟩
  · rw [List.take_succ_eq_append_getElem hl] at h
    rcases List.mem_append.1 h with h | h
    · exact .inl h
    · simp at h
      refine .inr ⟨by rw [List.getElem?_eq_getElem hl, h], ?_⟩
      rw [List.take_length]; exact q1
  · simp at h
theorem DoneK.all {D E : List Th} {g : Nat → Nat → Int} {iy : Nat} (H : DoneK D E (keysL D D.length).length iy g) (hD : D ≠ []) (hE : E ≠ []) : g (D.length - 1) (E.length - 1) = treeD D E (D.length - 1) (E.length - 1) := by
  have ld := List.length_pos_iff.2 hD
  have le := List.length_pos_iff.2 hE
  obtain ⟨ka, p1, p2, p3⟩ := key_of D (D.length - 1) (by omega)
  obtain ⟨kb, q1, q2, q3⟩ := key_of E (E.length - 1) (by omega)
  refine H _ _ ka kb (by omega) (by omega) p1 q1 p2 q2 p3 q3 (.inl ?_)
  rw [List.take_length]; exact p1
end Go.Cod

namespace Go.Cod
open Go Go.Proofs
set_option linter.all false
set_option maxRecDepth 10000

theorem lower_no34 {s : List UInt8} (h : lower s = true) : (34 : UInt8) ∉ s := by
  intro hm
  unfold lower at h
  rw [List.all_eq_true] at h
  have := h 34 hm
  revert this
  decide
mutual
theorem plainT_no34 : ∀ (t : T) (lv : Int) (n : Nat), plainT t lv = true → ∀ h ∈ postT n t, (34 : UInt8) ∉ h.k
  | .mk id k x ks, lv, n, hp, h, hm => by
    simp only [plainT, Bool.and_eq_true] at hp
    simp only [postT] at hm
    rcases List.mem_append.1 hm with hm | hm
    · exact plainL_no34 ks (lv + 1) n hp.2 h hm
    · simp at hm
      subst hm
      have := hp.1.1.2
      unfold nameL at this
      simp only [Bool.and_eq_true] at this
      exact lower_no34 this.1
theorem plainL_no34 : ∀ (ts : List T) (lv : Int) (n : Nat), plainL ts lv = true → ∀ h ∈ postL n ts, (34 : UInt8) ∉ h.k
  | [], _, _, _, h, hm => by simp [postL] at hm
  | t :: ts, lv, n, hp, h, hm => by
    simp only [plainL, Bool.and_eq_true] at hp
    simp only [postL] at hm
    rcases List.mem_append.1 hm with hm | hm
    · exact plainT_no34 t lv n hp.1 h hm
    · exact plainL_no34 ts lv _ hp.2 h hm
end
theorem split34 : ∀ {k k' t t' : List UInt8}, (34 : UInt8) ∉ k → (34 : UInt8) ∉ k' → k ++ 34 :: t = k' ++ 34 :: t' → k = k' ∧ t = t'
  | [], [], _, _, _, _, h => by simp at h; exact ⟨rfl, h⟩
  | [], c :: k', t, t', _, h2, h => by
    simp only [List.nil_append, List.cons_append, List.cons.injEq] at h
    exact absurd (by rw [h.1]; simp) h2
  | c :: k, [], t, t', h1, _, h => by
    simp only [List.nil_append, List.cons_append, List.cons.injEq] at h
    exact absurd (by rw [h.1]; simp) h1
  | c :: k, c' :: k', t, t', h1, h2, h => by
    simp only [List.cons_append, List.cons.injEq] at h
    obtain ⟨e1, e2⟩ := split34 (fun hm => h1 (List.mem_cons_of_mem _ hm)) (fun hm => h2 (List.mem_cons_of_mem _ hm)) h.2
    exact ⟨by rw [h.1, e1], e2⟩
theorem labels_ok {a b : T} (ha : okT a = true) (hb : okT b = true) : ∀ x ∈ postT 0 a, ∀ y ∈ postT 0 b, x.k ++ 34 :: x.t = y.k ++ 34 :: y.t ↔ x.k = y.k ∧ x.t = y.t := by
  intro x hx y hy
  unfold okT at ha hb
  simp only [Bool.and_eq_true] at ha hb
  exact ⟨split34 (plainT_no34 a 1 0 ha.1.1 x hx) (plainT_no34 b 1 0 hb.1.1 y hy), fun h => by rw [h.1, h.2]⟩
def bx4 (t : T) : O := ⟨[t.cells], 4, true, true, true, .cell⟩
def costS (a b : T) (D E : List Th) (es : List (List V)) : St := [poolO es, bx4 a, bx4 b, pboxO (.own 5) (.own 6), pboxO (.own 7) (.own 8), ⟨labR D, 1, true, true, false, .cell⟩, ⟨firR D, 1, true, true, false, .cell⟩, ⟨labR E, 1, true, true, false, .cell⟩, ⟨firR E, 1, true, true, false, .cell⟩]
def costS2 (a b : T) (D E : List Th) (es : List (List V)) : St := [poolO es, bx4 a, bx4 b, pboxO (.own 5) (.own 6), pboxO (.own 7) (.own 8), ⟨labR D, 1, true, true, false, .cell⟩, ⟨firR D, 1, true, true, false, .cell⟩, ⟨labR E, 1, true, true, false, .cell⟩, ⟨firR E, 1, true, true, false, .cell⟩,
  ⟨irows (nI (keysL D D.length)), 1, true, true, false, .cell⟩, ⟨irows (nI (keysL E E.length)), 1, true, true, false, .cell⟩]
theorem nI_get {l : List Nat} {i k : Nat} (h : l[i]? = some k) : (irows (nI l))[i]? = some [.int .i64 (k : Nat)] := by
  simp [irows, nI, h]
set_option maxHeartbeats 8000000 in
theorem specDiffCost_full (a b : T) (ha : a.Small) (hb : b.Small) (na : a.ids.length ≤ 1048577) (nb : b.ids.length ≤ 1048577) : Full Try.prog noY 10 [.agg a.cells, .agg b.cells] [poolO []] fun o st' => ∃ es, o = .ret (.int .i64 (diffCost a b)) ∧ st' = [poolO es] := by
  have h1 := specTreeOk_pure a ha na
  have h2 := specTreeOk_pure b hb nb
  have hd : diffCost a b = if okT a && okT b then ((costT a b : Nat) : Int) else -1 := rfl
  have hla := @okT_nT a
  have hlb := @okT_nT b
  have hab := @labels_ok a b
  have hta := fun h => add_nil a ha h
  have htb := fun h => add_nil b hb h
  unfold AddN at hta htb
  have hDn := postT_nest 0 a
  have hEn := postT_nest 0 b
  have hDl := postT_len 0 a
  have hEl := postT_len 0 b
  have hct := costT_tree a b
  have hpa := nT_pos a
  have hpb := nT_pos b
  generalize diffCost a b = R at *
  generalize okT a = ra at *
  generalize okT b = rb at *
  generalize postT 0 a = D at *
  generalize postT 0 b = E at *
  generalize nT a = n at *
  generalize nT b = m at *
  subst hDl; subst hEl
  rw [hct] at hd
  clear hct
  have hD0 : D ≠ [] := List.length_pos_iff.1 hpa
  have hE0 : E ≠ [] := List.length_pos_iff.1 hpb
  obtain ⟨ai, ak, ax, aks⟩ := a
  obtain ⟨bi, bk, bx, bks⟩ := b
  refine full_of_draw good Try.func10 rfl (by kernel_rfl) (by decide) fun X hX => ?_
  conv => whnf
  refine .inl (h1.mono ?_)
  rintro r rfl
  cases ra
  · conv => whnf
    refine ⟨[], false, ?_⟩
    conv => whnf
    exact ⟨[], by rw [hd]; rfl, rfl⟩
  conv => whnf
  refine .inl (h2.mono ?_)
  rintro r rfl
  cases rb
  · conv => whnf
    refine ⟨[], false, ?_⟩
    conv => whnf
    exact ⟨[], by rw [hd]; rfl, rfl⟩
  have hla := hla rfl
  have hlb := hlb rfl
  have hab := hab rfl rfl
  have hta := hta (by omega)
  have htb := htb (by omega)
  simp only [Bool.and_self, if_true] at hd
  conv => whnf
  refine ⟨[3], true, ?_⟩
  conv => whnf
  refine hta.mono ?_
  rintro o st' ⟨rfl, rfl⟩
  conv => whnf
  refine ⟨[4], true, ?_⟩
  conv => whnf
  refine htb.mono ?_
  rintro o st' ⟨rfl, rfl⟩
  conv => whnf
  rw [labR_len]
  refine semMake (k := 0) (m := D.length) good rfl rfl rfl rfl rfl rfl rfl rfl (by show D.length * 24 ≤ _; omega) (by omega) fun t htf => ?_
  have hT := Tab.begin [] t D.length E.length (fun _ _ => 0)
  simp only [List.nil_append] at hT
  conv => whnf
  refine loop_drop (fun n fr st => ∃ (bs : List Nat) (es : List (List V)), n + bs.length = D.length ∧ st = costS (.mk ai ak ax aks) (.mk bi bk bx bks) D E es ∧ Tab es t D.length bs E.length (fun _ _ => 0) ∧
      Holds fr [(5, .ptr 3 0 0), (6, .ptr 4 0 0), (7, .dref t D.length D.length), (38, .int .i64 D.length), (39, .int .i64 bs.length)]) D.length none ?_ ?_
  · exact ⟨[], _, rfl, rfl, hT, rfl, rfl, rfl, rfl, rfl, trivial⟩
  clear hT htf
  rintro n fr st ⟨bs, es, hk, rfl, hT, hh⟩
  obtain ⟨fr, rfl⟩ := hh.split
  clear hh
  conv => whnf
  by_cases hlt : bs.length < D.length
  · rw [ltB_t (by omega)]
    conv => whnf
    rw [labR_len]
    refine semMake (k := 0) (m := E.length) good rfl rfl rfl rfl rfl rfl rfl rfl (by show E.length * 8 ≤ _; omega) (by omega) fun x hx => ?_
    have hG := hT.grow hlt (fun _ => rfl) hx
    conv => whnf
    refine ⟨by omega, by omega, ?_⟩
    conv => whnf
    refine ⟨0, D.length, rootR D.length bs E.length, [.nils], _, List.mem_append_left _ hT.root, rootR_nil hlt, rfl, ?_⟩
    conv => whnf
    refine ⟨n - 1, by omega, none, bs ++ [x], _, by simp; omega, rfl, hG, rfl, rfl, rfl, rfl, ?_, trivial⟩
    show V.int .i64 (IntKind.i64.wrap (bs.length + 1)) = _
    rw [wrapA1 bs.length (by omega)]; simp
  rw [ltB_f (by omega)]
  have hbl : bs.length = D.length := by have := hT.le; omega
  have hkD := keys_full D hD0 (by omega)
  have hkE := keys_full E hE0 (by omega)
  have hXl := keysL_len D D.length
  have hYl := keysL_len E E.length
  conv => whnf
  refine ⟨[3, 5, 6], false, ?_⟩
  conv => whnf
  refine hkD.mono ?_
  rintro o st' ⟨rfl, rfl⟩
  conv => whnf
  refine ⟨[4, 7, 8], false, ?_⟩
  conv => whnf
  refine hkE.mono ?_
  rintro o st' ⟨rfl, rfl⟩
  conv => whnf
  refine loop_drop (fun n fr st => ∃ (ix : Nat) (es : List (List V)) (g : Nat → Nat → Int), n + ix = (keysL D D.length).length ∧ st = costS2 (.mk ai ak ax aks) (.mk bi bk bx bks) D E es ∧ Tab es t D.length bs E.length g ∧ DoneK D E ix 0 g ∧
      Holds fr [(5, .ptr 3 0 0), (6, .ptr 4 0 0), (7, .dref t D.length D.length), (9, .own 9), (10, .own 10), (11, .int .i64 ix)]) (keysL D D.length).length none ?_ ?_
  · exact ⟨0, es, _, rfl, rfl, hT, (fun a b ka kb _ _ _ _ _ _ _ _ h => by simp at h), rfl, rfl, rfl, rfl, rfl, rfl, trivial⟩
  clear hT hlt hk es hkD hkE
  rintro n fr st ⟨ix, es, g, hk, rfl, hT, hK, hh⟩
  obtain ⟨fr, rfl⟩ := hh.split
  clear hh
  conv => whnf
  rw [irows_len, nI_len]
  by_cases hlx : ix < (keysL D D.length).length
  · rw [ltB_t (by omega)]
    conv => whnf
    refine loop_drop (fun n fr st => ∃ (iy : Nat) (es : List (List V)) (g : Nat → Nat → Int), n + iy = (keysL E E.length).length ∧ st = costS2 (.mk ai ak ax aks) (.mk bi bk bx bks) D E es ∧ Tab es t D.length bs E.length g ∧ DoneK D E ix iy g ∧
        Holds fr [(5, .ptr 3 0 0), (6, .ptr 4 0 0), (7, .dref t D.length D.length), (9, .own 9), (10, .own 10), (11, .int .i64 ix), (12, .int .i64 iy)]) (keysL E E.length).length none ?_ ?_
    · exact ⟨0, es, g, rfl, rfl, hT, hK, rfl, rfl, rfl, rfl, rfl, rfl, rfl, trivial⟩
    clear hT hK es g
    rintro m fr st ⟨iy, es, g, hm, rfl, hT, hK, hh⟩
    obtain ⟨fr, rfl⟩ := hh.split
    clear hh
    conv => whnf
    rw [irows_len, nI_len]
    by_cases hly : iy < (keysL E E.length).length
    · rw [ltB_t (by omega)]
      conv => whnf
      obtain ⟨i, hi⟩ : ∃ i, (keysL D D.length)[ix]? = some i := ⟨_, List.getElem?_eq_getElem hlx⟩
      obtain ⟨j, hj⟩ : ∃ j, (keysL E E.length)[iy]? = some j := ⟨_, List.getElem?_eq_getElem hly⟩
      have mi := (key_mem (List.mem_of_getElem? hi)).1
      have mj := (key_mem (List.mem_of_getElem? hj)).1
      have gi := nI_get hi
      have gj := nI_get hj
      have hfill := l5Fill_full D E i j D.length g t bs es hT hbl rfl hDn hEn (by omega) (by omega) mi mj hab (hK.before hDn hEn hi hj)
      refine draw_with hX [(5, .ptr 3 0 0), (6, .ptr 4 0 0), (7, .dref t D.length D.length), (9, .own 9), (10, .own 10), (11, .int .i64 ix), (12, .int .i64 iy)] ⟨rfl, rfl, rfl, rfl, rfl, rfl, rfl, trivial⟩ fun C hC fr => ?_
      conv => whnf
      refine ⟨by omega, _, _, 1, rfl, gi, rfl, rfl, ?_⟩
      conv => whnf
      refine AtRow_intro _ gi ?_
      conv => whnf
      refine ⟨by omega, _, _, 1, rfl, gj, rfl, rfl, ?_⟩
      conv => whnf
      refine AtRow_intro _ gj ?_
      conv => whnf
      refine ⟨[3, 5, 6, 4, 7, 8, 0], false, ?_⟩
      conv => whnf
      refine hfill.mono ?_
      rintro o st' ⟨es1, g1, rfl, hT1, rfl, q1, q2⟩
      have hK1 := hK.after hDn hEn hi hj q1 q2
      have hwy : V.int .i64 (IntKind.i64.wrap ((iy : Int) + 1)) = .int .i64 (iy + 1 : Nat) := by rw [wrapA1 iy (by omega)]
      conv => whnf
      refine hC _ _ ?_
      conv => whnf
      exact ⟨m - 1, by omega, none, iy + 1, es1, g1, by omega, rfl, hT1, hK1, rfl, rfl, rfl, rfl, rfl, rfl, hwy, trivial⟩
    · rw [ltB_f (by omega)]
      have hiy : iy = (keysL E E.length).length := by omega
      subst hiy
      conv => whnf
      refine ⟨n - 1, by omega, none, ix + 1, es, g, by omega, rfl, hT, hK.next hlx, rfl, rfl, rfl, rfl, rfl, ?_, trivial⟩
      show V.int .i64 (IntKind.i64.wrap (ix + 1)) = _
      rw [wrapA1 ix (by omega)]
  · rw [ltB_f (by omega)]
    have hix : ix = (keysL D D.length).length := by omega
    subst hix
    have hfin := hK.all hD0 hE0
    conv => whnf
    refine draw_go hX ?_
    conv => whnf
    rw [labR_len]
    obtain ⟨x, hx, hx1, hx2⟩ := hT.at (i := D.length - 1) (by omega)
    have w1 := wrapS1 D.length (by omega) (by omega)
    have w2 := wrapS1 E.length (by omega) (by omega)
    refine ⟨by rw [w1]; omega, by rw [w1]; omega, ?_⟩
    conv => whnf
    refine ⟨0, D.length, _, _, hT.root, by rw [w1]; exact hx1, ?_⟩
    conv => whnf
    rw [labR_len]
    refine ⟨by rw [w2]; omega, by rw [w2]; omega, ?_⟩
    conv => whnf
    refine ⟨0, E.length, _, _, hx2, by rw [w2]; exact numR_get _ (by omega), ?_⟩
    conv => whnf
    refine ⟨[], false, ?_⟩
    conv => whnf
    exact ⟨es, by rw [hd, ← hfin]; rfl, rfl⟩
theorem specDiffCost_pure (a b : T) (ha : a.Small) (hb : b.Small) (na : a.ids.length ≤ 1048577) (nb : b.ids.length ≤ 1048577) : Pure Try.prog 10 [.agg a.cells, .agg b.cells] (· = .int .i64 (diffCost a b)) := by
  refine Full.freeze (Full.start (st0 := []) (specDiffCost_full a b ha hb na nb)) ?_
  rintro o st' ⟨es, rfl, rfl⟩
  exact ⟨_, _, _, rfl, rfl, .same _, rfl, rfl⟩
end Go.Cod

namespace Go.Cod
open Go Go.Proofs
set_option linter.all false
set_option maxRecDepth 10000

set_option maxHeartbeats 8000000 in
theorem l11Edits_own (bs : List UInt8) (hb : bs.length ≤ 2000) (t : T) (ht : t.Tried) (p : Int) (p0 : 0 ≤ p) (p1 : p ≤ 2000000) (m : Nat) (hm : m ≤ 10) :
    Full Try.prog noY 50 [.ptr 0 0 0, .agg t.cells, .int .i64 m, .int .i64 100, .bool false] [rdO bs p] fun o st' => ∃ (x : T) (p' : Int), x.Tried ∧ p ≤ p' ∧ p' ≤ p + 10000 ∧ o = .ret (.agg [.int .i64 x.id, .str x.kind, .str x.text, kidsV x.kids 1]) ∧ st' = rdO bs p' :: kidsO x.kids := by
  have ht' := ht
  obtain ⟨ti, tk, tx, tks⟩ := t
  refine full_of_awp good Try.func50 rfl (by kernel_rfl) (by decide) ?_
  conv => whnf
  refine loop_drop (fun n fr st => ∃ (i : Nat) (x : T) (p' k' : Int), n + i = m ∧ x.Tried ∧ (p ≤ p' ∧ p' + 1000 * n ≤ p + 1000 * m) ∧ (0 ≤ k' ∧ k' + 1000 * n ≤ 100 + 1000 * m) ∧
      Holds fr [(0, .ptr 0 0 0), (2, .int .i64 m), (4, .bool false), (6, .ptr 1 0 0), (10, .ptr 2 0 0), (11, .ptr 3 0 0), (12, .int .i64 i)] ∧
      st = [rdO bs p', bxO x.cells 4, bxO zrow 4, nxO k']) m none
    (by
      conv => whnf
      exact ⟨0, .mk ti tk tx tks, p, 100, by omega, ht', by omega, by omega, ⟨rfl, rfl, rfl, rfl, rfl, rfl, rfl, trivial⟩, rfl⟩) ?_
  rintro n fr st ⟨i, x, p', k', b1, b2, b3, b4, hh, rfl⟩
  obtain ⟨fr, rfl⟩ := hh.split
  clear hh
  have f4 := l2Copy_own x b2.1
  by_cases hlt : i < m
  · have hed := l11Edit_full bs hb p' k' (by omega) (by omega) (by omega) (by omega) x b2.1 (by have := b2.2.1; omega)
    have hdo := fun s (h : s.Dr) => l4Do_even x s b2.1 (by have := b2.2.1; omega) b2.2.2 h.1 (by have := h.2.1; omega) (by have := h.2.2; omega)
    have htd := fun s y (h : s.Dr) (hd : doT x s = some y) => tried_do b2 h hd
    have hw : V.int .i64 (IntKind.i64.wrap ((i : Int) + 1)) = .int .i64 ((i + 1 : Nat) : Int) := by rw [wrap64 (by omega) (by omega)]; simp
    obtain ⟨xi, xk, xx, xks⟩ := x
    conv => whnf
    rw [ltB_t (by omega)]
    conv => whnf
    repeat' (first
      | (refine ⟨[0, 3], false, ?_⟩
         conv => whnf
         refine hed.mono ?_
         rintro o st' ⟨⟨ek, ei, ea, ⟨ni, nk, nx, nks⟩, ex⟩, p2, k2, d1, d2, d3, d4, d5, rfl, rfl⟩
         have hdo := hdo _ d1
         have htd := fun y => htd _ y d1
         generalize hdoo : doT (T.mk xi xk xx xks) _ = dd at hdo htd
         rcases dd with _ | ⟨yi, yk, yx, yks⟩
         case' none => have hdo : Pure Try.prog 43 _ (· = .tup [.agg (T.mk xi xk xx xks).cells, .bool false]) := hdo
         case' some =>
           have hdo : Pure Try.prog 43 _ (· = .tup [.agg (T.mk yi yk yx yks).cells, .bool true]) := hdo
           have htd := htd _ rfl
         all_goals conv => whnf)
      | (refine ⟨_, .inl hdo, ?_⟩
         conv => whnf)
      | (refine .inl (hdo.mono ?_)
         rintro r rfl
         conv => whnf)
      | (refine ⟨n - 1, by omega, some [0, 1, 2, 3], ?_⟩
         conv => whnf
         first
           | exact ⟨i + 1, .mk yi yk yx yks, p2, k2, by omega, htd, by omega, by omega, ⟨rfl, rfl, rfl, rfl, rfl, rfl, hw, trivial⟩, rfl⟩
           | exact ⟨i + 1, .mk xi xk xx xks, p2, k2, by omega, b2, by omega, by omega, ⟨rfl, rfl, rfl, rfl, rfl, rfl, hw, trivial⟩, rfl⟩)
      | (refine And.intro ?_ ?_ <;> (conv => whnf)))
    all_goals rfl
  · obtain ⟨xi, xk, xx, xks⟩ := x
    conv => whnf
    rw [ltB_f (by omega)]
    conv => whnf
    refine .inr (.inl ⟨[], false, ?_⟩)
    conv => whnf
    refine f4.mono ?_
    rintro o st' ⟨rfl, rfl⟩
    cases xks with
    | nil =>
      conv => whnf
      refine ⟨[], true, ?_⟩
      conv => whnf
      exact ⟨.mk xi xk xx [], p', b2, by omega, by omega, rfl, rfl⟩
    | cons x0 xs =>
      conv => whnf
      refine ⟨[4], false, ?_⟩
      conv => whnf
      exact ⟨.mk xi xk xx (x0 :: xs), p', b2, by omega, by omega, rfl, rfl⟩
end Go.Cod

namespace Go.Cod
open Go Go.Proofs
set_option linter.all false
set_option maxRecDepth 10000

theorem swap_small {id : Int} {k x : List UInt8} {a b : T} {ks : List T} (h : (T.mk id k x (a :: b :: ks)).Small) : (T.mk id k x (b :: a :: ks)).Small := by
  cases h with
  | mk g1 g2 g3 g4 g5 =>
    refine .mk g1 g2 g3 (by simpa using g4) fun t ht => g5 t ?_
    simp at ht ⊢
    rcases ht with h | h | h <;> simp [h]
theorem swap_size {id : Int} {k x : List UInt8} {a b : T} {ks : List T} : (T.mk id k x (b :: a :: ks)).size = (T.mk id k x (a :: b :: ks)).size := by
  simp [T.size, T.sizeL]; omega
/-- Two drawn trees. -/
def DrawDS (r : V) : Prop := ∃ a b : T, a.Small ∧ a.size ≤ 10000 ∧ b.Small ∧ b.size ≤ 10000 ∧ r = .tup [.agg a.cells, .agg b.cells]
set_option maxHeartbeats 8000000 in
theorem drawDiffSteps_pure (bs : List UInt8) (hb : bs.length ≤ 1048576) : Pure Try.prog 23 [.sl (brows bs)] DrawDS := by
  have ho := l1Open_full bs hb
  refine pure_of_draw good Try.func23 rfl (by kernel_rfl) (by decide) fun X hX => ?_
  conv => whnf
  refine .inr (.inl ⟨[], false, ?_⟩)
  conv => whnf
  refine ho.mono ?_
  rintro o st' ⟨rfl, bs', hb', rfl⟩
  conv => whnf
  refine ⟨[2], false, ?_⟩
  conv => whnf
  refine (l11AnyTree_full bs' hb' 0 (by omega) (by omega)).mono ?_
  rintro o st' ⟨t, p, s1, ⟨s2, s5, s6, s7⟩, s3, s4, rfl, rfl⟩
  have hdr : Drawn t := ⟨t, s5, s6, s7, by omega, .inl rfl⟩
  have htr : t.Tried := ⟨s1, drawn_size hdr, drawn_even hdr⟩
  have hts := drawn_size hdr
  have hpk := pick_full bs' p 7 hb' (by omega) (by omega)
  have hed := fun (c : Nat) (h : c ≤ 10) => l11Edits_own bs' hb' t htr (p + 1) (by omega) (by omega) c h
  have hp0 : 0 ≤ p ∧ p ≤ 2000000 := by omega
  clear hdr htr s2 s3 s4 s5 s6 s7
  rcases t with ⟨ti, tk, tx, tks⟩
  conv => whnf
  refine draw_with hX [(2, .ptr 0 0 0), (3, .ptr 1 0 0), (4, .ptr 2 0 0), (5, .ptr 3 0 0)] ⟨rfl, rfl, rfl, rfl, trivial⟩ fun C hC fr => ?_
  have key : ∀ fr st, (∃ (x : T) (p2 : Int), x.Tried ∧ 0 ≤ p2 ∧ p2 ≤ 3000000 ∧
      ((x.kids = [] ∧ Holds fr [(2, .ptr 0 0 0), (3, .ptr 1 0 0), (4, .ptr 2 0 0), (5, .ptr 3 0 0), (6, .ptr 4 0 0)] ∧ st = [⟨[zrow], 4, true, true, true, .cell⟩, ⟨[zrow], 4, true, true, true, .cell⟩, rdO bs' p2, ⟨[[.int .i64 ti, .str tk, .str tx, .sl (T.rows tks)]], 4, true, true, true, .cell⟩, ⟨[[.int .i64 x.id, .str x.kind, .str x.text, .nils]], 4, true, true, true, .cell⟩]) ∨
       (x.kids ≠ [] ∧ Holds fr [(2, .ptr 0 0 0), (3, .ptr 1 0 0), (4, .ptr 2 0 0), (5, .ptr 3 0 0), (6, .ptr 4 0 0)] ∧ st = [⟨[zrow], 4, true, true, true, .cell⟩, ⟨[zrow], 4, true, true, true, .cell⟩, rdO bs' p2, ⟨[[.int .i64 ti, .str tk, .str tx, .sl (T.rows tks)]], 4, true, true, true, .cell⟩, ⟨[[.int .i64 x.id, .str x.kind, .str x.text, .own 5]], 4, true, true, true, .cell⟩, ⟨T.rows x.kids, 4, true, true, false, .cell⟩]) ∨
       (x.kids ≠ [] ∧ Holds fr [(2, .ptr 0 0 0), (3, .ptr 1 0 0), (4, .ptr 2 0 0), (5, .ptr 3 0 0), (6, .ptr 5 0 0)] ∧ st = [⟨[zrow], 4, true, true, true, .cell⟩, ⟨[zrow], 4, true, true, true, .cell⟩, rdO bs' p2, ⟨[[.int .i64 ti, .str tk, .str tx, .sl (T.rows tks)]], 4, true, true, true, .cell⟩, ⟨T.rows x.kids, 4, true, true, false, .cell⟩, ⟨[[.int .i64 x.id, .str x.kind, .str x.text, .own 4]], 4, true, true, true, .cell⟩]))) → C fr st := by
    rintro fr st ⟨⟨xi, xk, xx, xks⟩, p2, ⟨hx1, hx2, _⟩, q0, q1, hJ⟩
    have hpk2 := pick_full bs' p2 6 hb' (by omega) (by omega)
    have hany := l11AnyTree_full bs' hb' (p2 + 1) (by omega) (by omega)
    have hsp := spoil_full bs' hb' (.mk xi xk xx xks) hx1 (p2 + 1) (by omega) (by omega) (by omega)
    simp only [T.kids, T.id, T.kind, T.text] at hJ
    rcases hJ with ⟨hk, hh, rfl⟩ | ⟨hk, hh, rfl⟩ | ⟨hk, hh, rfl⟩
    · obtain ⟨fr, rfl⟩ := hh.split
      clear hh
      refine hC _ _ ?_
      clear hC
      obtain rfl : xks = [] := hk
      conv => whnf
      refine ⟨[2], false, ?_⟩
      conv => whnf
      refine hpk2.mono ?_
      rintro o st' ⟨e, e0, e1, rfl, rfl⟩
      conv => whnf
      by_cases hd0 : e = 0
      · rw [eqB_t hd0]
        conv => whnf
        refine ⟨[2], false, ?_⟩
        conv => whnf
        refine hany.mono ?_
        rintro o st' ⟨t2, p3, z1, ⟨z2, z5, z6, z7⟩, z3, z4, rfl, rfl⟩
        have hds : t2.size ≤ 60 := drawn_size ⟨t2, z5, z6, z7, by omega, .inl rfl⟩
        clear z2 z3 z4 z5 z6 z7
        rcases t2 with ⟨ui, uk, ux, uks⟩
        conv => whnf
        refine draw_go hX ?_
        conv => whnf
        repeat' (first
          | (refine And.intro (by (conv => whnf); rfl) ?_
             conv => whnf)
          | (refine And.intro ?_ ?_ <;> (conv => whnf)))
        all_goals exact ⟨.mk ti tk tx tks, .mk ui uk ux uks, s1, by omega, z1, by omega, rfl⟩
      rw [eqB_f hd0]
      conv => whnf
      by_cases hd1 : e = 1
      · rw [eqB_t hd1]
        conv => whnf
        refine ⟨[2], false, ?_⟩
        conv => whnf
        refine hsp.mono ?_
        rintro o st' ⟨y, p3, y1, ⟨y2, y3⟩, y4, y5, rfl, rfl⟩
        rcases y with ⟨yi, yk, yx, yks⟩
        conv => whnf
        refine draw_go hX ?_
        conv => whnf
        repeat' (first
          | (refine And.intro (by (conv => whnf); rfl) ?_
             conv => whnf)
          | (refine And.intro ?_ ?_ <;> (conv => whnf)))
        all_goals exact ⟨.mk ti tk tx tks, .mk yi yk yx yks, s1, by omega, y1, by omega, rfl⟩
      rw [eqB_f hd1]
      conv => whnf
      by_cases hd2 : e = 2
      · rw [eqB_t hd2]
        conv => whnf
        rw [ltB_f (by simp)]
        conv => whnf
        refine draw_go hX ?_
        conv => whnf
        repeat' (first
          | (refine And.intro (by (conv => whnf); rfl) ?_
             conv => whnf)
          | (refine And.intro ?_ ?_ <;> (conv => whnf)))
        all_goals exact ⟨.mk ti tk tx tks, (.mk xi xk xx []), s1, by omega, hx1, by omega, rfl⟩
      rw [eqB_f hd2]
      conv => whnf
      refine draw_go hX ?_
      conv => whnf
      repeat' (first
        | (refine And.intro (by (conv => whnf); rfl) ?_
           conv => whnf)
        | (refine And.intro ?_ ?_ <;> (conv => whnf)))
      all_goals exact ⟨.mk ti tk tx tks, (.mk xi xk xx []), s1, by omega, hx1, by omega, rfl⟩
    · obtain ⟨fr, rfl⟩ := hh.split
      clear hh
      refine hC _ _ ?_
      clear hC
      obtain ⟨k0, ks, rfl⟩ : ∃ k0 ks, xks = k0 :: ks := by
        cases xks with
        | nil => exact absurd rfl hk
        | cons k0 ks => exact ⟨k0, ks, rfl⟩
      conv => whnf
      refine ⟨[2], false, ?_⟩
      conv => whnf
      refine hpk2.mono ?_
      rintro o st' ⟨e, e0, e1, rfl, rfl⟩
      conv => whnf
      by_cases hd0 : e = 0
      · rw [eqB_t hd0]
        conv => whnf
        refine ⟨[2], false, ?_⟩
        conv => whnf
        refine hany.mono ?_
        rintro o st' ⟨t2, p3, z1, ⟨z2, z5, z6, z7⟩, z3, z4, rfl, rfl⟩
        have hds : t2.size ≤ 60 := drawn_size ⟨t2, z5, z6, z7, by omega, .inl rfl⟩
        clear z2 z3 z4 z5 z6 z7
        rcases t2 with ⟨ui, uk, ux, uks⟩
        conv => whnf
        refine draw_go hX ?_
        conv => whnf
        repeat' (first
          | (refine And.intro (by (conv => whnf); rfl) ?_
             conv => whnf)
          | (refine And.intro ?_ ?_ <;> (conv => whnf)))
        all_goals exact ⟨.mk ti tk tx tks, .mk ui uk ux uks, s1, by omega, z1, by omega, rfl⟩
      rw [eqB_f hd0]
      conv => whnf
      by_cases hd1 : e = 1
      · rw [eqB_t hd1]
        conv => whnf
        refine ⟨[2], false, ?_⟩
        conv => whnf
        refine hsp.mono ?_
        rintro o st' ⟨y, p3, y1, ⟨y2, y3⟩, y4, y5, rfl, rfl⟩
        rcases y with ⟨yi, yk, yx, yks⟩
        conv => whnf
        refine draw_go hX ?_
        conv => whnf
        repeat' (first
          | (refine And.intro (by (conv => whnf); rfl) ?_
             conv => whnf)
          | (refine And.intro ?_ ?_ <;> (conv => whnf)))
        all_goals exact ⟨.mk ti tk tx tks, .mk yi yk yx yks, s1, by omega, y1, by omega, rfl⟩
      rw [eqB_f hd1]
      conv => whnf
      by_cases hd2 : e = 2
      · rw [eqB_t hd2]
        conv => whnf
        rcases ks with _ | ⟨k1, ks⟩
        · rw [ltB_f (by simp [T.rows])]
          conv => whnf
          refine draw_go hX ?_
          conv => whnf
          repeat' (first
            | (refine And.intro (by (conv => whnf); rfl) ?_
               conv => whnf)
            | (refine And.intro ?_ ?_ <;> (conv => whnf)))
          all_goals exact ⟨.mk ti tk tx tks, (.mk xi xk xx [k0]), s1, by omega, hx1, by omega, rfl⟩
        · rw [ltB_t (by simp [T.rows]; omega)]
          have hsw := swap_small hx1
          obtain ⟨ai, ak, ax, as1⟩ := k0
          obtain ⟨bi, bk, bx, bs1⟩ := k1
          conv => whnf
          refine ⟨by omega, _, _, 4, rfl, rfl, rfl, rfl, ?_⟩
          conv => whnf
          refine AtRow_intro _ rfl ?_
          conv => whnf
          refine draw_go hX ?_
          conv => whnf
          refine ⟨by omega, _, _, 4, rfl, rfl, rfl, rfl, ?_⟩
          conv => whnf
          refine AtRow_intro _ rfl ?_
          conv => whnf
          refine ⟨by omega, _, _, 4, rfl, rfl, rfl, rfl, ?_⟩
          conv => whnf
          refine AtRow_intro _ rfl ?_
          conv => whnf
          refine ⟨by omega, _, _, 4, rfl, rfl, rfl, rfl, ?_⟩
          conv => whnf
          refine AtRow_intro _ rfl ?_
          conv => whnf
          refine draw_go hX ?_
          conv => whnf
          repeat' (first
            | (refine And.intro (by (conv => whnf); rfl) ?_
               conv => whnf)
            | (refine And.intro ?_ ?_ <;> (conv => whnf)))
          all_goals exact ⟨.mk ti tk tx tks, (.mk xi xk xx (.mk bi bk bx bs1 :: .mk ai ak ax as1 :: ks)), s1, by omega, hsw, by rw [swap_size]; omega, rfl⟩
      rw [eqB_f hd2]
      conv => whnf
      refine draw_go hX ?_
      conv => whnf
      repeat' (first
        | (refine And.intro (by (conv => whnf); rfl) ?_
           conv => whnf)
        | (refine And.intro ?_ ?_ <;> (conv => whnf)))
      all_goals exact ⟨.mk ti tk tx tks, (.mk xi xk xx (k0 :: ks)), s1, by omega, hx1, by omega, rfl⟩
    · obtain ⟨fr, rfl⟩ := hh.split
      clear hh
      refine hC _ _ ?_
      clear hC
      obtain ⟨k0, ks, rfl⟩ : ∃ k0 ks, xks = k0 :: ks := by
        cases xks with
        | nil => exact absurd rfl hk
        | cons k0 ks => exact ⟨k0, ks, rfl⟩
      conv => whnf
      refine ⟨[2], false, ?_⟩
      conv => whnf
      refine hpk2.mono ?_
      rintro o st' ⟨e, e0, e1, rfl, rfl⟩
      conv => whnf
      by_cases hd0 : e = 0
      · rw [eqB_t hd0]
        conv => whnf
        refine ⟨[2], false, ?_⟩
        conv => whnf
        refine hany.mono ?_
        rintro o st' ⟨t2, p3, z1, ⟨z2, z5, z6, z7⟩, z3, z4, rfl, rfl⟩
        have hds : t2.size ≤ 60 := drawn_size ⟨t2, z5, z6, z7, by omega, .inl rfl⟩
        clear z2 z3 z4 z5 z6 z7
        rcases t2 with ⟨ui, uk, ux, uks⟩
        conv => whnf
        refine draw_go hX ?_
        conv => whnf
        repeat' (first
          | (refine And.intro (by (conv => whnf); rfl) ?_
             conv => whnf)
          | (refine And.intro ?_ ?_ <;> (conv => whnf)))
        all_goals exact ⟨.mk ti tk tx tks, .mk ui uk ux uks, s1, by omega, z1, by omega, rfl⟩
      rw [eqB_f hd0]
      conv => whnf
      by_cases hd1 : e = 1
      · rw [eqB_t hd1]
        conv => whnf
        refine ⟨[2], false, ?_⟩
        conv => whnf
        refine hsp.mono ?_
        rintro o st' ⟨y, p3, y1, ⟨y2, y3⟩, y4, y5, rfl, rfl⟩
        rcases y with ⟨yi, yk, yx, yks⟩
        conv => whnf
        refine draw_go hX ?_
        conv => whnf
        repeat' (first
          | (refine And.intro (by (conv => whnf); rfl) ?_
             conv => whnf)
          | (refine And.intro ?_ ?_ <;> (conv => whnf)))
        all_goals exact ⟨.mk ti tk tx tks, .mk yi yk yx yks, s1, by omega, y1, by omega, rfl⟩
      rw [eqB_f hd1]
      conv => whnf
      by_cases hd2 : e = 2
      · rw [eqB_t hd2]
        conv => whnf
        rcases ks with _ | ⟨k1, ks⟩
        · rw [ltB_f (by simp [T.rows])]
          conv => whnf
          refine draw_go hX ?_
          conv => whnf
          repeat' (first
            | (refine And.intro (by (conv => whnf); rfl) ?_
               conv => whnf)
            | (refine And.intro ?_ ?_ <;> (conv => whnf)))
          all_goals exact ⟨.mk ti tk tx tks, (.mk xi xk xx [k0]), s1, by omega, hx1, by omega, rfl⟩
        · rw [ltB_t (by simp [T.rows]; omega)]
          have hsw := swap_small hx1
          obtain ⟨ai, ak, ax, as1⟩ := k0
          obtain ⟨bi, bk, bx, bs1⟩ := k1
          conv => whnf
          refine ⟨by omega, _, _, 4, rfl, rfl, rfl, rfl, ?_⟩
          conv => whnf
          refine AtRow_intro _ rfl ?_
          conv => whnf
          refine draw_go hX ?_
          conv => whnf
          refine ⟨by omega, _, _, 4, rfl, rfl, rfl, rfl, ?_⟩
          conv => whnf
          refine AtRow_intro _ rfl ?_
          conv => whnf
          refine ⟨by omega, _, _, 4, rfl, rfl, rfl, rfl, ?_⟩
          conv => whnf
          refine AtRow_intro _ rfl ?_
          conv => whnf
          refine ⟨by omega, _, _, 4, rfl, rfl, rfl, rfl, ?_⟩
          conv => whnf
          refine AtRow_intro _ rfl ?_
          conv => whnf
          refine draw_go hX ?_
          conv => whnf
          repeat' (first
            | (refine And.intro (by (conv => whnf); rfl) ?_
               conv => whnf)
            | (refine And.intro ?_ ?_ <;> (conv => whnf)))
          all_goals exact ⟨.mk ti tk tx tks, (.mk xi xk xx (.mk bi bk bx bs1 :: .mk ai ak ax as1 :: ks)), s1, by omega, hsw, by rw [swap_size]; omega, rfl⟩
      rw [eqB_f hd2]
      conv => whnf
      refine draw_go hX ?_
      conv => whnf
      repeat' (first
        | (refine And.intro (by (conv => whnf); rfl) ?_
           conv => whnf)
        | (refine And.intro ?_ ?_ <;> (conv => whnf)))
      all_goals exact ⟨.mk ti tk tx tks, (.mk xi xk xx (k0 :: ks)), s1, by omega, hx1, by omega, rfl⟩
  conv => whnf
  repeat' (first
    | (refine ⟨[2], false, ?_⟩
       conv => whnf
       refine hpk.mono ?_
       rintro o st' ⟨c, c0, c1, rfl, rfl⟩
       have c1 := c1 (by omega)
       obtain ⟨c, rfl⟩ : ∃ n : Nat, c = n := ⟨c.toNat, by omega⟩
       have hed := hed c (by omega)
       conv => whnf)
    | (refine ⟨[2], false, ?_⟩
       conv => whnf
       refine hed.mono ?_
       rintro o st' ⟨x, p2, x1, x2, x3, rfl, rfl⟩
       rcases x with ⟨xi, xk, xx, _ | ⟨x0, xs⟩⟩
       all_goals conv => whnf)
    | (refine And.intro (by (conv => whnf); rfl) ?_
       conv => whnf)
    | (refine And.intro ?_ ?_ <;> (conv => whnf)))
  all_goals first
    | exact key _ _ ⟨.mk xi xk xx [], p2, x1, by omega, by omega, .inl ⟨rfl, ⟨rfl, rfl, rfl, rfl, rfl, trivial⟩, rfl⟩⟩
    | exact key _ _ ⟨.mk xi xk xx (x0 :: xs), p2, x1, by omega, by omega, .inr (.inl ⟨(by intro h; cases h), ⟨rfl, rfl, rfl, rfl, rfl, trivial⟩, rfl⟩)⟩
    | exact key _ _ ⟨.mk xi xk xx (x0 :: xs), p2, x1, by omega, by omega, .inr (.inr ⟨(by intro h; cases h), ⟨rfl, rfl, rfl, rfl, rfl, trivial⟩, rfl⟩)⟩
end Go.Cod

namespace Go.Cod
open Go Go.Proofs
set_option linter.all false
set_option maxRecDepth 10000

end Go.Cod

namespace Go.Cod
open Go Go.Proofs Go.ChangeShapes Go.WideShapes Go.ChangeAt Go.RowKit
set_option linter.all false
set_option maxRecDepth 10000

mutual
theorem nT_size : ∀ t : T, nT t = t.size
  | .mk _ _ _ ks => by simp only [nT, T.size, nL_size ks]; omega
theorem nL_size : ∀ ts : List T, nL ts = T.sizeL ts
  | [] => by simp [nL, T.sizeL]
  | t :: ts => by simp only [nL, T.sizeL, nT_size t, nL_size ts]
end
theorem ids_size (t : T) (h : t.size ≤ 10000) : t.ids.length ≤ 1048577 := by rw [ids_len, nT_size]; omega
theorem drawDiffCost_pure (bs : List UInt8) (hb : bs.length ≤ 1048576) : Pure Try.prog 8 [.sl (brows bs)] DrawDS := by
  have h := drawDiffSteps_pure bs hb
  refine pure_of_draw good Try.func8 rfl (by kernel_rfl) (by decide) fun X hX => ?_
  conv => whnf
  refine .inl (h.mono ?_)
  rintro r ⟨a, b, a1, a2, b1, b2, rfl⟩
  obtain ⟨ai, ak, ax, as1⟩ := a
  obtain ⟨bi, bk, bx, bs1⟩ := b
  conv => whnf
  exact ⟨.mk ai ak ax as1, .mk bi bk bx bs1, a1, a2, b1, b2, rfl⟩
end Go.Cod

namespace Go.Cod
open Go Go.Proofs Go.ChangeShapes Go.WideShapes Go.ChangeAt Go.RowKit
set_option linter.all false
set_option maxRecDepth 10000

theorem diffCost_nat (a b : T) (h : okT a = true) (h' : okT b = true) : diffCost a b = (costT a b : Nat) := by
  unfold diffCost; rw [h, h']; rfl
end Go.Cod

namespace Go.Cod
open Go Go.Proofs Go.ChangeShapes Go.WideShapes Go.ChangeAt Go.RowKit
set_option linter.all false
set_option maxRecDepth 10000

theorem idsOf_len (t : T) (h : okT t = true) : (irows (idsOf t)).length = nT t := by
  unfold idsOf; rw [h, irows_len]; exact ids_len t
set_option maxHeartbeats 8000000 in
theorem lawFnCostMost (bs : List UInt8) : Pure Try.prog 5 [.sl (brows bs)] (· = .bool true) := by
  have hbl := brows_len bs
  have hd := drawDiffCost_pure bs
  refine pure_of_draw good Try.func5 rfl (by kernel_rfl) (by decide) fun X hX => ?_
  conv => whnf
  rw [hbl]
  by_cases c0 : 1048576 < bs.length
  · rw [ltB_t (by omega)]
    conv => whnf
  rw [ltB_f (by omega)]
  have hd := hd (by omega)
  conv => whnf
  refine .inl (hd.mono ?_)
  rintro r ⟨a, b, a1, a2, b1, b2, rfl⟩
  have na := ids_size a a2
  have nb := ids_size b b2
  have f1 := implDiffCost_pure a b a1 b1
  have f2 := specDiffCost_pure a b a1 b1 na nb
  have o1 := implTreeOk a a1
  have o2 := specTreeOk_pure a a1 na
  have o3 := specTreeOk_pure b b1 nb
  have i1 := implTreeIds_pure a a1
  have i2 := implTreeIds_pure b b1
  have l1 := idsOf_len a
  have l2 := idsOf_len b
  have t1 := diffCost_nat a b
  have t2 := costT_most a b
  have sa : nT a ≤ 10000 := by rw [nT_size]; exact a2
  have sb : nT b ≤ 10000 := by rw [nT_size]; exact b2
  generalize irows (idsOf a) = ra1 at *
  generalize irows (idsOf b) = rb1 at *
  generalize nT a = n at *
  generalize nT b = m at *
  generalize costT a b = cc at *
  generalize diffCost a b = d1 at *
  generalize okT a = ra at *
  generalize okT b = rb at *
  have hnn : negB (eqB d1 d1) = false := by rw [eqB_refl]; rfl
  obtain ⟨ai, ak, ax, as1⟩ := a
  obtain ⟨bi, bk, bx, bs1⟩ := b
  conv => whnf
  refine .inl (f1.mono ?_)
  rintro r rfl
  conv => whnf
  refine draw_go hX ?_
  conv => whnf
  refine ⟨_, .inl f2, ?_⟩
  conv => whnf
  rw [hnn]
  conv => whnf
  refine ⟨_, .inl o1, ?_⟩
  conv => whnf
  refine ⟨_, .inl o2, ?_⟩
  cases ra
  · conv => whnf
    refine ⟨_, .inl o2, ?_⟩
    conv => whnf
    refine draw_go hX ?_
    conv => whnf
    refine ⟨_, .inl f2, ?_⟩
    conv => whnf
    rw [eqB_refl]
    conv => whnf
    refine ⟨_, .inl o1, ?_⟩
    conv => whnf
    refine ⟨_, .inl o2, ?_⟩
    conv => whnf
    rfl
  conv => whnf
  refine ⟨_, .inl o2, ?_⟩
  conv => whnf
  refine ⟨_, .inl o3, ?_⟩
  cases rb
  · conv => whnf
    refine draw_go hX ?_
    conv => whnf
    refine ⟨_, .inl f2, ?_⟩
    conv => whnf
    rw [eqB_refl]
    conv => whnf
    refine ⟨_, .inl o1, ?_⟩
    conv => whnf
    refine ⟨_, .inl o2, ?_⟩
    conv => whnf
    rfl
  have l1 := l1 rfl
  have l2 := l2 rfl
  have t1 := t1 rfl rfl
  conv => whnf
  refine .inl (i1.mono ?_)
  rintro r rfl
  conv => whnf
  rw [l1]
  refine .inl (i2.mono ?_)
  rintro r rfl
  conv => whnf
  rw [l2, t1]
  rw [wrapA n m (by omega), wrapS1 (n + m) (by omega) (by omega), leB_t (by omega)]
  conv => whnf
  rw [show IntKind.i64.wrap ((n : Int) - m) = (n : Int) - m from wrap64 (by omega) (by omega), leB_t (by omega)]
  conv => whnf
  rw [show IntKind.i64.wrap ((m : Int) - n) = (m : Int) - n from wrap64 (by omega) (by omega), leB_t (by omega)]

theorem conFnCostMost (H : Type) (enc : TypeId × Value → H) (W : World) (base : Nat) (args : Array Value) (ds gs : List (DataW H)) (before : List MemPlace)
    (hval : ∀ (j : Nat) t v, Try.f5.params[j]? = some t → args[j]? = some v → Value.okWide Try.prog W .any base t v)
    (hW : DataW.Whole enc Try.prog Try.f5.params.toList Ytijfonhgojfmkaa.Rows.fnCostMostSpec.vars false W args.toList ds gs before) {fresh handsOn again : Bool} :
    Calls Try.prog 5 args W fun e W' => ∃ v, e = .returned v ∧ Ytijfonhgojfmkaa.Rows.fnCostMostSpec.post enc Try.prog Try.f5 false fresh handsOn again W args v W' := by
  refine law_calls kids full (tb := 4) rfl Try.underlying4 (by decide +kernel) rfl hW (fun ds h => by match ds, h with | [_], _ => exact ⟨rfl, rfl, rfl⟩) hval
    (Ss := [fun x => ∃ bs : List UInt8, x = .sl (brows bs)]) laid0 ?_ ?_
  · rw [Try.params5]
    exact ⟨argBytes, trivial⟩
  · intro xs h
    obtain ⟨_, rfl, ⟨t0, rfl⟩⟩ := hold1 h
    exact lawFnCostMost t0

set_option maxRecDepth 100000 in
theorem overFnCostMost : Ytijfonhgojfmkaa.Rows.FnCostMostSaid :=
  OpenClaim.holds_of_wide 5 Try.f5 rfl rfl rfl rfl rfl rfl rfl ⟨rfl, rfl, rfl, rfl, rfl⟩ rfl rfl rfl rfl rfl (by kernel_rfl) Try.func5 (by kernel_rfl)
    (of_decide_eq_true (by kernel_rfl)) (by unfold Func.isWrapper; first | (rw [if_pos (by decide +kernel)]; kernel_rfl) | (rw [if_neg (by decide +kernel)]; exact ⟨rfl, rfl⟩))
    (fun os started H enc _ => returnsInHanded_of_change ownK started (by kernel_rfl) Try.func5
      (ChangeSpec.witness6 (enc := enc) (C := Try.checked) false ⟨#[], #[.slice none 0 0], []⟩ 8 (by kernel_rfl) (by kernel_rfl) (by kernel_rfl) (by kernel_rfl))
      (fun W base args ds gs before hval hW _ _ => conFnCostMost H enc W base args ds gs before hval hW))
end Go.Cod

