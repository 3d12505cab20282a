/- Own texts. -/
import Derived.WalkKit
import Derived.ProofKit
import Derived.Test.YtpbomdlknkakgaaCodE
namespace Go.Cod
open Go Go.Proofs
set_option maxRecDepth 10000

/- Trees behind a step. -/
mutual
/-- A tree, in which what has a number is another one, wherever that stands. -/
def T.mapAt (x : Int) (f : T → T) : T → T
  | .mk id kind text kids => if id = x then f (.mk id kind text kids) else .mk id kind text (T.mapAtL x f kids)
def T.mapAtL (x : Int) (f : T → T) : List T → List T
  | [] => []
  | t :: ts => T.mapAt x f t :: T.mapAtL x f ts
end
mutual
/-- .. the first one only. -/
def T.upd (x : Int) (f : T → T) : T → Option T
  | .mk id kind text kids => if id = x then some (f (.mk id kind text kids)) else (T.updL x f kids).map fun ks => .mk id kind text ks
def T.updL (x : Int) (f : T → T) : List T → Option (List T)
  | [] => none
  | t :: ts => match T.upd x f t with
    | some t' => some (t' :: ts)
    | none => (T.updL x f ts).map (t :: ·)
end
mutual
/-- A tree without what has a number. -/
def T.cut (x : Int) : T → T
  | .mk id kind text kids => .mk id kind text (T.cutL x kids)
def T.cutL (x : Int) : List T → List T
  | [] => []
  | t :: ts => if t.id = x then T.cutL x ts else T.cut x t :: T.cutL x ts
end
mutual
theorem T.mapAt_none (x : Int) (f : T → T) : ∀ t : T, x ∉ t.ids → t.mapAt x f = t
  | .mk id kind text kids, h => by
    simp only [T.ids, List.mem_cons, not_or] at h
    simp only [T.mapAt, if_neg (Ne.symm h.1), T.mapAtL_none x f kids h.2]
theorem T.mapAtL_none (x : Int) (f : T → T) : ∀ ts : List T, x ∉ T.idsL ts → T.mapAtL x f ts = ts
  | [], _ => rfl
  | t :: ts, h => by
    simp only [T.idsL, List.mem_append, not_or] at h
    simp only [T.mapAtL, T.mapAt_none x f t h.1, T.mapAtL_none x f ts h.2]
end
mutual
theorem T.upd_none (x : Int) (f : T → T) : ∀ t : T, x ∉ t.ids → t.upd x f = none
  | .mk id kind text kids, h => by
    simp only [T.ids, List.mem_cons, not_or] at h
    simp only [T.upd, if_neg (Ne.symm h.1), T.updL_none x f kids h.2, Option.map_none]
theorem T.updL_none (x : Int) (f : T → T) : ∀ ts : List T, x ∉ T.idsL ts → T.updL x f ts = none
  | [], _ => rfl
  | t :: ts, h => by
    simp only [T.idsL, List.mem_append, not_or] at h
    simp only [T.updL, T.upd_none x f t h.1, T.updL_none x f ts h.2, Option.map_none]
end
mutual
theorem T.upd_map (x : Int) (f : T → T) : ∀ t : T, x ∈ t.ids → t.ids.Nodup → t.upd x f = some (t.mapAt x f)
  | .mk id kind text kids, h, hn => by
    simp only [T.ids, List.mem_cons, List.nodup_cons] at h hn
    by_cases hid : id = x
    · simp only [T.upd, T.mapAt, if_pos hid]
    · have h : x ∈ T.idsL kids := by
        rcases h with h | h
        · exact absurd h.symm hid
        · exact h
      simp only [T.upd, T.mapAt, if_neg hid, T.updL_map x f kids h hn.2, Option.map_some]
theorem T.updL_map (x : Int) (f : T → T) : ∀ ts : List T, x ∈ T.idsL ts → (T.idsL ts).Nodup → T.updL x f ts = some (T.mapAtL x f ts)
  | [], h, _ => by simp [T.idsL] at h
  | t :: ts, h, hn => by
    simp only [T.idsL, List.mem_append, List.nodup_append] at h hn
    by_cases hx : x ∈ t.ids
    · have hx2 : x ∉ T.idsL ts := fun h2 => hn.2.2 x hx x h2 rfl
      simp only [T.updL, T.mapAtL, T.upd_map x f t hx hn.1, T.mapAtL_none x f ts hx2]
    · have h : x ∈ T.idsL ts := by
        rcases h with h | h
        · exact absurd h hx
        · exact h
      simp only [T.updL, T.mapAtL, T.upd_none x f t hx, T.mapAt_none x f t hx, T.updL_map x f ts h hn.2.1, Option.map_some]
end
/- Labelled trees edited are trees edited. -/
mutual
theorem LT.upd_erase (x : Int) (f : LT → LT) (g : T → T) (hf : ∀ n : LT, (f n).erase = g n.erase) : ∀ l : LT, l.Wf → (l.upd x f).map LT.erase = l.erase.upd x g
  | .mk id kind text h kids, hw => by
    simp only [LT.Wf] at hw
    simp only [LT.upd, LT.erase, T.upd]
    by_cases hid : id = x
    · rw [if_pos hid, if_pos hid, Option.map_some, hf]; rfl
    · rw [if_neg hid, if_neg hid]
      have hk := LT.updL_erase x f g hf kids hw.2
      rcases h with _ | ⟨b, c⟩
      · rw [hw.1 rfl]; rfl
      · simp only
        rw [← hk]
        cases LT.updL x f kids with
        | none => rfl
        | some ks => rfl
theorem LT.updL_erase (x : Int) (f : LT → LT) (g : T → T) (hf : ∀ n : LT, (f n).erase = g n.erase) : ∀ ls : List LT, LT.WfL ls → (LT.updL x f ls).map LT.eraseL = T.updL x g (LT.eraseL ls)
  | [], _ => rfl
  | l :: ls, hw => by
    simp only [LT.WfL] at hw
    have h1 := LT.upd_erase x f g hf l hw.1
    have h2 := LT.updL_erase x f g hf ls hw.2
    simp only [LT.updL, LT.eraseL, T.updL]
    rw [← h1]
    cases LT.upd x f l with
    | some l' => rfl
    | none =>
      simp only [Option.map_none]
      rw [← h2]
      cases LT.updL x f ls with
      | none => rfl
      | some ks => rfl
end
mutual
theorem LT.upd_wf (x : Int) (f : LT → LT) (hf : ∀ n : LT, n.Wf → (f n).Wf) : ∀ (l l' : LT), l.Wf → l.upd x f = some l' → l'.Wf
  | .mk id kind text h kids, l', hw, e => by
    simp only [LT.upd] at e
    by_cases hid : id = x
    · rw [if_pos hid, Option.some.injEq] at e
      exact e ▸ hf _ hw
    · rw [if_neg hid] at e
      simp only [LT.Wf] at hw
      rcases h with _ | ⟨b, c⟩
      · cases e
      · simp only [Option.map_eq_some_iff] at e
        obtain ⟨ks, h1, rfl⟩ := e
        simp only [LT.Wf]
        exact ⟨by simp, LT.updL_wf x f hf kids ks hw.2 h1⟩
theorem LT.updL_wf (x : Int) (f : LT → LT) (hf : ∀ n : LT, n.Wf → (f n).Wf) : ∀ (ls ls' : List LT), LT.WfL ls → LT.updL x f ls = some ls' → LT.WfL ls'
  | [], _, _, e => by simp [LT.updL] at e
  | l :: ls, ls', hw, e => by
    simp only [LT.WfL] at hw
    simp only [LT.updL] at e
    cases h1 : LT.upd x f l with
    | some l1 =>
      rw [h1, Option.some.injEq] at e
      subst e
      exact ⟨LT.upd_wf x f hf l l1 hw.1 h1, hw.2⟩
    | none =>
      rw [h1] at e
      simp only [Option.map_eq_some_iff] at e
      obtain ⟨ks, h2, rfl⟩ := e
      exact ⟨hw.1, LT.updL_wf x f hf ls ks hw.2 h2⟩
end
/- Cutting. -/
mutual
theorem T.cut_none (x : Int) : ∀ t : T, x ∉ t.ids → t.cut x = t
  | .mk id kind text kids, h => by
    simp only [T.ids, List.mem_cons, not_or] at h
    simp only [T.cut, T.cutL_none x kids h.2]
theorem T.cutL_none (x : Int) : ∀ ts : List T, x ∉ T.idsL ts → T.cutL x ts = ts
  | [], _ => rfl
  | t :: ts, h => by
    simp only [T.idsL, List.mem_append, not_or] at h
    have : ¬ t.id = x := fun e => h.1 (e ▸ t.id_mem)
    simp only [T.cutL, if_neg this, T.cut_none x t h.1, T.cutL_none x ts h.2]
end
def cutKidT (x : Int) : T → T
  | .mk id kind text kids => .mk id kind text (kids.eraseIdx (placeGo x 0 kids).toNat)
theorem placeGo_at (x : Int) (k : T) (b : List T) (hk : k.id = x) : ∀ (a : List T) (i : Nat), x ∉ a.map T.id → placeGo x i (a ++ k :: b) = ((i + a.length : Nat) : Int)
  | [], i, _ => by simp only [List.nil_append, placeGo, if_pos hk]; rfl
  | t :: a, i, h => by
    simp only [List.map_cons, List.mem_cons, not_or] at h
    simp only [List.cons_append, placeGo, if_neg (Ne.symm h.1)]
    rw [placeGo_at x k b hk a (i + 1) h.2]
    congr 1
    simp only [List.length_cons]; omega
theorem idsL_kid {ts : List T} {x : Int} (h : x ∈ ts.map T.id) : x ∈ T.idsL ts := (kidIds_sub ts).subset h
theorem T.idsL_append (a b : List T) : T.idsL (a ++ b) = T.idsL a ++ T.idsL b := by
  induction a with
  | nil => rfl
  | cons t a ih => simp [T.idsL, ih]
theorem T.cutL_append (x : Int) (a b : List T) : T.cutL x (a ++ b) = T.cutL x a ++ T.cutL x b := by
  induction a with
  | nil => rfl
  | cons t a ih =>
    simp only [List.cons_append, T.cutL]
    split <;> simp [ih]
theorem cutL_kids (x : Int) (kids : List T) (hn : (T.idsL kids).Nodup) (hx : x ∈ kids.map T.id) : T.cutL x kids = kids.eraseIdx (placeGo x 0 kids).toNat := by
  obtain ⟨k, hk, hkx⟩ := List.mem_map.1 hx
  obtain ⟨a, b, rfl⟩ := List.append_of_mem hk
  rw [T.idsL_append] at hn
  simp only [T.idsL, List.nodup_append, List.mem_append] at hn
  have hkk : x ∈ k.ids := hkx ▸ k.id_mem
  have ha : x ∉ T.idsL a := fun h => hn.2.2 x h x (.inl hkk) rfl
  have hb : x ∉ T.idsL b := fun h => hn.2.1.2.2 x hkk x h rfl
  rw [T.cutL_append]
  simp only [T.cutL, if_pos hkx]
  rw [T.cutL_none x a ha, T.cutL_none x b hb, placeGo_at x k b hkx a 0 (fun h => ha (idsL_kid h))]
  rw [Nat.zero_add, Int.toNat_natCast, List.eraseIdx_append_of_length_le (Nat.le_refl _), Nat.sub_self]
  rfl
mutual
theorem fT_kid : ∀ (t : T) (p x : Int) (s : T), fT t p = some s → x ∈ s.kids.map T.id → x ∈ T.idsL t.kids
  | .mk id kind text kids, p, x, s, h, hx => by
    simp only [fT] at h
    simp only [T.kids]
    split at h
    · rw [Option.some.injEq] at h
      subst h
      exact idsL_kid hx
    · exact fL_kid kids p x s h hx
theorem fL_kid : ∀ (ts : List T) (p x : Int) (s : T), fL ts p = some s → x ∈ s.kids.map T.id → x ∈ T.idsL ts
  | [], _, _, _, h, _ => by simp [fL] at h
  | t :: ts, p, x, s, h, hx => by
    simp only [fL] at h
    simp only [T.idsL, List.mem_append]
    cases h1 : fT t p with
    | some s' =>
      rw [h1, Option.some.injEq] at h
      subst h
      have := fT_kid t p x s' h1 hx
      cases t with
      | mk a b c d => exact .inl (by simp only [T.ids, List.mem_cons]; exact .inr this)
    | none =>
      rw [h1] at h
      exact .inr (fL_kid ts p x s h hx)
end
mutual
theorem T.cut_map (x p : Int) : ∀ (t : T) (s : T), t.ids.Nodup → fT t p = some s → x ∈ s.kids.map T.id → t.cut x = t.mapAt p (cutKidT x)
  | .mk id kind text kids, s, hn, hf, hx => by
    simp only [T.ids, List.nodup_cons] at hn
    simp only [fT] at hf
    simp only [T.cut, T.mapAt]
    by_cases hid : id = p
    · rw [if_pos hid, Option.some.injEq] at hf
      subst hf
      rw [if_pos hid, cutL_kids x kids hn.2 hx]; rfl
    · rw [if_neg hid] at hf
      rw [if_neg hid, T.cutL_map x p kids s hn.2 hf hx]
theorem T.cutL_map (x p : Int) : ∀ (ts : List T) (s : T), (T.idsL ts).Nodup → fL ts p = some s → x ∈ s.kids.map T.id → T.cutL x ts = T.mapAtL p (cutKidT x) ts
  | [], _, _, hf, _ => by simp [fL] at hf
  | t :: ts, s, hn, hf, hx => by
    simp only [fL] at hf
    simp only [T.idsL, List.nodup_append] at hn
    simp only [T.cutL, T.mapAtL]
    cases h1 : fT t p with
    | some s' =>
      rw [h1, Option.some.injEq] at hf
      subst hf
      have hk := fT_kid t p x s' h1 hx
      have hpi : p ∈ t.ids := by
        refine Decidable.byContradiction fun h => ?_
        rw [(fT_none t p).2 h] at h1; cases h1
      have hxt : x ∈ t.ids := by
        cases t with
        | mk a b c d => simp only [T.ids, List.mem_cons]; exact .inr hk
      have hne : ¬ t.id = x := fun e => by
        cases t with
        | mk a b c d =>
        simp only [T.ids, List.nodup_cons] at hn
        exact hn.1.1 (show a ∈ T.idsL d from (show a = x from e) ▸ hk)
      have hx2 : x ∉ T.idsL ts := fun h => hn.2.2 x hxt x h rfl
      have hp2 : p ∉ T.idsL ts := fun h => hn.2.2 p hpi p h rfl
      rw [if_neg hne, T.cutL_none x ts hx2, T.mapAtL_none p _ ts hp2, T.cut_map x p t s' hn.1 h1 hx]
    | none =>
      rw [h1] at hf
      have hk := fL_kid ts p x s hf hx
      have hxt : x ∉ t.ids := fun h => hn.2.2 x h x hk rfl
      have hpt := (fT_none t p).1 h1
      have hne : ¬ t.id = x := fun e => hxt (e ▸ t.id_mem)
      rw [if_neg hne, T.cut_none x t hxt, T.mapAt_none p _ t hpt, T.cutL_map x p ts s hn.2.1 hf hx]
end
/- Sizes, and that all stays small. -/
theorem T.mapAtL_eq (x : Int) (f : T → T) (ts : List T) : T.mapAtL x f ts = ts.map (T.mapAt x f) := by
  induction ts with
  | nil => rfl
  | cons t ts ih => simp [T.mapAtL, ih]
mutual
theorem T.mapAt_small (x : Int) (f : T → T) (N : Nat) (hf : ∀ s : T, s.Small → s.id = x → s.size ≤ N → (f s).Small) : ∀ t : T, t.Small → t.size ≤ N → (t.mapAt x f).Small
  | .mk id kind text kids, h, hN => by
    have h' := h
    cases h with
    | mk g1 g2 g3 g4 g5 =>
    simp only [T.mapAt]
    split
    · rename_i hid
      exact hf _ h' hid hN
    · simp only [T.size] at hN
      exact .mk g1 g2 g3 (by rw [T.mapAtL_eq, List.length_map]; exact g4) (T.mapAtL_small x f N hf kids g5 (by omega))
theorem T.mapAtL_small (x : Int) (f : T → T) (N : Nat) (hf : ∀ s : T, s.Small → s.id = x → s.size ≤ N → (f s).Small) : ∀ ts : List T, (∀ t ∈ ts, t.Small) → T.sizeL ts ≤ N → ∀ t ∈ T.mapAtL x f ts, t.Small
  | [], _, _, t, h => by simp [T.mapAtL] at h
  | t :: ts, hs, hN, y, h => by
    simp only [T.sizeL] at hN
    have h0 := T.mapAt_small x f N hf t (hs t (by simp)) (by omega)
    simp only [T.mapAtL, List.mem_cons] at h
    rcases h with rfl | h
    · exact h0
    · exact T.mapAtL_small x f N hf ts (fun z hz => hs z (by simp [hz])) (by omega) y h
end
theorem T.cutL_len (x : Int) (ts : List T) : (T.cutL x ts).length ≤ ts.length := by
  induction ts with
  | nil => simp [T.cutL]
  | cons t ts ih =>
    simp only [T.cutL]
    split
    · simp only [List.length_cons]; omega
    · simp only [List.length_cons]; omega
mutual
theorem T.cut_small (x : Int) : ∀ t : T, t.Small → (t.cut x).Small ∧ (t.cut x).size ≤ t.size
  | .mk id kind text kids, h => by
    cases h with
    | mk g1 g2 g3 g4 g5 =>
    obtain ⟨h1, h2⟩ := T.cutL_small x kids g5
    simp only [T.cut, T.size]
    exact ⟨.mk g1 g2 g3 (by have := T.cutL_len x kids; omega) h1, by omega⟩
theorem T.cutL_small (x : Int) : ∀ ts : List T, (∀ t ∈ ts, t.Small) → (∀ t ∈ T.cutL x ts, t.Small) ∧ T.sizeL (T.cutL x ts) ≤ T.sizeL ts
  | [], _ => by simp [T.cutL]
  | t :: ts, hs => by
    obtain ⟨h1, h2⟩ := T.cut_small x t (hs t (by simp))
    obtain ⟨h3, h4⟩ := T.cutL_small x ts (fun z hz => hs z (by simp [hz]))
    simp only [T.cutL]
    split
    · exact ⟨h3, by simp only [T.sizeL]; omega⟩
    · refine ⟨fun y hy => ?_, by simp only [T.sizeL]; omega⟩
      rcases List.mem_cons.1 hy with rfl | hy
      · exact h1
      · exact h3 y hy
end
def putKidT (n : Nat) (y : T) : T → T
  | .mk id kind text kids => .mk id kind text (kids.take n ++ y :: kids.drop n)
def setT (k : List UInt8) (s : List UInt8) : T → T
  | .mk id _ _ kids => .mk id k s kids
theorem T.sizeL_put (n : Nat) (y : T) (ts : List T) : T.sizeL (ts.take n ++ y :: ts.drop n) = T.sizeL ts + y.size := by
  have : T.sizeL ts = T.sizeL (ts.take n) + T.sizeL (ts.drop n) := by rw [← T.sizeL_append, List.take_append_drop]
  rw [T.sizeL_append, this]
  simp only [T.sizeL]; omega
theorem putKidT_size (n : Nat) (y s : T) : (putKidT n y s).size = s.size + y.size := by
  cases s with
  | mk id kind text kids => simp only [putKidT, T.size, T.sizeL_put]; omega
theorem putKidT_small (n : Nat) (y s : T) (hs : s.Small) (hy : y.Small) (hz : s.size ≤ 1000000) : (putKidT n y s).Small := by
  have hlen : ∀ ts : List T, ts.length ≤ T.sizeL ts := fun ts => by
    induction ts with
    | nil => simp
    | cons t ts ih =>
      have : 1 ≤ t.size := by cases t; simp only [T.size]; omega
      simp only [T.sizeL, List.length_cons]; omega
  cases hs with
  | @mk id kind text kids g1 g2 g3 g4 g5 =>
  have := hlen kids
  simp only [T.size] at hz
  refine .mk g1 g2 g3 (by simp only [List.length_append, List.length_cons, List.length_take, List.length_drop]; omega) fun t ht => ?_
  rcases List.mem_append.1 ht with h | h
  · exact g5 t (List.mem_of_mem_take h)
  · rcases List.mem_cons.1 h with rfl | h
    · exact hy
    · exact g5 t (List.mem_of_mem_drop h)
theorem setT_size (k s : List UInt8) (t : T) : (setT k s t).size = t.size := by cases t; rfl
theorem setT_small (k s : List UInt8) (t : T) (ht : t.Small) (hk : k.length ≤ 1048576) (hs : s.length ≤ 1048576) : (setT k s t).Small := by
  cases ht with
  | mk g1 g2 g3 g4 g5 => exact .mk g1 hk hs g4 g5

/-- A step. -/
structure Stp where
  kind : Int
  id : Int
  at_ : Int
  node : T
  text : List UInt8
def Stp.cells (s : Stp) : List V := [.int .i64 s.kind, .int .i64 s.id, .int .i64 s.at_] ++ s.node.cells ++ [.str s.text]
def noneT : T → Bool
  | .mk id kind text kids => decide (id = 0) && decide (kind = []) && decide (text = []) && decide (kids.length = 0)
def bareT (s : Stp) : Bool :=
  if s.kind = 1 then decide (s.text = []) else if s.kind = 2 then noneT s.node && decide (s.text = []) && decide (s.at_ = 0) else noneT s.node && decide (s.at_ = 0)
/-- A tree behind a step, be it ok or not. -/
def editT (t : T) (s : Stp) : Option T := match fT t s.id with
  | none => none
  | some x => if bareT s = false then none else
    if s.kind = 1 then (if 0 ≤ s.at_ ∧ s.at_ ≤ x.kids.length ∧ okT s.node = true then some (t.mapAt s.id (putKidT s.at_.toNat s.node)) else none)
    else if s.kind = 2 then (if s.id = t.id then none else some (t.cut s.id))
    else if s.kind = 3 then some (t.mapAt s.id (setT x.kind s.text))
    else if s.kind = 4 then some (t.mapAt s.id (setT s.text x.text))
    else none
def doT (t : T) (s : Stp) : Option T := match editT t s with
  | none => none
  | some y => if okT y = true then some y else none
/-- What a step makes of a tree; false if it cannot be done. -/
def stepT (t : T) (s : Stp) : T × Bool := if okT t = true then (match doT t s with | some y => (y, true) | none => (t, false)) else (TZ, false)
end Go.Cod

namespace Go.Cod
open Go Go.Proofs
set_option maxRecDepth 10000

mutual
/-- Where something may be put at a place. -/
def T.PutOk (x : Int) (n : Nat) : T → Prop
  | .mk id _ _ kids => if id = x then n ≤ kids.length else T.PutOkL x n kids
def T.PutOkL (x : Int) (n : Nat) : List T → Prop
  | [] => True
  | t :: ts => T.PutOk x n t ∧ T.PutOkL x n ts
end
theorem T.PutOkL_mem {x : Int} {n : Nat} {ts : List T} (h : T.PutOkL x n ts) : ∀ t ∈ ts, T.PutOk x n t := by
  induction ts with
  | nil => simp
  | cons t ts ih =>
    intro y hy
    rcases List.mem_cons.1 hy with rfl | hy
    · exact h.1
    · exact ih h.2 y hy
theorem T.mapAtL_len (x : Int) (f : T → T) (ts : List T) : (T.mapAtL x f ts).length = ts.length := by rw [T.mapAtL_eq, List.length_map]
theorem T.mapAtL_rows (x : Int) (f : T → T) (ts : List T) (i : Nat) (h : i < ts.length) : T.rows ((T.mapAtL x f ts).take (i + 1)) = T.rows ((T.mapAtL x f ts).take i) ++ [(ts[i].mapAt x f).cells] := by
  rw [T.mapAtL_eq, T.rows_eq, T.rows_eq, List.take_succ_eq_append_getElem (by simpa using h), List.map_append]
  simp
theorem T.rows_put (n : Nat) (y : T) (ts : List T) : T.rows (ts.take n ++ y :: ts.drop n) = (T.rows ts).take n ++ y.cells :: (T.rows ts).drop n := by
  simp only [T.rows_eq, List.map_append, List.map_cons, List.map_take, List.map_drop]
set_option maxHeartbeats 4000000 in
theorem l4Put_at (t : T) (ht : t.Small) (x : Int) (n : Nat) (y : T) (hid : t.id = x) (hn : n ≤ t.kids.length) :
    Pure Try.prog 84 [.agg t.cells, .int .i64 x, .int .i64 n, .agg y.cells] (· = .agg (putKidT n y t).cells) := by
  cases ht with
  | @mk id kind text kids g1 g2 g3 g4 g5 =>
  cases y with
  | mk yi yk yx yks =>
  simp only [T.id] at hid
  simp only [T.kids] at hn
  subst hid
  have hlr := Go.Cod.rows_len kids
  have hw := T.rows_wid kids
  have hput := T.rows_put n (.mk yi yk yx yks) kids
  refine pure_of_awp good Try.func84 rfl (by kernel_rfl) (by decide) ?_
  conv => whnf
  rw [eqB_refl]
  conv => whnf
  refine ⟨hw, by omega, by show n ≤ (T.rows kids).length; omega, ?_⟩
  conv => whnf
  have hA : (T.rows kids).take (n : Int).toNat = (T.rows kids).take n := rfl
  have hB : (((T.rows kids).take (T.rows kids).length).drop (n : Int).toNat) = (T.rows kids).drop n := by rw [List.take_length]; rfl
  have hAl : ((T.rows kids).take n).length = n := by rw [List.length_take]; omega
  have hBl : ((T.rows kids).drop n).length = kids.length - n := by rw [List.length_drop]; omega
  have hBw : ∀ r ∈ (T.rows kids).drop n, r.length = 4 := fun r hr => hw r (List.mem_of_mem_drop hr)
  rw [← hA] at hput hAl
  rw [← hB] at hput hBl hBw
  refine ⟨fun m hm => hw m (List.mem_of_mem_take hm), by show ((T.rows kids).take (n : Int).toNat).length * 64 ≤ _; omega, ?_⟩
  generalize (T.rows kids).take (n : Int).toNat = A at *
  cases A with
  | nil =>
    refine .inl ⟨rfl, ?_⟩
    conv => whnf
    refine ⟨fun m hm => by rw [List.mem_singleton.1 hm]; rfl, ?_⟩
    conv => whnf
    refine ⟨by show 1 * 64 ≤ _; omega, .inr ⟨(by intro e; cases e), ?_⟩⟩
    conv => whnf
    refine ⟨hw, by omega, by show n ≤ (T.rows kids).length; omega, ?_⟩
    conv => whnf
    refine ⟨hBw, ?_⟩
    conv => whnf
    refine ⟨by show (1 + (((T.rows kids).take (T.rows kids).length).drop (n : Int).toNat).length) * 64 ≤ _; omega, ?_⟩
    conv => whnf
    simp only [putKidT, T.cells]
    rw [hput]
    rfl
  | cons a A =>
    refine .inr ⟨by simp, ?_⟩
    conv => whnf
    refine ⟨fun m hm => by rw [List.mem_singleton.1 hm]; rfl, ?_⟩
    conv => whnf
    refine ⟨by show ((a :: A).length + 1) * 64 ≤ _; omega, ?_⟩
    conv => whnf
    refine ⟨hw, by omega, by show n ≤ (T.rows kids).length; omega, ?_⟩
    conv => whnf
    refine ⟨hBw, ?_⟩
    conv => whnf
    refine ⟨by
      simp only [List.length_append, List.length_map, List.length_drop, List.length_cons, List.length_nil, List.length_take] at hAl hBl ⊢
      show (A.length + 1 + (0 + 1) + _) * 64 ≤ _
      omega, ?_⟩
    conv => whnf
    simp only [putKidT, T.cells]
    rw [hput, show ∀ (c : List V) (B : List (List V)), a :: A ++ c :: B = (a :: A ++ [c]) ++ B by simp]
    rfl
theorem l4Put_in1 (t : T) (ht : t.Small) (x : Int) (n : Nat) (y : T) (hid : ¬ t.id = x) (hT : ∀ t' ∈ t.kids, Pure Try.prog 84 [.agg t'.cells, .int .i64 x, .int .i64 n, .agg y.cells] (· = .agg (t'.mapAt x (putKidT n y)).cells)) :
    Pure Try.prog 84 [.agg t.cells, .int .i64 x, .int .i64 n, .agg y.cells] (· = .agg (t.mapAt x (putKidT n y)).cells) := by
  cases ht with
  | @mk id kind text kids g1 g2 g3 g4 g5 =>
  simp only [T.kids] at hT
  simp only [T.id] at hid
  simp only [T.mapAt, if_neg hid]
  have hlr := Go.Cod.rows_len kids
  have hrow := T.mapAtL_rows x (putKidT n y) kids
  have hlen := T.mapAtL_len x (putKidT n y) kids
  generalize T.mapAtL x (putKidT n y) kids = ks at *
  generalize hf : T.mapAt x (putKidT n y) = f at *
  cases y with
  | mk yi yk yx yks =>
  refine pure_of_awp good Try.func84 rfl (by kernel_rfl) (by decide) ?_
  conv => whnf
  rw [eqB_f hid]
  conv => whnf
  refine loop_drop (fun m fr st => ∃ i : Nat, m + i = kids.length ∧
      ((i = 0 ∧ Holds fr [(1, .int .i64 x), (2, .int .i64 n), (4, .ptr 0 0 0), (7, .ptr 1 0 0), (8, .ptr 2 0 0), (10, .nils), (11, .int .i64 0)] ∧ st = [⟨[[.int .i64 id, .str kind, .str text, .sl (T.rows kids)]], 4, true, true, true, .cell⟩, ⟨[[.int .i64 yi, .str yk, .str yx, .sl (T.rows yks)]], 4, true, true, true, .cell⟩, ⟨[zrow], 4, true, true, true, .cell⟩]) ∨
       (0 < i ∧ Holds fr [(1, .int .i64 x), (2, .int .i64 n), (4, .ptr 0 0 0), (7, .ptr 1 0 0), (8, .ptr 2 0 0), (10, .own 3), (11, .int .i64 i)] ∧ st = [⟨[[.int .i64 id, .str kind, .str text, .sl (T.rows kids)]], 4, true, true, true, .cell⟩, ⟨[[.int .i64 yi, .str yk, .str yx, .sl (T.rows yks)]], 4, true, true, true, .cell⟩, ⟨[zrow], 4, true, true, true, .cell⟩, ⟨T.rows (ks.take i), 4, true, true, false, .cell⟩]))) kids.length none
    ⟨0, rfl, .inl ⟨rfl, ⟨rfl, rfl, rfl, rfl, rfl, rfl, rfl, trivial⟩, rfl⟩⟩ ?_
  rintro m fr st ⟨i, hi, ⟨rfl, hh, rfl⟩ | ⟨hi0, hh, rfl⟩⟩
  · obtain ⟨fr, rfl⟩ := hh.split
    clear hh
    conv => whnf
    by_cases hlt : 0 < kids.length
    · rw [hlr, ltB_t (by omega)]
      have hc := hT kids[0] (List.getElem_mem _)
      have htk := hrow 0 hlt
      have hg := Go.Cod.rows_get kids 0 hlt
      generalize kids[0] = t at hc htk hg
      generalize f t = ft at hc htk
      cases t with
      | mk id' kind' text' kids' =>
      cases ft with
      | mk fi fk fx fks =>
      conv => whnf
      refine ⟨by omega, T.rows kids, _, 4, rfl, hg, rfl, rfl, ?_⟩
      conv => whnf
      refine ⟨_, .inl hc, ?_⟩
      conv => whnf
      refine ⟨fun m hm => by rw [List.mem_singleton.1 hm]; rfl, ?_⟩
      conv => whnf
      refine ⟨by show 1 * 64 ≤ _; omega, .inr ⟨(by intro e; cases e), ?_⟩⟩
      conv => whnf
      refine ⟨m - 1, by omega, some [0, 1, 2, 4], ?_⟩
      conv => whnf
      refine ⟨1, by omega, .inr ⟨by omega, ⟨rfl, rfl, rfl, rfl, rfl, rfl, rfl, trivial⟩, ?_⟩⟩
      rw [htk]
      rfl
    · rw [hlr, ltB_f (by omega)]
      conv => whnf
      have : kids = [] := List.eq_nil_of_length_eq_zero (by omega)
      subst this
      have : ks = [] := List.eq_nil_of_length_eq_zero hlen
      subst this
      rfl
  · obtain ⟨fr, rfl⟩ := hh.split
    clear hh
    conv => whnf
    by_cases hlt : i < kids.length
    · rw [hlr, ltB_t (by omega)]
      have hc := hT kids[i] (List.getElem_mem _)
      have htk := hrow i hlt
      have hg := Go.Cod.rows_get kids i hlt
      generalize kids[i] = t at hc htk hg
      generalize f t = ft at hc htk
      cases t with
      | mk id' kind' text' kids' =>
      cases ft with
      | mk fi fk fx fks =>
      conv => whnf
      refine ⟨by omega, T.rows kids, _, 4, rfl, hg, rfl, rfl, ?_⟩
      conv => whnf
      refine ⟨_, .inl hc, ?_⟩
      conv => whnf
      refine ⟨fun m hm => by rw [List.mem_singleton.1 hm]; rfl, ?_⟩
      conv => whnf
      refine ⟨by
        show ((T.rows (ks.take i)).length + 1) * 64 ≤ _
        rw [Go.Cod.rows_len, List.length_take]; omega, ?_⟩
      conv => whnf
      refine ⟨m - 1, by omega, some [0, 1, 2, 5], ?_⟩
      conv => whnf
      refine ⟨i + 1, by omega, .inr ⟨by omega, ⟨rfl, rfl, rfl, rfl, rfl, rfl, ?_, trivial⟩, ?_⟩⟩
      · show V.int .i64 (IntKind.i64.wrap (i + 1)) = _
        rw [wrap64 (by omega) (by omega)]; simp
      · rw [htk]
        rfl
    · rw [hlr, ltB_f (by omega)]
      conv => whnf
      rw [List.take_of_length_le (by omega)]
      rfl
theorem l4Put_pure (t : T) (ht : t.Small) (x : Int) (n : Nat) (y : T) (hp : t.PutOk x n) : Pure Try.prog 84 [.agg t.cells, .int .i64 x, .int .i64 n, .agg y.cells] (· = .agg (t.mapAt x (putKidT n y)).cells) := by
  induction ht with
  | @mk id kind text kids g1 g2 g3 g4 g5 ih =>
    simp only [T.PutOk] at hp
    by_cases hid : id = x
    · rw [if_pos hid] at hp
      have := l4Put_at (.mk id kind text kids) (.mk g1 g2 g3 g4 g5) x n y hid hp
      simp only [T.mapAt, if_pos hid]
      exact this
    · rw [if_neg hid] at hp
      exact l4Put_in1 _ (.mk g1 g2 g3 g4 g5) x n y hid fun t' h => ih t' h (T.PutOkL_mem hp t' h)
theorem l4Set_at (t : T) (ht : t.Small) (x : Int) (k w : List UInt8) (hid : t.id = x) : Pure Try.prog 86 [.agg t.cells, .int .i64 x, .str k, .str w] (· = .agg (setT k w t).cells) := by
  cases ht with
  | @mk id kind text kids g1 g2 g3 g4 g5 =>
  simp only [T.id] at hid
  subst hid
  refine pure_of_awp good Try.func86 rfl (by kernel_rfl) (by decide) ?_
  conv => whnf
  rw [eqB_refl]
  conv => whnf
  rfl
theorem l4Set_in1 (t : T) (ht : t.Small) (x : Int) (k w : List UInt8) (hid : ¬ t.id = x) (hT : ∀ t' ∈ t.kids, Pure Try.prog 86 [.agg t'.cells, .int .i64 x, .str k, .str w] (· = .agg (t'.mapAt x (setT k w)).cells)) :
    Pure Try.prog 86 [.agg t.cells, .int .i64 x, .str k, .str w] (· = .agg (t.mapAt x (setT k w)).cells) := by
  cases ht with
  | @mk id kind text kids g1 g2 g3 g4 g5 =>
  simp only [T.kids] at hT
  simp only [T.id] at hid
  simp only [T.mapAt, if_neg hid]
  have hlr := Go.Cod.rows_len kids
  have hrow := T.mapAtL_rows x (setT k w) kids
  have hlen := T.mapAtL_len x (setT k w) kids
  generalize T.mapAtL x (setT k w) kids = ks at *
  generalize hf : T.mapAt x (setT k w) = f at *
  refine pure_of_awp good Try.func86 rfl (by kernel_rfl) (by decide) ?_
  conv => whnf
  rw [eqB_f hid]
  conv => whnf
  refine loop_drop (fun m fr st => ∃ i : Nat, m + i = kids.length ∧
      ((i = 0 ∧ Holds fr [(1, .int .i64 x), (2, .str k), (3, .str w), (4, .ptr 0 0 0), (8, .ptr 1 0 0), (9, .nils), (10, .int .i64 0)] ∧ st = [⟨[[.int .i64 id, .str kind, .str text, .sl (T.rows kids)]], 4, true, true, true, .cell⟩, ⟨[zrow], 4, true, true, true, .cell⟩]) ∨
       (0 < i ∧ Holds fr [(1, .int .i64 x), (2, .str k), (3, .str w), (4, .ptr 0 0 0), (8, .ptr 1 0 0), (9, .own 2), (10, .int .i64 i)] ∧ st = [⟨[[.int .i64 id, .str kind, .str text, .sl (T.rows kids)]], 4, true, true, true, .cell⟩, ⟨[zrow], 4, true, true, true, .cell⟩, ⟨T.rows (ks.take i), 4, true, true, false, .cell⟩]))) kids.length none
    ⟨0, rfl, .inl ⟨rfl, ⟨rfl, rfl, rfl, rfl, rfl, rfl, rfl, trivial⟩, rfl⟩⟩ ?_
  rintro m fr st ⟨i, hi, ⟨rfl, hh, rfl⟩ | ⟨hi0, hh, rfl⟩⟩
  · obtain ⟨fr, rfl⟩ := hh.split
    clear hh
    conv => whnf
    by_cases hlt : 0 < kids.length
    · rw [hlr, ltB_t (by omega)]
      have hc := hT kids[0] (List.getElem_mem _)
      have htk := hrow 0 hlt
      have hg := Go.Cod.rows_get kids 0 hlt
      generalize kids[0] = t at hc htk hg
      generalize f t = ft at hc htk
      cases t with
      | mk id' kind' text' kids' =>
      cases ft with
      | mk fi fk fx fks =>
      conv => whnf
      refine ⟨by omega, T.rows kids, _, 4, rfl, hg, rfl, rfl, ?_⟩
      conv => whnf
      refine .inl (hc.mono ?_)
      rintro r rfl
      conv => whnf
      refine ⟨fun m hm => by rw [List.mem_singleton.1 hm]; rfl, ?_⟩
      conv => whnf
      refine ⟨by show 1 * 64 ≤ _; omega, .inr ⟨(by intro e; cases e), ?_⟩⟩
      conv => whnf
      refine ⟨m - 1, by omega, some [0, 1, 3], ?_⟩
      conv => whnf
      refine ⟨1, by omega, .inr ⟨by omega, ⟨rfl, rfl, rfl, rfl, rfl, rfl, rfl, trivial⟩, ?_⟩⟩
      rw [htk]
      rfl
    · rw [hlr, ltB_f (by omega)]
      conv => whnf
      have : kids = [] := List.eq_nil_of_length_eq_zero (by omega)
      subst this
      have : ks = [] := List.eq_nil_of_length_eq_zero hlen
      subst this
      rfl
  · obtain ⟨fr, rfl⟩ := hh.split
    clear hh
    conv => whnf
    by_cases hlt : i < kids.length
    · rw [hlr, ltB_t (by omega)]
      have hc := hT kids[i] (List.getElem_mem _)
      have htk := hrow i hlt
      have hg := Go.Cod.rows_get kids i hlt
      generalize kids[i] = t at hc htk hg
      generalize f t = ft at hc htk
      cases t with
      | mk id' kind' text' kids' =>
      cases ft with
      | mk fi fk fx fks =>
      conv => whnf
      refine ⟨by omega, T.rows kids, _, 4, rfl, hg, rfl, rfl, ?_⟩
      conv => whnf
      refine .inl (hc.mono ?_)
      rintro r rfl
      conv => whnf
      refine ⟨fun m hm => by rw [List.mem_singleton.1 hm]; rfl, ?_⟩
      conv => whnf
      refine ⟨by
        show ((T.rows (ks.take i)).length + 1) * 64 ≤ _
        rw [Go.Cod.rows_len, List.length_take]; omega, ?_⟩
      conv => whnf
      refine ⟨m - 1, by omega, some [0, 1, 4], ?_⟩
      conv => whnf
      refine ⟨i + 1, by omega, .inr ⟨by omega, ⟨rfl, rfl, rfl, rfl, rfl, rfl, ?_, trivial⟩, ?_⟩⟩
      · show V.int .i64 (IntKind.i64.wrap (i + 1)) = _
        rw [wrap64 (by omega) (by omega)]; simp
      · rw [htk]
        rfl
    · rw [hlr, ltB_f (by omega)]
      conv => whnf
      rw [List.take_of_length_le (by omega)]
      rfl
theorem l4Set_pure (t : T) (ht : t.Small) (x : Int) (k w : List UInt8) : Pure Try.prog 86 [.agg t.cells, .int .i64 x, .str k, .str w] (· = .agg (t.mapAt x (setT k w)).cells) := by
  induction ht with
  | @mk id kind text kids g1 g2 g3 g4 g5 ih =>
    by_cases hid : id = x
    · have := l4Set_at (.mk id kind text kids) (.mk g1 g2 g3 g4 g5) x k w hid
      simp only [T.mapAt, if_pos hid]
      exact this
    · exact l4Set_in1 _ (.mk g1 g2 g3 g4 g5) x k w hid ih
end Go.Cod

namespace Go.Cod
open Go Go.Proofs
set_option maxRecDepth 10000

theorem rows_snocT (l : List T) (t : T) : T.rows (l ++ [t]) = T.rows l ++ [t.cells] := by rw [T.rows_eq, T.rows_eq]; simp
theorem cutL_take (x : Int) (ts : List T) (i : Nat) (h : i < ts.length) : T.cutL x (ts.take (i + 1)) = if ts[i].id = x then T.cutL x (ts.take i) else T.cutL x (ts.take i) ++ [ts[i].cut x] := by
  rw [List.take_succ_eq_append_getElem h, T.cutL_append]
  simp only [T.cutL]
  split <;> simp
theorem l4Cut_pure1 (t : T) (ht : t.Small) (x : Int) (hT : ∀ t' ∈ t.kids, Pure Try.prog 85 [.agg t'.cells, .int .i64 x] (· = .agg (t'.cut x).cells)) :
    Pure Try.prog 85 [.agg t.cells, .int .i64 x] (· = .agg (t.cut x).cells) := by
  cases ht with
  | @mk id kind text kids g1 g2 g3 g4 g5 =>
  simp only [T.kids] at hT
  have hlr := Go.Cod.rows_len kids
  refine pure_of_awp good Try.func85 rfl (by kernel_rfl) (by decide) ?_
  conv => whnf
  refine loop_drop (fun m fr st => ∃ i : Nat, m + i = kids.length ∧
      ((T.cutL x (kids.take i) = [] ∧ Holds fr [(1, .int .i64 x), (2, .ptr 0 0 0), (4, .ptr 1 0 0), (5, .nils), (6, .int .i64 i)] ∧ st = [⟨[[.int .i64 id, .str kind, .str text, .sl (T.rows kids)]], 4, true, true, true, .cell⟩, ⟨[zrow], 4, true, true, true, .cell⟩]) ∨
       (T.cutL x (kids.take i) ≠ [] ∧ Holds fr [(1, .int .i64 x), (2, .ptr 0 0 0), (4, .ptr 1 0 0), (5, .own 2), (6, .int .i64 i)] ∧ st = [⟨[[.int .i64 id, .str kind, .str text, .sl (T.rows kids)]], 4, true, true, true, .cell⟩, ⟨[zrow], 4, true, true, true, .cell⟩, ⟨T.rows (T.cutL x (kids.take i)), 4, true, true, false, .cell⟩]))) kids.length none
    ⟨0, rfl, .inl ⟨rfl, ⟨rfl, rfl, rfl, rfl, rfl, trivial⟩, rfl⟩⟩ ?_
  rintro m fr st ⟨i, hi, ⟨he, hh, rfl⟩ | ⟨he, hh, rfl⟩⟩
  · obtain ⟨fr, rfl⟩ := hh.split
    clear hh
    conv => whnf
    by_cases hlt : i < kids.length
    · rw [hlr, ltB_t (by omega)]
      have hc := hT kids[i] (List.getElem_mem _)
      have htk := cutL_take x kids i hlt
      have hg := Go.Cod.rows_get kids i hlt
      have hle := T.cutL_len x (kids.take i)
      rw [List.length_take] at hle
      have w1 : V.int .i64 (IntKind.i64.wrap (i + 1)) = .int .i64 ((i + 1 : Nat) : Int) := by rw [wrap64 (by omega) (by omega)]; simp
      generalize kids[i] = t at hc htk hg
      generalize hct : T.cut x t = ft at hc htk
      cases t with
      | mk id' kind' text' kids' =>
      conv => whnf
      refine ⟨by omega, T.rows kids, _, 4, rfl, hg, rfl, rfl, ?_⟩
      conv => whnf
      by_cases hx : id' = x
      · rw [eqB_t hx]
        conv => whnf
        have htk : T.cutL x (kids.take (i + 1)) = T.cutL x (kids.take i) := by rw [htk, if_pos (show (T.mk id' kind' text' kids').id = x from hx)]
        refine ⟨m - 1, by omega, none, ?_⟩
        conv => whnf
        refine ⟨i + 1, by omega, .inl ⟨by rw [htk]; exact he, ⟨rfl, rfl, rfl, rfl, w1, trivial⟩, rfl⟩⟩
      · rw [eqB_f hx]
        conv => whnf
        have htk : T.cutL x (kids.take (i + 1)) = T.cutL x (kids.take i) ++ [ft] := by rw [htk, if_neg (show ¬ (T.mk id' kind' text' kids').id = x from hx)]
        cases ft with
        | mk fi fk fx fks =>
        refine ⟨by omega, T.rows kids, _, 4, rfl, hg, rfl, rfl, ?_⟩
        conv => whnf
        refine .inl (hc.mono ?_)
        rintro r rfl
        conv => whnf
        refine ⟨fun m hm => by rw [List.mem_singleton.1 hm]; rfl, ?_⟩
        conv => whnf
        refine ⟨by show 1 * 64 ≤ _; omega, .inr ⟨(by intro e; cases e), ?_⟩⟩
        conv => whnf
        refine ⟨m - 1, by omega, some [0, 1, 3], ?_⟩
        conv => whnf
        refine ⟨i + 1, by omega, .inr ⟨by rw [htk]; simp, ⟨rfl, rfl, rfl, rfl, w1, trivial⟩, ?_⟩⟩
        rw [htk, he]
        rfl
    · rw [hlr, ltB_f (by omega)]
      conv => whnf
      rw [List.take_of_length_le (by omega)] at he
      simp only [T.cut, T.cells]; rw [he]
      rfl
  · obtain ⟨fr, rfl⟩ := hh.split
    clear hh
    conv => whnf
    by_cases hlt : i < kids.length
    · rw [hlr, ltB_t (by omega)]
      have hc := hT kids[i] (List.getElem_mem _)
      have htk := cutL_take x kids i hlt
      have hg := Go.Cod.rows_get kids i hlt
      have hle := T.cutL_len x (kids.take i)
      rw [List.length_take] at hle
      have w1 : V.int .i64 (IntKind.i64.wrap (i + 1)) = .int .i64 ((i + 1 : Nat) : Int) := by rw [wrap64 (by omega) (by omega)]; simp
      generalize kids[i] = t at hc htk hg
      generalize hct : T.cut x t = ft at hc htk
      cases t with
      | mk id' kind' text' kids' =>
      conv => whnf
      refine ⟨by omega, T.rows kids, _, 4, rfl, hg, rfl, rfl, ?_⟩
      conv => whnf
      by_cases hx : id' = x
      · rw [eqB_t hx]
        conv => whnf
        have htk : T.cutL x (kids.take (i + 1)) = T.cutL x (kids.take i) := by rw [htk, if_pos (show (T.mk id' kind' text' kids').id = x from hx)]
        refine ⟨m - 1, by omega, none, ?_⟩
        conv => whnf
        refine ⟨i + 1, by omega, .inr ⟨by rw [htk]; exact he, ⟨rfl, rfl, rfl, rfl, w1, trivial⟩, by rw [htk]; rfl⟩⟩
      · rw [eqB_f hx]
        conv => whnf
        have htk : T.cutL x (kids.take (i + 1)) = T.cutL x (kids.take i) ++ [ft] := by rw [htk, if_neg (show ¬ (T.mk id' kind' text' kids').id = x from hx)]
        cases ft with
        | mk fi fk fx fks =>
        refine ⟨by omega, T.rows kids, _, 4, rfl, hg, rfl, rfl, ?_⟩
        conv => whnf
        refine .inl (hc.mono ?_)
        rintro r rfl
        conv => whnf
        refine ⟨fun m hm => by rw [List.mem_singleton.1 hm]; rfl, ?_⟩
        conv => whnf
        refine ⟨by
          show ((T.rows (T.cutL x (kids.take i))).length + 1) * 64 ≤ _
          rw [Go.Cod.rows_len]; omega, ?_⟩
        conv => whnf
        refine ⟨m - 1, by omega, some [0, 1, 4], ?_⟩
        conv => whnf
        refine ⟨i + 1, by omega, .inr ⟨by rw [htk]; simp, ⟨rfl, rfl, rfl, rfl, w1, trivial⟩, ?_⟩⟩
        rw [htk, rows_snocT]
        rfl
    · rw [hlr, ltB_f (by omega)]
      conv => whnf
      rw [List.take_of_length_le (by omega)]
      
      rfl
theorem l4Cut_pure (t : T) (ht : t.Small) (x : Int) : Pure Try.prog 85 [.agg t.cells, .int .i64 x] (· = .agg (t.cut x).cells) := by
  induction ht with
  | @mk id kind text kids g1 g2 g3 g4 g5 ih => exact l4Cut_pure1 _ (.mk g1 g2 g3 g4 g5) x ih
end Go.Cod

namespace Go.Cod
open Go Go.Proofs
set_option maxRecDepth 10000

theorem bareT_none {kind sid at_ : Int} {node : T} {text : List UInt8} {b : Bool} (hb : noneT node = b) : bareT ⟨kind, sid, at_, node, text⟩ = if kind = 1 then decide (text = []) else if kind = 2 then b && decide (text = []) && decide (at_ = 0) else b && decide (at_ = 0) := by
  unfold bareT
  simp only [hb]
set_option maxHeartbeats 4000000 in
theorem l4Bare_pure (s : Stp) : Pure Try.prog 82 [.agg s.cells] (· = .bool (bareT s)) := by
  cases s with
  | mk kind sid at_ node text =>
  cases node with
  | mk nid nk nx nks =>
  have hl : ((T.rows nks).length : Int) = (nks.length : Int) := by rw [Go.Cod.rows_len]
  refine pure_of_awp good Try.func82 rfl (by kernel_rfl) (by decide) ?_
  conv => whnf
  by_cases h1 : nid = 0
  rotate_left
  rw [eqB_f h1]
  rw [bareT_none (b := false) (by simp only [noneT]; simp [h1])]
  rotate_right
  rw [eqB_t h1]
  conv => whnf
  by_cases h2 : nk = []
  rotate_left
  rw [eqS_f h2]
  rw [bareT_none (b := false) (by simp only [noneT]; simp [h2])]
  rotate_right
  rw [eqS_t h2]
  conv => whnf
  by_cases h3 : nx = []
  rotate_left
  rw [eqS_f h3]
  rw [bareT_none (b := false) (by simp only [noneT]; simp [h3])]
  rotate_right
  rw [eqS_t h3]
  conv => whnf
  by_cases h4 : (T.rows nks).length = 0
  rotate_left
  rw [eqB_f (show ((T.rows nks).length : Int) ≠ 0 by omega)]
  rw [bareT_none (b := false) (by simp only [noneT]; simp [h1, h2, h3]; intro e; subst e; exact h4 rfl)]
  rotate_right
  rw [eqB_t (show ((T.rows nks).length : Int) = 0 by omega)]
  rw [bareT_none (b := true) (by simp only [noneT]; simp [h1, h2, h3]; exact List.eq_nil_of_length_eq_zero (by omega))]
  all_goals
    conv => whnf
    by_cases k1 : kind = 1
    · rw [eqB_t k1, if_pos k1]
      conv => whnf
      exact congrArg V.bool (eqS_def _ _)
    · rw [eqB_f k1, if_neg k1]
      conv => whnf
      by_cases k2 : kind = 2
      · rw [eqB_t k2, if_pos k2]
        conv => whnf
        first
          | rfl
          | (by_cases k3 : text = []
             · rw [eqS_t k3]
               conv => whnf
               refine congrArg V.bool ((eqB_def _ _).trans ?_)
               simp [k3]
             · rw [eqS_f k3]
               conv => whnf
               simp [k3])
      · rw [eqB_f k2, if_neg k2]
        conv => whnf
        first
          | rfl
          | (refine congrArg V.bool ((eqB_def _ _).trans ?_)
             simp)
end Go.Cod

namespace Go.Cod
open Go Go.Proofs
set_option maxRecDepth 10000

mutual
theorem T.mapAt_size1 (x : Int) (f : T → T) (m : Nat) (hf : ∀ s : T, (f s).size ≤ s.size + m) : ∀ t : T, t.ids.Nodup → (t.mapAt x f).size ≤ t.size + m
  | .mk id kind text kids, hn => by
    simp only [T.ids, List.nodup_cons] at hn
    simp only [T.mapAt]
    split
    · exact hf _
    · have := T.mapAtL_size1 x f m hf kids hn.2
      simp only [T.size]; omega
theorem T.mapAtL_size1 (x : Int) (f : T → T) (m : Nat) (hf : ∀ s : T, (f s).size ≤ s.size + m) : ∀ ts : List T, (T.idsL ts).Nodup → T.sizeL (T.mapAtL x f ts) ≤ T.sizeL ts + m
  | [], _ => by simp [T.mapAtL, T.sizeL]
  | t :: ts, hn => by
    simp only [T.idsL, List.nodup_append] at hn
    simp only [T.mapAtL, T.sizeL]
    by_cases hx : x ∈ t.ids
    · rw [T.mapAtL_none x f ts fun h => hn.2.2 x hx x h rfl]
      have := T.mapAt_size1 x f m hf t hn.1
      omega
    · rw [T.mapAt_none x f t hx]
      have := T.mapAtL_size1 x f m hf ts hn.2.1
      omega
end
mutual
theorem putOk_none (x : Int) (n : Nat) : ∀ t : T, x ∉ t.ids → t.PutOk x n
  | .mk id kind text kids, h => by
    simp only [T.ids, List.mem_cons, not_or] at h
    simp only [T.PutOk, if_neg (Ne.symm h.1)]
    exact putOkL_none x n kids h.2
theorem putOkL_none (x : Int) (n : Nat) : ∀ ts : List T, x ∉ T.idsL ts → T.PutOkL x n ts
  | [], _ => trivial
  | t :: ts, h => by
    simp only [T.idsL, List.mem_append, not_or] at h
    exact ⟨putOk_none x n t h.1, putOkL_none x n ts h.2⟩
end
mutual
theorem putOk_found (x : Int) (n : Nat) : ∀ (t s : T), t.ids.Nodup → fT t x = some s → n ≤ s.kids.length → t.PutOk x n
  | .mk id kind text kids, s, hn, hf, hl => by
    simp only [T.ids, List.nodup_cons] at hn
    simp only [fT] at hf
    simp only [T.PutOk]
    split
    · rename_i h
      rw [if_pos h, Option.some.injEq] at hf
      subst hf; exact hl
    · rename_i h
      rw [if_neg h] at hf
      exact putOkL_found x n kids s hn.2 hf hl
theorem putOkL_found (x : Int) (n : Nat) : ∀ (ts : List T) (s : T), (T.idsL ts).Nodup → fL ts x = some s → n ≤ s.kids.length → T.PutOkL x n ts
  | [], _, _, hf, _ => by simp [fL] at hf
  | t :: ts, s, hn, hf, hl => by
    simp only [T.idsL, List.nodup_append] at hn
    simp only [fL] at hf
    cases h1 : fT t x with
    | some s' =>
      rw [h1, Option.some.injEq] at hf
      subst hf
      have hx : x ∈ t.ids := by
        refine Decidable.byContradiction fun h => ?_
        rw [(fT_none t x).2 h] at h1; cases h1
      exact ⟨putOk_found x n t s' hn.1 h1 hl, putOkL_none x n ts fun h => hn.2.2 x hx x h rfl⟩
    | none =>
      rw [h1] at hf
      exact ⟨putOk_none x n t ((fT_none t x).1 h1), putOkL_found x n ts s hn.2.1 hf hl⟩
end
def okO (y : T) : Option T := if okT y = true then some y else none
def doR (t : T) : Option T → V
  | some y => .tup [.agg y.cells, .bool true]
  | none => .tup [.agg t.cells, .bool false]
theorem okT_size {t : T} (h : okT t = true) : t.size ≤ 20 := by
  have := ((okT_iff' t).1 h).2.2
  rwa [T.ids_size] at this
theorem doT_none {t : T} {s : Stp} (h : editT t s = none) : doT t s = none := by unfold doT; rw [h]
theorem doT_some {t y : T} {s : Stp} (h : editT t s = some y) : doT t s = okO y := by unfold doT okO; rw [h]
set_option maxHeartbeats 4000000 in
theorem l4Do_pure (t : T) (s : Stp) (ht : t.Small) (hz : t.size ≤ 1000000) (hn : t.ids.Nodup) (hs : s.node.Small) (hsz : s.node.size ≤ 1048577) (htx : s.text.length ≤ 1048576) :
    Pure Try.prog 52 [.agg t.cells, .agg s.cells] (· = doR t (doT t s)) := by
  have f1 := l2Find_pure t ht s.id
  have f2 := l4Bare_pure s
  have f3 := specTreeOk_pure s.node hs (by rw [T.ids_size]; exact hsz)
  have f4 : ∀ x : T, fT t s.id = some x → s.at_.toNat ≤ x.kids.length → Pure Try.prog 84 [.agg t.cells, .int .i64 s.id, .int .i64 s.at_.toNat, .agg s.node.cells] (· = .agg (t.mapAt s.id (putKidT s.at_.toNat s.node)).cells) := fun x h1 h2 => l4Put_pure t ht s.id s.at_.toNat s.node (putOk_found s.id s.at_.toNat t x hn h1 h2)
  have f5 := l4Cut_pure t ht s.id
  have f6 := l4Set_pure t ht s.id
  have f7 : ∀ y : T, y.Small → y.size ≤ 1048577 → Pure Try.prog 51 [.agg y.cells] (· = .bool (okT y)) := fun y h1 h2 => specTreeOk_pure y h1 (by rw [T.ids_size]; exact h2)
  have z1 : ∀ x, okT s.node = true → (t.mapAt s.id (putKidT x s.node)).Small ∧ (t.mapAt s.id (putKidT x s.node)).size ≤ 1048577 := fun x h => by
    have hk := okT_size h
    refine ⟨T.mapAt_small _ _ 1000000 (fun y h1 _ h2 => putKidT_small x s.node y h1 hs h2) t ht hz, ?_⟩
    have := T.mapAt_size1 s.id (putKidT x s.node) 20 (fun y => by rw [putKidT_size]; omega) t hn
    omega
  have z2 := T.cut_small s.id t ht
  have z3 : ∀ k w : List UInt8, k.length ≤ 1048576 → w.length ≤ 1048576 → (t.mapAt s.id (setT k w)).Small ∧ (t.mapAt s.id (setT k w)).size ≤ 1048577 := fun k w h1 h2 => by
    refine ⟨T.mapAt_small _ _ 1000000 (fun y h _ _ => setT_small k w y h h1 h2) t ht hz, ?_⟩
    have := T.mapAt_size1 s.id (setT k w) 0 (fun y => by rw [setT_size]; omega) t hn
    omega
  have hsm := fun x => fT_small t s.id ht x
  have hed : editT t s = match fT t s.id with
    | none => none
    | some x => if bareT s = false then none else
      if s.kind = 1 then (if 0 ≤ s.at_ ∧ s.at_ ≤ x.kids.length ∧ okT s.node = true then some (t.mapAt s.id (putKidT s.at_.toNat s.node)) else none)
      else if s.kind = 2 then (if s.id = t.id then none else some (t.cut s.id))
      else if s.kind = 3 then some (t.mapAt s.id (setT x.kind s.text))
      else if s.kind = 4 then some (t.mapAt s.id (setT s.text x.text))
      else none := rfl
  have d0 : editT t s = none → doT t s = none := doT_none
  have d1 : ∀ y, editT t s = some y → doT t s = okO y := fun y => doT_some
  generalize doT t s = d at *
  generalize editT t s = e at *
  generalize fT t s.id = f at *
  generalize bareT s = b at *
  cases s with
  | mk kind sid at_ node text =>
  simp only at f1 f3 f4 f5 f6 z1 z2 z3 hed hs hsz htx hsm
  generalize T.cut sid t = tc at *
  generalize hset : (fun k w => T.mapAt sid (setT k w) t) = ts at *
  have hset : ∀ k w, T.mapAt sid (setT k w) t = ts k w := fun k w => by rw [← hset]
  simp only [hset] at f6 z3 hed
  generalize hput : T.mapAt sid (putKidT at_.toNat node) t = tp at *
  have zp : okT node = true → tp.Small ∧ tp.size ≤ 1048577 := fun h => hput ▸ z1 at_.toNat h
  clear hset hput z1
  generalize okT node = okn at *
  have hend : ∀ y : T, e = some y → y.Small → y.size ≤ 1048577 → Pure Try.prog 51 [.agg y.cells] (· = .bool (okT y)) ∧ d = okO y := fun y h1 h2 h3 => ⟨f7 y h2 h3, d1 y h1⟩
  clear f7 d1
  have hok : ∀ y : T, e = some y → d = okO y → doR t d = if okT y = true then .tup [.agg y.cells, .bool true] else .tup [.agg t.cells, .bool false] := fun y _ h => by
    rw [h]; unfold okO
    split <;> rfl
  simp only [Stp.cells] at f2 ⊢
  have hbig : ∀ y : T, y.Small → y.size ≤ 1048577 → e = some y → d = okO y ∧ Pure Try.prog 51 [.agg y.cells] (· = .bool (okT y)) := fun y h1 h2 h3 => ⟨(hend y h3 h1 h2).2, (hend y h3 h1 h2).1⟩
  clear hend
  cases t with
  | mk tid tk tx tks =>
  cases node with
  | mk nid nk nx nks =>
  refine pure_of_awp good Try.func52 rfl (by kernel_rfl) (by decide) ?_
  conv => whnf
  refine .inl (f1.mono ?_)
  rintro r rfl
  cases f with
  | none =>
    conv => whnf
    rw [d0 hed]
    rfl
  | some x =>
    cases x with
    | mk xid xk xx xks =>
    conv => whnf
    refine .inl (f2.mono ?_)
    rintro r rfl
    cases b with
    | false =>
      conv => whnf
      rw [d0 hed]
      rfl
    | true =>
      simp only [Bool.true_eq_false, if_false] at hed
      conv => whnf
      by_cases k1 : kind = 1
      · rw [if_pos k1] at hed
        rw [eqB_t k1]
        conv => whnf
        refine .inl ((l1In_pure _ _ _).mono ?_)
        rintro r rfl
        by_cases hr : 0 ≤ at_ ∧ at_ ≤ (xks.length : Int)
        · rw [show (decide ((0 : Int) ≤ at_ ∧ at_ ≤ ((T.rows xks).length : Int))) = true by rw [Go.Cod.rows_len]; simpa using hr]
          conv => whnf
          refine .inl (f3.mono ?_)
          rintro r rfl
          cases okn with
          | false =>
            conv => whnf
            rw [d0 (by rw [hed, if_neg (by simp)])]
            rfl
          | true =>
            obtain ⟨n, rfl⟩ : ∃ n : Nat, at_ = n := ⟨at_.toNat, by omega⟩
            have hed : e = some tp := by rw [hed]; exact if_pos ⟨hr.1, hr.2, rfl⟩
            have f4 := f4 _ rfl (by simp only [T.kids]; omega)
            obtain ⟨q1, q2⟩ := zp rfl
            obtain ⟨q3, q4⟩ := hbig tp q1 q2 hed
            have hok := hok tp hed q3
            generalize okT tp = okp at *
            cases tp with
            | mk pid pk px pks =>
            conv => whnf
            refine .inl (f4.mono ?_)
            rintro r rfl
            conv => whnf
            refine .inl (q4.mono ?_)
            rintro r rfl
            rw [hok]
            cases okp <;> (conv => whnf) <;> rfl
        · rw [show (decide ((0 : Int) ≤ at_ ∧ at_ ≤ ((T.rows xks).length : Int))) = false by rw [Go.Cod.rows_len]; simpa using hr]
          conv => whnf
          rw [d0 (by rw [hed]; exact if_neg (fun h => hr ⟨h.1, h.2.1⟩))]
          rfl
      rw [if_neg k1] at hed
      rw [eqB_f k1]
      conv => whnf
      by_cases k2 : kind = 2
      · rw [if_pos k2] at hed
        rw [eqB_t k2]
        conv => whnf
        by_cases hi : sid = tid
        · rw [eqB_t hi]
          conv => whnf
          rw [d0 (by rw [hed]; exact if_pos hi)]
          rfl
        · rw [eqB_f hi]
          have hed : e = some tc := by rw [hed]; exact if_neg hi
          obtain ⟨q3, q4⟩ := hbig tc z2.1 (by have := z2.2; simp only [T.size] at this hz ⊢; omega) hed
          have hok := hok tc hed q3
          generalize okT tc = okp at *
          cases tc with
          | mk pid pk px pks =>
          conv => whnf
          refine .inl (f5.mono ?_)
          rintro r rfl
          conv => whnf
          refine .inl (q4.mono ?_)
          rintro r rfl
          rw [hok]
          cases okp <;> (conv => whnf) <;> rfl
      rw [if_neg k2] at hed
      rw [eqB_f k2]
      conv => whnf
      have hx := hsm _ rfl
      have hxk : xk.length ≤ 1048576 ∧ xx.length ≤ 1048576 := by
        cases hx with
        | mk g1 g2 g3 g4 g5 => exact ⟨g2, g3⟩
      by_cases k3 : kind = 3
      · rw [if_pos k3] at hed
        rw [eqB_t k3]
        have f6 := f6 xk text
        obtain ⟨q1, q2⟩ := z3 xk text hxk.1 htx
        have hed : e = some (ts xk text) := hed
        obtain ⟨q3, q4⟩ := hbig _ q1 q2 hed
        have hok := hok _ hed q3
        generalize ts xk text = tp at *
        generalize okT tp = okp at *
        cases tp with
        | mk pid pk px pks =>
        conv => whnf
        refine .inl (f6.mono ?_)
        rintro r rfl
        conv => whnf
        refine .inl (q4.mono ?_)
        rintro r rfl
        rw [hok]
        cases okp <;> (conv => whnf) <;> rfl
      rw [if_neg k3] at hed
      rw [eqB_f k3]
      conv => whnf
      by_cases k4 : kind = 4
      · rw [if_pos k4] at hed
        rw [eqB_t k4]
        have f6 := f6 text xx
        obtain ⟨q1, q2⟩ := z3 text xx htx hxk.2
        have hed : e = some (ts text xx) := hed
        obtain ⟨q3, q4⟩ := hbig _ q1 q2 hed
        have hok := hok _ hed q3
        generalize ts text xx = tp at *
        generalize okT tp = okp at *
        cases tp with
        | mk pid pk px pks =>
        conv => whnf
        refine .inl (f6.mono ?_)
        rintro r rfl
        conv => whnf
        refine .inl (q4.mono ?_)
        rintro r rfl
        rw [hok]
        cases okp <;> (conv => whnf) <;> rfl
      rw [if_neg k4] at hed
      rw [eqB_f k4]
      conv => whnf
      rw [d0 hed]
      rfl
end Go.Cod

namespace Go.Cod
open Go Go.Proofs
set_option maxRecDepth 10000

theorem okO_some {y z : T} (h : okO y = some z) : y = z ∧ okT y = true := by
  unfold okO at h
  split at h
  · rename_i h1
    exact ⟨Option.some.inj h, h1⟩
  · cases h
theorem doT_ok {t : T} {s : Stp} {y : T} (h : doT t s = some y) : editT t s = some y ∧ okT y = true := by
  unfold doT at h
  cases he : editT t s with
  | none => rw [he] at h; cases h
  | some z =>
    rw [he] at h
    obtain ⟨rfl, h2⟩ := okO_some h
    exact ⟨rfl, h2⟩
theorem editT_small {t : T} {s : Stp} {y : T} (ht : t.Small) (hz : t.size ≤ 1000000) (hs : s.node.Small) (htx : s.text.length ≤ 1048576) (h : editT t s = some y) : y.Small := by
  have hsm := fun x => fT_small t s.id ht x
  unfold editT at h
  cases hf : fT t s.id with
  | none => rw [hf] at h; cases h
  | some x =>
    rw [hf] at h
    have hx := hsm x hf
    have hxk : x.kind.length ≤ 1048576 ∧ x.text.length ≤ 1048576 := by
      cases hx with
      | mk g1 g2 g3 g4 g5 => exact ⟨g2, g3⟩
    simp only at h
    split at h
    · cases h
    split at h
    · split at h
      · cases h
        exact T.mapAt_small _ _ 1000000 (fun y h1 _ h2 => putKidT_small _ s.node y h1 hs h2) t ht hz
      · cases h
    split at h
    · split at h
      · cases h
      · cases h
        exact (T.cut_small s.id t ht).1
    split at h
    · cases h
      exact T.mapAt_small _ _ 1000000 (fun y h1 _ _ => setT_small _ _ y h1 hxk.1 htx) t ht hz
    split at h
    · cases h
      exact T.mapAt_small _ _ 1000000 (fun y h1 _ _ => setT_small _ _ y h1 htx hxk.2) t ht hz
    · cases h
end Go.Cod

namespace Go.Cod
open Go Go.Proofs
set_option maxRecDepth 10000

/-- slices.Insert into nothing. -/
theorem insert_nil (es : List (List V)) (row : List V) (hr : row.length = 4) :
    Full Try.prog noY 153 [.nils, .int .i64 0, .own 1] [poolO es, ⟨[row], 4, true, true, false, .cell⟩] fun o st' => ∃ b' c' d, d.box = false ∧ (∀ e ∈ es, labOf e ≠ b') ∧ o = .ret (.dref b' 1 c') ∧ st' = [poolO (es ++ [ent b' c' 4 [row]]), d] := by
  refine (Full.givenEnd (Full.absorb (R := fun o st' => ∃ d, d.box = false ∧ o = .ret (.own 2) ∧ st' = [poolO es, d, ⟨[row], 4, true, true, false, .cell⟩]) (R' := fun o st' => ∃ b' c' d, d.box = false ∧ o = .ret (.dref b' 1 c') ∧ st' = [poolO (es ++ [ent b' c' 4 [row]]), d]) ?_ ?_)).mono ?_
  · refine full_of_awp good Try.func153 rfl (by kernel_rfl) (by decide) ?_
    conv => whnf
    refine ⟨by simp, by omega, by show (0 : Nat) ≤ 0; omega, ?_⟩
    conv => whnf
    rw [eqB_f (by simp)]
    conv => whnf
    rw [eqB_t (by rfl)]
    conv => whnf
    refine ⟨fun m hm => by rw [List.mem_singleton.1 hm]; exact hr, ?_⟩
    conv => whnf
    refine ⟨by show 1 * 64 ≤ _; omega, .inr ⟨(by intro e; cases e), ?_⟩⟩
    conv => whnf
    refine ⟨[2], true, ?_⟩
    conv => whnf
    exact ⟨_, rfl, rfl, rfl⟩
  · rintro o st' ⟨d, hd, rfl, rfl⟩
    refine ⟨_, [poolO es, d], 0, es, [row], 4, rfl, rfl, rfl, by simp, ?_, fun b c => ⟨rfl, b, c, d, hd, rfl, rfl⟩⟩
    intro p hp
    simp only [List.mem_cons, List.not_mem_nil, or_false] at hp
    rcases hp with rfl | rfl
    · rfl
    · exact hd
  · rintro o st' ⟨⟨b', c', d, hd, rfl, rfl⟩, hl⟩
    have hn := hl.nodup (k := 0) rfl
    refine ⟨b', c', d, hd, fun e he hb => ?_, rfl, rfl⟩
    rw [List.map_append, List.nodup_append] at hn
    exact hn.2.2 _ (List.mem_map_of_mem he) b' (by simp [ent, labOf]) hb
end Go.Cod

namespace Go.Cod
open Go Go.Proofs
set_option maxRecDepth 10000

/-- The block of what is in a thing behind an insertion: its own, or another one. -/
def hdr (inp : Bool) (p : Nat × Nat) (h : Option (Nat × Nat)) : Nat × Nat := match inp, h with
  | true, some q => q
  | _, _ => p
theorem insert_to (es : List (List V)) (b n c i : Nat) (rows : List (List V)) (row : List V) (hm : ent b c 4 rows ∈ es) (hn : rows.length = n) (hi : i ≤ n) (hmax : n ≤ 1048576) (hrw : ∀ r ∈ rows, r.length = 4) (hr : row.length = 4) :
    Full Try.prog noY 153 [.dref b n c, .int .i64 (i : Int), .own 1] [poolO es, ⟨[row], 4, true, true, false, .cell⟩] (InsR b n c i row rows es) :=
  Full.room 0 (insert_nil es row hr).1 fun hrm => insert_full es b n c i rows row hm hn hi (hn ▸ hrm b c 4 rows hm) hmax hrw hr
theorem insert_any (nh : Option (Nat × Nat)) (nks : List LT) (hwf : nh = none → nks = []) (es : List (List V)) (hm : ∀ e ∈ rootE nh nks, e ∈ es) (row : List V) (hr : row.length = 4) (i : Nat) (hi : i ≤ nks.length) (hmax : nks.length ≤ 1048576) :
    Full Try.prog noY 153 [hdV nh nks.length, .int .i64 (i : Int), .own 1] [poolO es, ⟨[row], 4, true, true, false, .cell⟩] fun o st' => ∃ (inp : Bool) (p : Nat × Nat) (es2 : List (List V)) (d : O), d.box = false ∧
      o = .ret (.dref (hdr inp p nh).1 (nks.length + 1) (hdr inp p nh).2) ∧ st' = [poolO es2, d] ∧ ent (hdr inp p nh).1 (hdr inp p nh).2 4 ((LT.rows nks).take i ++ row :: (LT.rows nks).drop i) ∈ es2 ∧
      (∀ e ∈ es, (∀ q, nh = some q → labOf e ≠ q.1) → e ∈ es2) ∧ ∀ e ∈ es, labOf e ≠ p.1 := by
  rcases nh with _ | ⟨b, c⟩
  · have := hwf rfl
    subst this
    obtain rfl : i = 0 := by simpa using hi
    refine (insert_nil es row hr).mono ?_
    rintro o st' ⟨b', c', d, hd, hf, rfl, rfl⟩
    exact ⟨false, (b', c'), _, d, hd, rfl, rfl, by simp [hdr, LT.rows], fun e he _ => List.mem_append_left _ he, hf⟩
  · obtain ⟨z, hz⟩ := fresh_lab (es.map labOf)
    refine (insert_to es b nks.length c i (LT.rows nks) row (hm _ (by simp [rootE])) (LT.rows_len nks) hi hmax (rows_wid nks) hr).mono ?_
    rintro o st' ⟨b', c', es', d, hd, rfl, rfl, ⟨rfl, rfl, rfl⟩ | ⟨hf, rfl⟩⟩
    · exact ⟨true, (z, 0), _, d, hd, rfl, rfl, putEnt_mem (rows := LT.rows nks) (hm (ent _ _ 4 (LT.rows nks)) (by simp [rootE, hdr])), fun e he hl => putEnt_other he (hl _ rfl), fun e he h => absurd (hz _ (List.mem_map_of_mem he)) (by rw [h]; simp)⟩
    · exact ⟨false, (b', c'), _, d, hd, rfl, rfl, by simp [hdr], fun e he _ => List.mem_append_left _ he, hf⟩
/-- A thing with one more in it. -/
def putKid (n : Nat) (y : LT) (inp : Bool) (p : Nat × Nat) : LT → LT
  | .mk id kind text h kids => .mk id kind text (some (hdr inp p h)) (kids.take n ++ y :: kids.drop n)
theorem putKid_erase (n : Nat) (y : LT) (inp : Bool) (p : Nat × Nat) (m : LT) : (putKid n y inp p m).erase = putKidT n y.erase m.erase := by
  cases m with
  | mk id kind text h kids => simp only [putKid, LT.erase, putKidT, LT.eraseL_eq, List.map_append, List.map_cons, List.map_take, List.map_drop]
theorem putKid_wf (n : Nat) (y : LT) (hy : y.Wf) (inp : Bool) (p : Nat × Nat) (m : LT) (hm : m.Wf) : (putKid n y inp p m).Wf := by
  cases m with
  | mk id kind text h kids =>
    simp only [LT.Wf] at hm
    simp only [putKid, LT.Wf]
    refine ⟨by simp, (LT.WfL_iff _).2 fun l hl => ?_⟩
    have hk := (LT.WfL_iff _).1 hm.2
    rcases List.mem_append.1 hl with h | h
    · exact hk l (List.mem_of_mem_take h)
    · rcases List.mem_cons.1 h with rfl | h
      · exact hy
      · exact hk l (List.mem_of_mem_drop h)
theorem putKid_labs (n : Nat) (y : LT) (hy : y.labs.Nodup) (inp : Bool) (p : Nat × Nat) (hp : p.1 ∉ y.labs) (m : LT) (hm : m.labs.Nodup) (hd : ∀ a ∈ y.labs ++ [p.1], a ∉ m.labs) :
    (putKid n y inp p m).labs.Nodup ∧ ∀ a ∈ (putKid n y inp p m).labs, a ∈ m.labs ∨ a ∈ y.labs ++ [p.1] := by
  cases m with
  | mk id kind text h kids =>
    have hkid : LT.labsL kids = LT.labsL (kids.take n) ++ LT.labsL (kids.drop n) := by rw [← LT.labsL_append, List.take_append_drop]
    have hsub : ∀ a ∈ LT.labsL kids, a ∈ (LT.mk id kind text h kids).labs := fun a ha => by simp only [LT.labs]; exact List.mem_append_left _ ha
    have hq : (hdr inp p h).1 ∉ LT.labsL kids ∧ (hdr inp p h).1 ∉ y.labs ∧ ((hdr inp p h).1 ∈ (LT.mk id kind text h kids).labs ∨ (hdr inp p h).1 = p.1) := by
      have hpl : p.1 ∉ LT.labsL kids ∧ p.1 ∉ y.labs ∧ (p.1 ∈ (LT.mk id kind text h kids).labs ∨ p.1 = p.1) := ⟨fun hh => hd p.1 (by simp) (hsub _ hh), hp, .inr rfl⟩
      rcases h with _ | ⟨b, c⟩
      · cases inp <;> exact hpl
      · cases inp
        · exact hpl
        · simp only [LT.labs, List.nodup_append, List.mem_singleton] at hm
          refine ⟨fun hh => hm.2.2 _ hh _ rfl rfl, fun hh => hd b (List.mem_append_left _ hh) (by simp [LT.labs]), .inl (by simp [LT.labs, hdr])⟩
    simp only [putKid, LT.labs, LT.labsL_append, LT.labsL]
    have hkn : (LT.labsL kids).Nodup := by simp only [LT.labs, List.nodup_append] at hm; exact hm.1
    have hyk : ∀ a ∈ y.labs, a ∉ LT.labsL kids := fun a ha hh => hd a (List.mem_append_left _ ha) (hsub a hh)
    rw [hkid] at hkn hyk hq
    simp only [List.nodup_append, List.mem_append, List.mem_singleton] at hkn hyk hq ⊢
    refine ⟨⟨⟨hkn.1, ⟨hy, hkn.2.1, fun a ha b hb e => ?_⟩, fun a ha b hb e => ?_⟩, by simp, fun a ha b hb e => ?_⟩, fun a ha => ?_⟩
    · subst e; exact hyk a ha (.inr hb)
    · subst e
      rcases hb with hb | hb
      · exact hyk a hb (.inl ha)
      · exact hkn.2.2 a ha a hb rfl
    · subst e; subst hb
      rcases ha with ha | ha | ha
      · exact hq.1 (.inl ha)
      · exact hq.2.1 ha
      · exact hq.1 (.inr ha)
    · rcases ha with (ha | ha | ha) | ha
      · exact .inl (.inl (hkid ▸ List.mem_append_left _ ha))
      · exact .inr (.inl ha)
      · exact .inl (.inl (hkid ▸ List.mem_append_right _ ha))
      · subst ha
        rcases hq.2.2 with h1 | h1
        · simp only [LT.labs, List.mem_append] at h1; exact .inl h1
        · exact .inr (.inr h1)
mutual
theorem LT.upd_labs (x : Int) (f : LT → LT) (F : List Nat) (hf : ∀ n : LT, n.labs.Nodup → (∀ a ∈ F, a ∉ n.labs) → (f n).labs.Nodup ∧ ∀ a ∈ (f n).labs, a ∈ n.labs ∨ a ∈ F) :
    ∀ (l l' : LT), l.upd x f = some l' → l.labs.Nodup → (∀ a ∈ F, a ∉ l.labs) → l'.labs.Nodup ∧ ∀ a ∈ l'.labs, a ∈ l.labs ∨ a ∈ F
  | .mk id kind text h kids, l', e, hn, hF => by
    simp only [LT.upd] at e
    by_cases hid : id = x
    · rw [if_pos hid, Option.some.injEq] at e
      exact e ▸ hf _ hn hF
    · rw [if_neg hid] at e
      rcases h with _ | ⟨b, c⟩
      · cases e
      · simp only [Option.map_eq_some_iff] at e
        obtain ⟨ks, h1, rfl⟩ := e
        simp only [LT.labs, List.nodup_append, List.mem_append, List.mem_singleton, not_or] at hn hF ⊢
        obtain ⟨h2, h3⟩ := LT.updL_labs x f F hf kids ks h1 hn.1 fun a ha => (hF a ha).1
        refine ⟨⟨h2, by simp, fun a ha b' hb e => ?_⟩, fun a ha => ?_⟩
        · subst e; subst hb
          rcases h3 a ha with h | h
          · exact hn.2.2 a h a rfl rfl
          · exact (hF a h).2 rfl
        · rcases ha with ha | ha
          · rcases h3 a ha with h | h
            · exact .inl (.inl h)
            · exact .inr h
          · exact .inl (.inr ha)
theorem LT.updL_labs (x : Int) (f : LT → LT) (F : List Nat) (hf : ∀ n : LT, n.labs.Nodup → (∀ a ∈ F, a ∉ n.labs) → (f n).labs.Nodup ∧ ∀ a ∈ (f n).labs, a ∈ n.labs ∨ a ∈ F) :
    ∀ (ls ls' : List LT), LT.updL x f ls = some ls' → (LT.labsL ls).Nodup → (∀ a ∈ F, a ∉ LT.labsL ls) → (LT.labsL ls').Nodup ∧ ∀ a ∈ LT.labsL ls', a ∈ LT.labsL ls ∨ a ∈ F
  | [], _, e, _, _ => by simp [LT.updL] at e
  | l :: ls, ls', e, hn, hF => by
    simp only [LT.updL] at e
    simp only [LT.labsL, List.nodup_append, List.mem_append, not_or] at hn hF
    cases h1 : LT.upd x f l with
    | some l1 =>
      rw [h1, Option.some.injEq] at e
      subst e
      obtain ⟨h2, h3⟩ := LT.upd_labs x f F hf l l1 h1 hn.1 fun a ha => (hF a ha).1
      simp only [LT.labsL, List.nodup_append, List.mem_append]
      refine ⟨⟨h2, hn.2.1, fun a ha b hb e => ?_⟩, fun a ha => ?_⟩
      · subst e
        rcases h3 a ha with h | h
        · exact hn.2.2 a h a hb rfl
        · exact (hF a h).2 hb
      · rcases ha with ha | ha
        · rcases h3 a ha with h | h
          · exact .inl (.inl h)
          · exact .inr h
        · exact .inl (.inr ha)
    | none =>
      rw [h1] at e
      simp only [Option.map_eq_some_iff] at e
      obtain ⟨ks, h2, rfl⟩ := e
      obtain ⟨h3, h4⟩ := LT.updL_labs x f F hf ls ks h2 hn.2.1 fun a ha => (hF a ha).2
      simp only [LT.labsL, List.nodup_append, List.mem_append]
      refine ⟨⟨hn.1, h3, fun a ha b hb e => ?_⟩, fun a ha => ?_⟩
      · subst e
        rcases h4 a hb with h | h
        · exact hn.2.2 a ha a h rfl
        · exact (hF a h).1 ha
      · rcases ha with ha | ha
        · exact .inl (.inl ha)
        · rcases h4 a ha with h | h
          · exact .inl (.inr h)
          · exact .inr h
end
/-- What a deed leaves of a tree in a box. -/
def DoR (l : LT) (r : Option T) (o : Out) (st' : St) : Prop := match r with
  | none => o = .ret (.bool false) ∧ ∃ es', st' = [poolO es', boxO l]
  | some y => ∃ l' es', l'.erase = y ∧ l'.Wf ∧ (l'.ents.map labOf).Nodup ∧ o = .ret (.bool true) ∧ st' = [poolO es', boxO l'] ∧ ∀ e ∈ l'.ents, e ∈ es'
/-- What putting comes to. -/
def putT (t : T) (x at_ : Int) (y : T) : Option T := match fT t x with
  | none => none
  | some s => if 0 ≤ at_ ∧ at_ ≤ s.kids.length then t.upd x (putKidT at_.toNat y) else none
end Go.Cod

namespace Go.Cod
open Go Go.Proofs
set_option maxRecDepth 10000

theorem put_done (l l' ly : LT) (x : Int) (n : Nat) (inp : Bool) (p : Nat × Nat) (hw : l.Wf) (hyw : ly.Wf) (hu : l.upd x (putKid n ly inp p) = some l') (hn : (l.ents.map labOf).Nodup) (es : List (List V)) (hin : ∀ e ∈ l.ents, e ∈ es)
    (hl : ((es ++ ly.ents).map labOf).Nodup) (hp : ∀ e ∈ es ++ ly.ents, labOf e ≠ p.1) : l'.Wf ∧ (l'.ents.map labOf).Nodup ∧ T.upd x (putKidT n ly.erase) l.erase = some l'.erase := by
  refine ⟨LT.upd_wf x _ (fun m hm => putKid_wf n ly hyw inp p m hm) l l' hw hu, ?_, ?_⟩
  · obtain ⟨n1, n2, n3⟩ := nodup_app hl
    have hpy : p.1 ∉ ly.labs := fun h => by
      rw [← LT.labs_ents] at h
      obtain ⟨e, h1, h2⟩ := List.mem_map.1 h
      exact hp e (List.mem_append_right _ h1) h2
    rw [LT.labs_ents] at hn ⊢
    rw [LT.labs_ents] at n2
    refine (LT.upd_labs x _ (ly.labs ++ [p.1]) (fun m h1 h2 => putKid_labs n ly n2 inp p hpy m h1 h2) l l' hu hn fun a ha hal => ?_).1
    rw [← LT.labs_ents] at hal
    obtain ⟨e, h1, rfl⟩ := List.mem_map.1 hal
    rcases List.mem_append.1 ha with ha | ha
    · rw [← LT.labs_ents] at ha
      exact n3 e (hin e h1) ha
    · exact hp e (List.mem_append_left _ (hin e h1)) (List.mem_singleton.1 ha)
  · rw [← LT.upd_erase x _ _ (fun m => putKid_erase n ly inp p m) l hw, hu]; rfl
theorem put_ents (id : Int) (kind text : List UInt8) (h : Option (Nat × Nat)) (kids : List LT) (n : Nat) (ly : LT) (inp : Bool) (p : Nat × Nat) (es es1 es2 : List (List V)) (hin : ∀ e ∈ (LT.mk id kind text h kids).ents, e ∈ es) (hn : ((LT.mk id kind text h kids).ents.map labOf).Nodup)
    (hes1 : es1 = es ++ ly.ents) (hln : (es1.map labOf).Nodup) (q1 : ent (hdr inp p h).1 (hdr inp p h).2 4 ((LT.rows kids).take n ++ ly.cells :: (LT.rows kids).drop n) ∈ es2) (q2 : ∀ e ∈ es1, (∀ q, h = some q → labOf e ≠ q.1) → e ∈ es2) :
    ∀ e ∈ (putKid n ly inp p (.mk id kind text h kids)).ents, e ∈ es2 := by
  subst hes1
  simp only [LT.ents] at hin hn
  obtain ⟨m1, m2, m3⟩ := nodup_app hn
  obtain ⟨k1, k2, k3⟩ := nodup_app hln
  have hk : ∀ e ∈ LT.entsL kids, e ∈ es2 := fun e he => by
    refine q2 e (List.mem_append_left _ (hin e (List.mem_append_left _ he))) fun q hq hl => m3 e he ?_
    subst hq
    rw [hl]; simp [rootE, ent, labOf]
  have hy : ∀ e ∈ ly.ents, e ∈ es2 := fun e he => by
    refine q2 e (List.mem_append_right _ he) fun q hq hl => ?_
    subst hq
    refine k3 (ent q.1 q.2 4 (LT.rows kids)) (hin _ (List.mem_append_right _ (by simp [rootE]))) ?_
    rw [labOf_ent, ← hl]
    exact List.mem_map_of_mem he
  intro e he
  simp only [putKid, LT.ents, rootE] at he
  rw [LT.entsL_append] at he
  simp only [LT.entsL, List.mem_append, List.mem_singleton] at he
  have hkid : LT.entsL kids = LT.entsL (kids.take n) ++ LT.entsL (kids.drop n) := by rw [← LT.entsL_append, List.take_append_drop]
  rw [hkid] at hk
  rcases he with (he | he | he) | he
  · exact hk e (List.mem_append_left _ he)
  · exact hy e he
  · exact hk e (List.mem_append_right _ he)
  · subst he
    rw [show LT.rows (kids.take n ++ ly :: kids.drop n) = (LT.rows kids).take n ++ ly.cells :: (LT.rows kids).drop n by simp only [LT.rows, List.map_append, List.map_cons, List.map_take, List.map_drop]]
    exact q1
theorem put_len (n : Nat) (y : LT) (kids : List LT) : (kids.take n ++ y :: kids.drop n).length = kids.length + 1 := by
  rw [List.length_append, List.length_cons, List.length_take, List.length_drop]; omega
set_option maxHeartbeats 8000000 in
theorem putDo_root (id : Int) (kind text : List UInt8) (h : Option (Nat × Nat)) (kids : List LT) (hw : (LT.mk id kind text h kids).Wf) (at_ : Int) (y : T) (hy : y.Small) (es : List (List V)) (hin : ∀ e ∈ (LT.mk id kind text h kids).ents, e ∈ es) (hn : ((LT.mk id kind text h kids).ents.map labOf).Nodup) (hz : LT.sizeL kids ≤ 1000000) :
    Full Try.prog noY 151 [.agg ([.int .i64 id, .int .i64 at_] ++ y.cells), .ptr 1 0 0] [poolO es, boxO (.mk id kind text h kids)] (DoR (.mk id kind text h kids) (putT (LT.mk id kind text h kids).erase id at_ y)) := by
  have hc := treeIn_root (.mk id kind text h kids) hw id es hin (by simp only [LT.kids]; omega)
  have hcp := (treeCopy_acc y hy es).givenEnd
  have hsr : (LT.mk id kind text h kids).seekR id = .ptr 1 0 0 := by simp only [LT.seekR, if_true]
  rw [hsr] at hc
  have hput : putT (LT.mk id kind text h kids).erase id at_ y = if 0 ≤ at_ ∧ at_ ≤ kids.length then (LT.mk id kind text h kids).erase.upd id (putKidT at_.toNat y) else none := by
    unfold putT
    simp only [LT.erase, fT, if_true, T.kids, LT.eraseL_len]
  generalize putT (LT.mk id kind text h kids).erase id at_ y = ot at *
  have hlen := LT.len_sizeL kids
  have hia := fun es1 h1 row hr i hi => insert_any h kids (by simp only [LT.Wf] at hw; exact hw.1) es1 h1 row hr i hi (by omega)
  have hupd : ∀ f, (LT.mk id kind text h kids).upd id f = some (f (.mk id kind text h kids)) := fun f => by simp only [LT.upd, if_true]
  cases y with
  | mk yi yk yx yks =>
  refine full_of_awp good Try.func151 rfl (by kernel_rfl) (by decide) ?_
  rcases h with _ | ⟨b, c⟩
  all_goals
    conv => whnf
    refine ⟨[0, 1], true, ?_⟩
    conv => whnf
    refine hc.mono ?_
    rintro o st' ⟨rfl, rfl⟩
    conv => whnf
    by_cases a0 : at_ < 0
    · rw [ltB_t a0]
      conv => whnf
      refine ⟨[], true, ?_⟩
      conv => whnf
      rw [if_neg (by omega)] at hput
      subst hput
      exact ⟨rfl, es, rfl⟩
    rw [ltB_f (by omega)]
    conv => whnf
    by_cases a1 : (kids.length : Int) < at_
    · first | rw [ltB_t a1] | rw [ltB_t (show ((([] : List (List V)).length : Nat) : Int) < at_ by have := hw.1 rfl; subst this; exact a1)]
      conv => whnf
      refine ⟨[], true, ?_⟩
      conv => whnf
      rw [if_neg (by omega)] at hput
      subst hput
      exact ⟨rfl, es, rfl⟩
    first | rw [ltB_f (by omega)] | rw [ltB_f (show at_ ≤ ((([] : List (List V)).length : Nat) : Int) by have := hw.1 rfl; subst this; simp at a1; simpa using a1)]
    conv => whnf
    rw [if_pos (by omega)] at hput
    obtain ⟨n, rfl⟩ : ∃ n : Nat, at_ = n := ⟨at_.toNat, by omega⟩
    refine .inr (.inl ⟨[0], true, ?_⟩)
    conv => whnf
    refine hcp.mono ?_
    rintro o st' ⟨⟨ly, y1, y2, rfl, rfl⟩, hl⟩
    have hln := hl.nodup (k := 0) rfl
    have hia := hia (es ++ ly.ents) (fun e he => List.mem_append_left _ (hin e (by simp only [LT.ents]; exact List.mem_append_right _ he))) ly.cells ly.cells_len n (by omega)
    have hfin := fun l' inp p hu hp => put_done _ l' ly id n inp p hw y2 hu hn es hin hln hp
    have hlye : ∀ e ∈ ly.ents, e ∈ es ++ ly.ents := fun e he => List.mem_append_right _ he
    obtain ⟨es1, hes1⟩ : ∃ es1, es1 = es ++ ly.ents := ⟨_, rfl⟩
    rw [← hes1] at hia hlye hfin ⊢
    have hst1 : ∀ e ∈ es, e ∈ es1 := fun e he => hes1 ▸ List.mem_append_left _ he
    have hents := fun inp p es2 => put_ents id kind text _ kids n ly inp p es es1 es2 hin hn hes1 (by rw [hes1]; exact hln)
    have hlen2 := put_len n ly kids
    cases ly with
    | mk lid lk lx lh lks =>
    rcases lh with _ | ⟨lb, lc⟩
    all_goals
      conv => whnf
      repeat (refine And.intro (by
                (conv => whnf)
                rfl) ?_
              conv => whnf)
      refine ⟨[0, 3], true, ?_⟩
      conv => whnf
      refine hia.mono ?_
      rintro o st' ⟨inp, p, es2, ⟨de, dw, dl, dx, db, dk⟩, hdb, rfl, rfl, q1, q2, q3⟩
      obtain rfl : db = false := hdb
      conv => whnf
      refine ⟨[], true, ?_⟩
      conv => whnf
      have h3 := hfin _ inp p (hupd _) q3
      have h5 := h3.2.2
      rw [y1] at h5
      have hot := hput.trans h5
      subst hot
      refine ⟨_, es2, rfl, h3.1, h3.2.1, rfl, ?_, hents inp p es2 q1 q2⟩
      simp only [boxO, putKid, LT.cells, hdV, hlen2]
      rfl
end Go.Cod

namespace Go.Cod
open Go Go.Proofs
set_option maxRecDepth 10000

def LT.lkids : LT → List LT
  | .mk _ _ _ _ kids => kids
theorem inj_nodup {α β : Type} {f : α → β} : ∀ {l : List α}, (l.map f).Nodup → ∀ a ∈ l, ∀ b ∈ l, f a = f b → a = b
  | [], _, a, ha, _, _, _ => by simp at ha
  | x :: l, h, a, ha, b, hb, e => by
    simp only [List.map_cons, List.nodup_cons] at h
    rcases List.mem_cons.1 ha with h1 | h1
    · rcases List.mem_cons.1 hb with h2 | h2
      · rw [h1, h2]
      · exact absurd (by rw [← h1, e]; exact List.mem_map_of_mem h2) h.1
    · rcases List.mem_cons.1 hb with h2 | h2
      · exact absurd (by rw [← h2, ← e]; exact List.mem_map_of_mem h1) h.1
      · exact inj_nodup h.2 a h1 b h2 e
theorem ent_one {es : List (List V)} (hn : (es.map labOf).Nodup) {b c c' s : Nat} {r r' : List (List V)} (h : ent b c s r ∈ es) (h' : ent b c' s r' ∈ es) : c' = c ∧ r' = r := by
  have : ent b c' s r' = ent b c s r := inj_nodup hn _ h' _ h (by rw [labOf_ent, labOf_ent])
  exact ⟨congrArg capOf this, congrArg rowsOf this⟩
theorem put_deep_end (l ly : LT) (x : Int) (n : Nat) (inp : Bool) (p : Nat × Nat) (hw : l.Wf) (hyw : ly.Wf) (es es1 es2 es3 : List (List V)) (hin : ∀ e ∈ l.ents, e ∈ es) (hn : (l.ents.map labOf).Nodup) (hes1 : es1 = es ++ ly.ents) (hln : (es1.map labOf).Nodup)
    (b' i' c' : Nat) (hsr : l.seekR x = .dptr b' 4 i' 0) (ks : List LT) (nid : Int) (nk nx : List UInt8) (nh : Option (Nat × Nat)) (nks : List LT) (m : ent b' c' 4 (LT.rows ks) ∈ l.ents) (g : ks[i']? = some (.mk nid nk nx nh nks)) (hnk : nh = none → nks = [])
    (hnin : ∀ e ∈ (LT.mk nid nk nx nh nks).ents, e ∈ l.ents) (hnb : b' ∉ (LT.mk nid nk nx nh nks).ents.map labOf)
    (q1 : ent (hdr inp p nh).1 (hdr inp p nh).2 4 ((LT.rows nks).take n ++ ly.cells :: (LT.rows nks).drop n) ∈ es2) (q2 : ∀ e ∈ es1, (∀ q, nh = some q → labOf e ≠ q.1) → e ∈ es2) (q3 : ∀ e ∈ es1, labOf e ≠ p.1)
    (hes3 : es3 = putEnt b' ((LT.rows ks).set i' [.int .i64 nid, .str nk, .str nx, .dref (hdr inp p nh).1 (nks.length + 1) (hdr inp p nh).2]) es2) :
    ∃ l' : LT, T.upd x (putKidT n ly.erase) l.erase = some l'.erase ∧ l'.cells = l.cells ∧ l'.Wf ∧ (l'.ents.map labOf).Nodup ∧ ∀ e ∈ l'.ents, e ∈ es3 := by
  rcases LT.seekR_cases l x (putKid n ly inp p) hw hn with ⟨_, h6, _⟩ | ⟨h6, _⟩ | ⟨b2, i2, l', s2, h6, hu, hcl, hs2, hD2⟩
  · rw [hsr] at h6; cases h6
  · rw [hsr] at h6; cases h6
  rw [hsr] at h6
  cases h6
  have hlnn := hln
  rw [hes1] at hlnn
  obtain ⟨r1, r2, r3⟩ := put_done l l' ly x n inp p hw hyw hu hn es hin hlnn (by rw [← hes1]; exact q3)
  refine ⟨l', r3, hcl, r1, r2, ?_⟩
  obtain ⟨c2, ks2, node2, m2, g2, her2, hid2, hnw2, hnd2, hnin2, hnb2, hall⟩ := hD2
  obtain ⟨rfl, hrk⟩ := ent_one hn m m2
  have hr : (LT.rows ks)[i']? = some (LT.mk nid nk nx nh nks).cells := by simp only [LT.rows, List.getElem?_map, g, Option.map_some]
  have hr2 : (LT.rows ks2)[i']? = some node2.cells := by simp only [LT.rows, List.getElem?_map, g2, Option.map_some]
  rw [hrk, hr] at hr2
  cases node2 with
  | mk mid mk mx mh mks =>
  simp only [LT.cells, Option.some.injEq, List.cons.injEq, V.int.injEq, V.str.injEq, true_and, and_true] at hr2
  obtain ⟨rfl, rfl, rfl, hh⟩ := hr2
  have hm2k : mh = nh ∧ mks.length = nks.length ∧ LT.rows mks = LT.rows nks := by
    simp only [LT.Wf] at hnw2
    rcases nh with _ | ⟨nb, nc⟩
    · rcases mh with _ | ⟨mb, mc⟩
      · rw [hnw2.1 rfl, hnk rfl]; exact ⟨rfl, rfl, rfl⟩
      · cases hh
    · rcases mh with _ | ⟨mb, mc⟩
      · cases hh
      · simp only [hdV, V.dref.injEq] at hh
        obtain ⟨rfl, h2, rfl⟩ := hh
        refine ⟨rfl, h2.symm, (ent_one (b := nb) (c := nc) (c' := nc) (s := 4) hn (hnin _ ?_) (hnin2 _ ?_)).2⟩
        · simp only [LT.ents, rootE]; simp
        · simp only [LT.ents, rootE]; simp
  obtain ⟨hmh, hlk, hrows⟩ := hm2k
  subst hmh
  have hmes := hin _ m
  have hm1 : ent b' c2 4 (LT.rows ks) ∈ es1 := hes1 ▸ List.mem_append_left _ hmes
  have hroot : ∀ q, mh = some q → q.1 ∈ (LT.mk nid nk nx mh mks).ents.map labOf := fun q hq => by
    subst hq
    simp only [LT.ents, rootE, List.map_append, List.mem_append]
    exact .inr (by simp [ent, labOf])
  have hm2 : ent b' c2 4 (LT.rows ks) ∈ es2 := q2 _ hm1 fun q hq hb => hnb2 (by
    rw [labOf_ent] at hb; rw [hb]; exact hroot q hq)
  have hly : b' ∉ ly.ents.map labOf := fun hm => (nodup_app hlnn).2.2 _ hmes (by rw [labOf_ent]; exact hm)
  have hbp : b' ≠ p.1 := fun h => q3 _ hm1 (by rw [labOf_ent]; exact h)
  have hlab : b' ∉ (putKid n ly inp p (.mk nid nk nx mh mks)).ents.map labOf := fun hm => by
    rw [LT.labs_ents] at hm hnb2 hnd2 hly
    have hpy : p.1 ∉ ly.labs := fun h => by
      rw [← LT.labs_ents] at h
      obtain ⟨e, h1, h2⟩ := List.mem_map.1 h
      exact q3 e (hes1 ▸ List.mem_append_right _ h1) h2
    have hlyn := (nodup_app hlnn).2.1
    rw [LT.labs_ents] at hlyn
    have := (putKid_labs n ly hlyn inp p hpy _ hnd2 fun a ha hal => by
      rw [← LT.labs_ents] at hal
      obtain ⟨e, h1, h2⟩ := List.mem_map.1 hal
      have he1 := hin e (hnin2 e h1)
      rcases List.mem_append.1 ha with ha | ha
      · rw [← LT.labs_ents] at ha
        exact (nodup_app hlnn).2.2 e he1 (h2 ▸ ha)
      · exact q3 e (hes1 ▸ List.mem_append_left _ he1) (by rw [h2]; simpa using ha)).2 b' hm
    rcases this with h | h
    · exact hnb2 h
    · rcases List.mem_append.1 h with h | h
      · exact hly h
      · exact hbp (by simpa using h)
  have hput := put_ents nid nk nx mh mks n ly inp p es es1 es2 (fun e he => hin e (hnin2 e he)) hnd2 hes1 hln (by rw [hrows]; exact q1) q2
  refine hall es3 (fun e he => ?_) (fun e he k1 k2 => ?_) ?_
  · exact hes3 ▸ putEnt_other (hput e he) fun h => hlab (h ▸ List.mem_map_of_mem he)
  · refine hes3 ▸ putEnt_other (q2 e (hes1 ▸ List.mem_append_left _ (hin e he)) fun q hq h => k1 (by rw [h]; exact hroot q hq)) k2
  · rw [hrk]
    have : (putKid n ly inp p (.mk nid nk nx mh mks)).cells = [.int .i64 nid, .str nk, .str nx, .dref (hdr inp p mh).1 (nks.length + 1) (hdr inp p mh).2] := by
      simp only [putKid, LT.cells, hdV, put_len, hlk]
    rw [this]
    exact hes3 ▸ putEnt_mem hm2
set_option maxHeartbeats 8000000 in
theorem putDo_deep (l : LT) (hw : l.Wf) (x at_ : Int) (y : T) (hy : y.Small) (es : List (List V)) (hin : ∀ e ∈ l.ents, e ∈ es) (hn : (l.ents.map labOf).Nodup) (hz : LT.sizeL l.kids ≤ 1000000)
    (b' i' : Nat) (hsr : l.seekR x = .dptr b' 4 i' 0) (sx : T) (hsx : fT l.erase x = some sx) (l0 : LT) (hD : Deep x _root_.id sx l.ents l0.ents b' i') (hlen : sx.kids.length ≤ 1000000) :
    Full Try.prog noY 151 [.agg ([.int .i64 x, .int .i64 at_] ++ y.cells), .ptr 1 0 0] [poolO es, boxO l] (DoR l (putT l.erase x at_ y)) := by
  have hc := treeIn_root l hw x es hin (by omega)
  have hcp := (treeCopy_acc y hy es).givenEnd
  have hcs := fun f => LT.seekR_cases l x f hw hn
  rw [hsr] at hc hcs
  have hput : putT l.erase x at_ y = if 0 ≤ at_ ∧ at_ ≤ sx.kids.length then l.erase.upd x (putKidT at_.toNat y) else none := by
    unfold putT
    rw [hsx]
  generalize putT l.erase x at_ y = ot at *
  obtain ⟨c', ks, node, m, g, her, hid, hnw, hnd, hnin, hnb, _⟩ := hD
  have hr : (LT.rows ks)[i']? = some node.cells := by simp only [LT.rows, List.getElem?_map, g, Option.map_some]
  have hsk : sx.kids.length = node.lkids.length := by rw [← her]; cases node with | mk a b c d e => simp only [LT.erase, T.kids, LT.eraseL_len, LT.lkids]
  have hmes := hin _ m
  cases y with
  | mk yi yk yx yks =>
  cases l with
  | mk id kind text h kids =>
  cases node with
  | mk nid nk nx nh nks =>
  simp only [LT.lkids] at hsk
  have hnk : nh = none → nks = [] := by simp only [LT.Wf] at hnw; exact hnw.1
  have hia := fun es1 h1 row hr i hi => insert_any nh nks (by simp only [LT.Wf] at hnw; exact hnw.1) es1 h1 row hr i hi (by omega)
  refine full_of_awp good Try.func151 rfl (by kernel_rfl) (by decide) ?_
  rcases h with _ | ⟨b, c⟩
  · exfalso
    simp only [LT.ents, rootE] at m
    simp only [LT.Wf] at hw
    have := hw.1 trivial
    subst this
    simp [LT.entsL] at m
  rcases nh with _ | ⟨nb, nc⟩
  all_goals
    conv => whnf
    refine ⟨[0, 1], true, ?_⟩
    conv => whnf
    refine hc.mono ?_
    rintro o st' ⟨rfl, rfl⟩
    conv => whnf
    by_cases a0 : at_ < 0
    · rw [ltB_t a0]
      conv => whnf
      refine ⟨[], true, ?_⟩
      conv => whnf
      rw [if_neg (by omega)] at hput
      subst hput
      exact ⟨rfl, es, rfl⟩
    rw [ltB_f (by omega)]
    conv => whnf
    refine ⟨0, c', LT.rows ks, _, hmes, hr, ?_⟩
    conv => whnf
    by_cases a1 : (nks.length : Int) < at_
    · first | rw [ltB_t a1] | rw [ltB_t (show ((([] : List (List V)).length : Nat) : Int) < at_ by have := hnk rfl; subst this; exact a1)]
      conv => whnf
      refine ⟨[], true, ?_⟩
      conv => whnf
      rw [if_neg (by omega)] at hput
      subst hput
      exact ⟨rfl, es, rfl⟩
    first | rw [ltB_f (by omega)] | rw [ltB_f (show at_ ≤ ((([] : List (List V)).length : Nat) : Int) by have := hnk rfl; subst this; simp at a1; simpa using a1)]
    conv => whnf
    refine ⟨0, c', LT.rows ks, _, hmes, hr, ?_⟩
    conv => whnf
    rw [if_pos (by omega)] at hput
    obtain ⟨n, rfl⟩ : ∃ n : Nat, at_ = n := ⟨at_.toNat, by omega⟩
    refine .inr (.inl ⟨[0], true, ?_⟩)
    conv => whnf
    refine hcp.mono ?_
    rintro o st' ⟨⟨ly, y1, y2, rfl, rfl⟩, hl⟩
    have hln := hl.nodup (k := 0) rfl
    have hia := hia (es ++ ly.ents) (fun e he => List.mem_append_left _ (hin e (hnin e (by simp only [LT.ents]; exact List.mem_append_right _ he)))) ly.cells ly.cells_len n (by omega)
    obtain ⟨es1, hes1⟩ : ∃ es1, es1 = es ++ ly.ents := ⟨_, rfl⟩
    have hend := fun inp p es2 es3 q1 q2 q3 => put_deep_end _ ly x n inp p hw y2 es es1 es2 es3 hin hn hes1 (by rw [hes1]; exact hln) b' i' c' hsr ks nid nk nx _ nks m g hnk hnin hnb q1 q2 q3
    rw [← hes1] at hia ⊢
    have hst1 : ∀ e ∈ es, e ∈ es1 := fun e he => hes1 ▸ List.mem_append_left _ he
    have hm1 := hst1 _ hmes
    cases ly with
    | mk lid lk lx lh lks =>
    rcases lh with _ | ⟨lb, lc⟩
    all_goals
      conv => whnf
      repeat (refine And.intro (by
                (conv => whnf)
                first
                  | exact ⟨0, c', LT.rows ks, _, hm1, hr, rfl⟩
                  | rfl) ?_
              conv => whnf)
      refine ⟨[0, 3], true, ?_⟩
      conv => whnf
      refine hia.mono ?_
      rintro o st' ⟨inp, p, es2, ⟨de, dw, dl, dx, db, dk⟩, hdb, rfl, rfl, q1, q2, q3⟩
      obtain rfl : db = false := hdb
      conv => whnf
      have hm2 : ent b' c' 4 (LT.rows ks) ∈ es2 := q2 _ hm1 fun q hq hb => by
        first
          | (cases hq; done)
          | (cases hq
             rw [labOf_ent] at hb
             exact hnb (by rw [hb]; simp only [LT.ents, rootE, List.map_append, List.mem_append]; exact .inr (by simp [ent, labOf])))
      have hE := hend inp p es2 _ q1 q2 q3 rfl
      generalize hes3 : putEnt b' _ es2 = es3 at hE
      refine ⟨0, c', LT.rows ks, _, es3, hm2, hr, by rw [← hes3]; rfl, ?_⟩
      conv => whnf
      refine ⟨[], true, ?_⟩
      conv => whnf
      obtain ⟨l', h5, hcl, r1, r2, r4⟩ := hE
      rw [y1] at h5
      have hot := hput.trans h5
      subst hot
      refine ⟨l', es3, rfl, r1, r2, rfl, ?_, r4⟩
      simp only [boxO, hcl]
      rfl
end Go.Cod

namespace Go.Cod
open Go Go.Proofs
set_option maxRecDepth 10000

set_option maxHeartbeats 8000000 in
theorem putDo_none (l : LT) (hw : l.Wf) (x at_ : Int) (y : T) (es : List (List V)) (hin : ∀ e ∈ l.ents, e ∈ es) (hz : LT.sizeL l.kids ≤ 1000000) (hsr : l.seekR x = .raw (.pointer none)) (hno : fT l.erase x = none) :
    Full Try.prog noY 151 [.agg ([.int .i64 x, .int .i64 at_] ++ y.cells), .ptr 1 0 0] [poolO es, boxO l] (DoR l (putT l.erase x at_ y)) := by
  have hc := treeIn_root l hw x es hin (by omega)
  rw [hsr] at hc
  have hput : putT l.erase x at_ y = none := by unfold putT; rw [hno]
  rw [hput]
  cases y with
  | mk yi yk yx yks =>
  cases l with
  | mk id kind text h kids =>
  refine full_of_awp good Try.func151 rfl (by kernel_rfl) (by decide) ?_
  rcases h with _ | ⟨b, c⟩
  all_goals
    conv => whnf
    refine ⟨[0, 1], true, ?_⟩
    conv => whnf
    refine hc.mono ?_
    rintro o st' ⟨rfl, rfl⟩
    conv => whnf
    refine ⟨[], true, ?_⟩
    conv => whnf
    exact ⟨rfl, es, rfl⟩
theorem fT_kids_len {t : T} {x : Int} {s : T} (h : fT t x = some s) : s.kids.length ≤ t.size := by
  have h1 := fT_size t x s h
  have h2 : ∀ ts : List T, ts.length ≤ T.sizeL ts := fun ts => by
    induction ts with
    | nil => simp
    | cons t ts ih =>
      have : 1 ≤ t.size := by cases t; simp only [T.size]; omega
      simp only [T.sizeL, List.length_cons]; omega
  have h3 := T.kids_size s
  have := h2 s.kids
  omega
theorem putDo (l : LT) (hw : l.Wf) (x at_ : Int) (y : T) (hy : y.Small) (es : List (List V)) (hin : ∀ e ∈ l.ents, e ∈ es) (hn : (l.ents.map labOf).Nodup) (hz : l.erase.size ≤ 1000000) :
    Full Try.prog noY 151 [.agg ([.int .i64 x, .int .i64 at_] ++ y.cells), .ptr 1 0 0] [poolO es, boxO l] (DoR l (putT l.erase x at_ y)) := by
  have hk : LT.sizeL l.kids ≤ 1000000 := by
    rw [LT.kids_size]
    have := T.kids_size l.erase
    omega
  rcases LT.seekR_cases l x _root_.id hw hn with ⟨h0, hsr, _⟩ | ⟨hsr, _, hno⟩ | ⟨b', i', l0, sx, hsr, _, _, hsx, hD⟩
  · cases l with
    | mk id kind text h kids =>
    obtain rfl : id = x := h0
    exact putDo_root id kind text h kids hw at_ y hy es hin hn hk
  · exact putDo_none l hw x at_ y es hin hk hsr hno
  · exact putDo_deep l hw x at_ y hy es hin hn hk b' i' hsr sx hsx l0 hD (by have := fT_kids_len hsx; omega)
/- The other deeds, in the same form. -/
theorem EditR.toDo {es : List (List V)} {l : LT} {x : Int} {f : LT → LT} {g : T → T} (he : ∀ n : LT, (f n).erase = g n.erase) (hf : ∀ n : LT, n.Wf → (f n).Wf) (hl : ∀ n : LT, n.labs.Nodup → (f n).labs.Nodup ∧ ∀ a ∈ (f n).labs, a ∈ n.labs) (hw : l.Wf) (hn : (l.ents.map labOf).Nodup) {o : Out} {st' : St}
    (h : EditR es l (l.upd x f) o st') : DoR l (T.upd x g l.erase) o st' := by
  rw [← LT.upd_erase x f g he l hw]
  cases hu : l.upd x f with
  | none =>
    rw [hu] at h
    exact ⟨h.1, es, h.2⟩
  | some l' =>
    rw [hu] at h
    obtain ⟨h1, es', h2, h3⟩ := h
    rw [LT.labs_ents] at hn
    have hn' := (LT.upd_labs x f [] (fun n h1 _ => ⟨(hl n h1).1, fun a ha => .inl ((hl n h1).2 a ha)⟩) l l' hu hn (by simp)).1
    exact ⟨l', es', rfl, LT.upd_wf x f hf l l' hw hu, by rw [LT.labs_ents]; exact hn', h1, h2, h3⟩
def setTextT (s : List UInt8) : T → T
  | .mk id kind _ kids => .mk id kind s kids
def setKindT (s : List UInt8) : T → T
  | .mk id _ text kids => .mk id s text kids
theorem labsL_sub {us vs : List LT} (h : us.Sublist vs) : (LT.labsL us).Sublist (LT.labsL vs) := by
  induction h with
  | slnil => exact .slnil
  | cons a h ih => exact ih.trans (List.sublist_append_right _ _)
  | cons_cons a h ih => exact (List.Sublist.refl _).append ih
theorem cutKid_erase (x : Int) (n : LT) : (cutKid x n).erase = cutKidT x n.erase := by
  cases n with
  | mk id kind text h kids =>
    simp only [cutKid, LT.erase, cutKidT, LT.eraseL_eq, List.eraseIdx_eq_take_drop_succ, List.map_append, List.map_take, List.map_drop]
theorem cutKid_wf (x : Int) (n : LT) (h : n.Wf) : (cutKid x n).Wf := by
  cases n with
  | mk id kind text hd kids =>
    simp only [LT.Wf] at h
    simp only [cutKid, LT.Wf]
    refine ⟨fun e => by rw [h.1 e]; simp, (LT.WfL_iff _).2 fun l hl => (LT.WfL_iff _).1 h.2 l (List.mem_of_mem_eraseIdx hl)⟩
theorem cutKid_labs (x : Int) (n : LT) (h : n.labs.Nodup) : (cutKid x n).labs.Nodup ∧ ∀ a ∈ (cutKid x n).labs, a ∈ n.labs := by
  cases n with
  | mk id kind text hd kids =>
    have hs : (cutKid x (.mk id kind text hd kids)).labs.Sublist (LT.mk id kind text hd kids).labs := by
      simp only [cutKid, LT.labs]
      exact (labsL_sub (List.eraseIdx_sublist _ _)).append (List.Sublist.refl _)
    exact ⟨h.sublist hs, fun a ha => hs.subset ha⟩
theorem textDo' (l : LT) (hw : l.Wf) (x : Int) (s : List UInt8) (es : List (List V)) (hin : ∀ e ∈ l.ents, e ∈ es) (hn : (l.ents.map labOf).Nodup) (hz : l.erase.size ≤ 1000000) :
    Full Try.prog noY 162 [.agg [.int .i64 x, .str s], .ptr 1 0 0] [poolO es, boxO l] (DoR l (T.upd x (setTextT s) l.erase)) :=
  (textDo l hw x s es hin hn (by rw [LT.kids_size]; have := T.kids_size l.erase; omega)).mono fun o st' h => EditR.toDo (fun n => by cases n; rfl) (fun n h => by cases n; exact h) (fun n h => by cases n; exact ⟨h, fun a ha => ha⟩) hw hn h
theorem kindDo' (l : LT) (hw : l.Wf) (x : Int) (s : List UInt8) (es : List (List V)) (hin : ∀ e ∈ l.ents, e ∈ es) (hn : (l.ents.map labOf).Nodup) (hz : l.erase.size ≤ 1000000) :
    Full Try.prog noY 164 [.agg [.int .i64 x, .str s], .ptr 1 0 0] [poolO es, boxO l] (DoR l (T.upd x (setKindT s) l.erase)) :=
  (kindDo l hw x s es hin hn (by rw [LT.kids_size]; have := T.kids_size l.erase; omega)).mono fun o st' h => EditR.toDo (fun n => by cases n; rfl) (fun n h => by cases n; exact h) (fun n h => by cases n; exact ⟨h, fun a ha => ha⟩) hw hn h
def cutTT (t : T) (x : Int) : Option T := if 1 ≤ treeOver t x then t.upd (treeOver t x) (cutKidT x) else none
theorem cutDo' (l : LT) (hw : l.Wf) (hs : l.erase.Small) (x : Int) (es : List (List V)) (hin : ∀ e ∈ l.ents, e ∈ es) (hn : (l.ents.map labOf).Nodup) (hz : l.erase.size ≤ 1000000) :
    Full Try.prog noY 158 [.agg [.int .i64 x], .ptr 1 0 0] [poolO es, boxO l] (DoR l (cutTT l.erase x)) := by
  refine (cutDo l hw hs x es hin hn (by rw [LT.kids_size]; have := T.kids_size l.erase; omega)).mono fun o st' h => ?_
  unfold cutT at h
  unfold cutTT
  split
  · rename_i h1
    rw [if_pos h1] at h
    exact EditR.toDo (cutKid_erase x) (cutKid_wf x) (cutKid_labs x) hw hn h
  · rename_i h1
    rw [if_neg h1] at h
    exact ⟨h.1, es, h.2⟩
end Go.Cod

namespace Go.Cod
open Go Go.Proofs
set_option maxRecDepth 10000

/-- Whether a step has no place and no tree. -/
def nothingT (s : Stp) : Bool := decide (s.at_ = 0) && noneT s.node
set_option maxHeartbeats 4000000 in
theorem stepPutsNothing_pure (s : Stp) : Pure Try.prog 89 [.agg s.cells] (· = .bool (nothingT s)) := by
  cases s with
  | mk kind sid at_ node text =>
  cases node with
  | mk nid nk nx nks =>
  have hl : ((T.rows nks).length : Int) = (nks.length : Int) := by rw [Go.Cod.rows_len]
  show Pure Try.prog _ [.agg [.int .i64 kind, .int .i64 sid, .int .i64 at_, .int .i64 nid, .str nk, .str nx, .sl (T.rows nks), .str text]] _
  refine pure_of_awp good Try.func89 rfl (by kernel_rfl) (by decide) ?_
  conv => whnf
  by_cases h0 : at_ = 0
  rotate_left
  · rw [eqB_f h0]
    conv => whnf
    simp [nothingT, h0]
  rw [eqB_t h0]
  conv => whnf
  by_cases h1 : nid = 0
  rotate_left
  · rw [eqB_f h1]
    conv => whnf
    simp [nothingT, noneT, h1]
  rw [eqB_t h1]
  conv => whnf
  by_cases h2 : nk = []
  rotate_left
  · rw [eqS_f h2]
    conv => whnf
    simp [nothingT, noneT, h2]
  rw [eqS_t h2]
  conv => whnf
  by_cases h3 : nx = []
  rotate_left
  · rw [eqS_f h3]
    conv => whnf
    simp [nothingT, noneT, h3]
  rw [eqS_t h3]
  conv => whnf
  by_cases h4 : nks.length = 0
  · rw [eqB_t (show ((T.rows nks).length : Int) = 0 by omega)]
    conv => whnf
    simp only [nothingT, noneT, h0, h1, h2, h3, h4, decide_true, Bool.and_self]
  · rw [eqB_f (show ((T.rows nks).length : Int) ≠ 0 by omega)]
    conv => whnf
    simp only [nothingT, noneT, h0, h1, h2, h3, h4, decide_true, decide_false, Bool.and_self, Bool.and_false]
end Go.Cod

namespace Go.Cod
open Go Go.Proofs
set_option maxRecDepth 10000

/-- The deed of a step, as a value. -/
def deedV (s : Stp) : V := if s.kind = 1 then .iface 118 (.agg ([.int .i64 s.id, .int .i64 s.at_] ++ s.node.cells)) else if s.kind = 2 then .iface 120 (.agg [.int .i64 s.id]) else if s.kind = 3 then .iface 122 (.agg [.int .i64 s.id, .str s.text])
  else if s.kind = 4 then .iface 124 (.agg [.int .i64 s.id, .str s.text]) else .raw .nilIface
def deedOk (s : Stp) : Bool := if s.kind = 1 then decide (s.text = []) && okT s.node else if s.kind = 2 then decide (s.text = []) && nothingT s else if s.kind = 3 then nothingT s else if s.kind = 4 then nothingT s else false
set_option maxHeartbeats 4000000 in
theorem stepDeedOf_pure (s : Stp) (hs : s.node.Small) : Pure Try.prog 64 [.agg s.cells] (· = .tup [deedV s, .bool (deedOk s)]) := by
  have f1 := implTreeOk s.node hs
  have f2 := stepPutsNothing_pure s
  have hv : deedV s = if s.kind = 1 then .iface 118 (.agg ([.int .i64 s.id, .int .i64 s.at_] ++ s.node.cells)) else if s.kind = 2 then .iface 120 (.agg [.int .i64 s.id]) else if s.kind = 3 then .iface 122 (.agg [.int .i64 s.id, .str s.text])
    else if s.kind = 4 then .iface 124 (.agg [.int .i64 s.id, .str s.text]) else .raw .nilIface := rfl
  have hk : deedOk s = if s.kind = 1 then decide (s.text = []) && okT s.node else if s.kind = 2 then decide (s.text = []) && nothingT s else if s.kind = 3 then nothingT s else if s.kind = 4 then nothingT s else false := rfl
  generalize deedV s = dv at *
  generalize deedOk s = dk at *
  generalize nothingT s = nt at *
  generalize okT s.node = ok at *
  simp only [Stp.cells] at f2 ⊢
  cases s with
  | mk kind sid at_ node text =>
  cases node with
  | mk nid nk nx nks =>
  simp only at hv hk f1 f2
  refine pure_of_awp good Try.func64 rfl (by kernel_rfl) (by decide) ?_
  conv => whnf
  by_cases k1 : kind = 1
  · rw [if_pos k1] at hv hk
    rw [eqB_t k1]
    conv => whnf
    by_cases h1 : text = []
    · rw [eqS_t h1]
      conv => whnf
      refine ⟨_, .inl f1, ?_⟩
      conv => whnf
      rw [hv, hk, h1]
      cases ok <;> rfl
    · rw [eqS_f h1]
      conv => whnf
      rw [hv, hk, show decide (text = []) = false by simpa using h1]
      rfl
  rw [if_neg k1] at hv hk
  rw [eqB_f k1]
  conv => whnf
  by_cases k2 : kind = 2
  · rw [if_pos k2] at hv hk
    rw [eqB_t k2]
    conv => whnf
    by_cases h1 : text = []
    · rw [eqS_t h1]
      conv => whnf
      refine ⟨_, .inl f2, ?_⟩
      conv => whnf
      rw [hv, hk, h1]
      cases nt <;> rfl
    · rw [eqS_f h1]
      conv => whnf
      rw [hv, hk, show decide (text = []) = false by simpa using h1]
      rfl
  rw [if_neg k2] at hv hk
  rw [eqB_f k2]
  conv => whnf
  by_cases k3 : kind = 3
  · rw [if_pos k3] at hv hk
    rw [eqB_t k3]
    conv => whnf
    refine ⟨_, .inl f2, ?_⟩
    conv => whnf
    rw [hv, hk]
    rfl
  rw [if_neg k3] at hv hk
  rw [eqB_f k3]
  conv => whnf
  by_cases k4 : kind = 4
  · rw [if_pos k4] at hv hk
    rw [eqB_t k4]
    conv => whnf
    refine ⟨_, .inl f2, ?_⟩
    conv => whnf
    rw [hv, hk]
    rfl
  rw [if_neg k4] at hv hk
  rw [eqB_f k4]
  conv => whnf
  rw [hv, hk]
  rfl
/-- What a change of a copy leaves. -/
def ChR (t : T) (d : Option T) (o : Out) (st' : St) : Prop := ∃ (l : LT) (es : List (List V)), l.erase = d.getD t ∧ l.Wf ∧ (∀ e ∈ l.ents, e ∈ es) ∧ (l.ents.map labOf).Nodup ∧ o = .ret (.tup [.agg l.cells, .bool d.isSome]) ∧ st' = [poolO es]
set_option maxHeartbeats 8000000 in
theorem changed_put (t : T) (ht : t.Small) (x at_ : Int) (z : T) (r : Option T) (hr : ∀ y, r = some y → y.Small) (hd : ∀ (l : LT) (es : List (List V)), l.erase = t → l.Wf → (∀ e ∈ l.ents, e ∈ es) → (l.ents.map labOf).Nodup → Full Try.prog noY 151 [.agg ([.int .i64 x, .int .i64 at_] ++ z.cells), .ptr 1 0 0] [poolO es, boxO l] (DoR l r)) :
    Full Try.prog noY 69 [.agg t.cells, .meth "loop.example/codicil/impl.do" (.iface 118 (.agg ([.int .i64 x, .int .i64 at_] ++ z.cells)))] [poolO []] (ChR t (r.bind okO)) := by
  have hcp := (treeCopy_acc t ht []).givenEnd
  have hcp2 := fun es => (treeCopy_acc t ht es).givenEnd
  generalize hrd : r.bind okO = d
  cases z with
  | mk zi zk zx zks =>
  cases t with
  | mk id kind text kids =>
  refine full_of_awp good Try.func69 rfl (by kernel_rfl) (by decide) ?_
  conv => whnf
  refine .inr (.inl ⟨[0], true, ?_⟩)
  conv => whnf
  refine hcp.mono ?_
  rintro o st' ⟨⟨l, l1, l2, rfl, rfl⟩, hl⟩
  have hn := hl.nodup (k := 0) rfl
  rw [List.nil_append] at hn ⊢
  have hd := hd l l.ents l1 l2 (fun _ h => h) hn
  obtain ⟨es, hes⟩ : ∃ es, es = l.ents := ⟨_, rfl⟩
  rw [← hes] at hd ⊢
  cases l with
  | mk lid lk lx lh lks =>
  rcases lh with _ | ⟨lb, lc⟩
  all_goals
    conv => whnf
    refine ⟨_, rfl, ?_⟩
    conv => whnf
    refine ⟨[0, 3], true, ?_⟩
    conv => whnf
    refine hd.mono ?_
    intro o st' h
    cases r with
    | none =>
      obtain ⟨rfl, es', rfl⟩ := h
      conv => whnf
      refine .inr (.inl ⟨[0], true, ?_⟩)
      conv => whnf
      refine (hcp2 es').mono ?_
      rintro o st' ⟨⟨l, l1, l2, rfl, rfl⟩, hl⟩
      have hn := hl.nodup (k := 0) rfl
      obtain ⟨es2, hes2⟩ : ∃ es2, es2 = es' ++ l.ents := ⟨_, rfl⟩
      have hin : ∀ e ∈ l.ents, e ∈ es2 := fun e he => hes2 ▸ List.mem_append_right _ he
      rw [← hes2] at hn ⊢
      have hnl : (l.ents.map labOf).Nodup := by rw [hes2] at hn; exact (nodup_app hn).2.1
      subst hrd
      cases l with
      | mk gid gk gx gh gks =>
      rcases gh with _ | ⟨gb, gc⟩
      all_goals
        conv => whnf
        refine ⟨[], true, ?_⟩
        conv => whnf
        exact ⟨_, es2, l1, l2, hin, hnl, rfl, rfl⟩
    | some y =>
      obtain ⟨l', es', h1, h2, h3, rfl, rfl, h4⟩ := h
      have hok := implTreeOk y (hr y rfl)
      have hv := l'.viewA h2 h4
      rw [h1] at hv
      have hrd : d = okO y := hrd.symm
      unfold okO at hrd
      generalize okT y = oky at *
      have hcells : (.agg y.cells : V).flat = (.agg y.cells : V).flat := rfl
      cases l' with
      | mk mid mk mx mh mks =>
      cases y with
      | mk yi yk yx yks =>
      rcases mh with _ | ⟨mb, mc⟩
      all_goals
        conv => whnf
        refine .inr (.inr ⟨es', [.agg (T.mk yi yk yx yks).cells], fun e he => ⟨0, he⟩, viewL1 hv, rfl, hok.mono ?_⟩)
        rintro r rfl
        refine ⟨rfl, ?_⟩
        cases oky with
        | true =>
          conv => whnf
          refine ⟨[], true, ?_⟩
          conv => whnf
          rw [if_pos rfl] at hrd
          subst hrd
          exact ⟨_, es', h1, h2, h4, h3, rfl, rfl⟩
        | false =>
          conv => whnf
          refine .inr (.inl ⟨[0], true, ?_⟩)
          conv => whnf
          refine (hcp2 es').mono ?_
          rintro o st' ⟨⟨l, l1, l2, rfl, rfl⟩, hl⟩
          have hn := hl.nodup (k := 0) rfl
          obtain ⟨es2, hes2⟩ : ∃ es2, es2 = es' ++ l.ents := ⟨_, rfl⟩
          have hin : ∀ e ∈ l.ents, e ∈ es2 := fun e he => hes2 ▸ List.mem_append_right _ he
          rw [← hes2] at hn ⊢
          have hnl : (l.ents.map labOf).Nodup := by rw [hes2] at hn; exact (nodup_app hn).2.1
          rw [if_neg (by simp)] at hrd
          subst hrd
          cases l with
          | mk gid gk gx gh gks =>
          rcases gh with _ | ⟨gb, gc⟩
          all_goals
            conv => whnf
            refine ⟨[], true, ?_⟩
            conv => whnf
            exact ⟨_, es2, l1, l2, hin, hnl, rfl, rfl⟩
set_option maxHeartbeats 8000000 in
theorem changed_cut (t : T) (ht : t.Small) (x : Int) (r : Option T) (hr : ∀ y, r = some y → y.Small) (hd : ∀ (l : LT) (es : List (List V)), l.erase = t → l.Wf → (∀ e ∈ l.ents, e ∈ es) → (l.ents.map labOf).Nodup → Full Try.prog noY 158 [.agg [.int .i64 x], .ptr 1 0 0] [poolO es, boxO l] (DoR l r)) :
    Full Try.prog noY 69 [.agg t.cells, .meth "loop.example/codicil/impl.do" (.iface 120 (.agg [.int .i64 x]))] [poolO []] (ChR t (r.bind okO)) := by
  have hcp := (treeCopy_acc t ht []).givenEnd
  have hcp2 := fun es => (treeCopy_acc t ht es).givenEnd
  generalize hrd : r.bind okO = d
  cases t with
  | mk id kind text kids =>
  refine full_of_awp good Try.func69 rfl (by kernel_rfl) (by decide) ?_
  conv => whnf
  refine .inr (.inl ⟨[0], true, ?_⟩)
  conv => whnf
  refine hcp.mono ?_
  rintro o st' ⟨⟨l, l1, l2, rfl, rfl⟩, hl⟩
  have hn := hl.nodup (k := 0) rfl
  rw [List.nil_append] at hn ⊢
  have hd := hd l l.ents l1 l2 (fun _ h => h) hn
  obtain ⟨es, hes⟩ : ∃ es, es = l.ents := ⟨_, rfl⟩
  rw [← hes] at hd ⊢
  cases l with
  | mk lid lk lx lh lks =>
  rcases lh with _ | ⟨lb, lc⟩
  all_goals
    conv => whnf
    refine ⟨_, rfl, ?_⟩
    conv => whnf
    refine ⟨[0, 3], true, ?_⟩
    conv => whnf
    refine hd.mono ?_
    intro o st' h
    cases r with
    | none =>
      obtain ⟨rfl, es', rfl⟩ := h
      conv => whnf
      refine .inr (.inl ⟨[0], true, ?_⟩)
      conv => whnf
      refine (hcp2 es').mono ?_
      rintro o st' ⟨⟨l, l1, l2, rfl, rfl⟩, hl⟩
      have hn := hl.nodup (k := 0) rfl
      obtain ⟨es2, hes2⟩ : ∃ es2, es2 = es' ++ l.ents := ⟨_, rfl⟩
      have hin : ∀ e ∈ l.ents, e ∈ es2 := fun e he => hes2 ▸ List.mem_append_right _ he
      rw [← hes2] at hn ⊢
      have hnl : (l.ents.map labOf).Nodup := by rw [hes2] at hn; exact (nodup_app hn).2.1
      subst hrd
      cases l with
      | mk gid gk gx gh gks =>
      rcases gh with _ | ⟨gb, gc⟩
      all_goals
        conv => whnf
        refine ⟨[], true, ?_⟩
        conv => whnf
        exact ⟨_, es2, l1, l2, hin, hnl, rfl, rfl⟩
    | some y =>
      obtain ⟨l', es', h1, h2, h3, rfl, rfl, h4⟩ := h
      have hok := implTreeOk y (hr y rfl)
      have hv := l'.viewA h2 h4
      rw [h1] at hv
      have hrd : d = okO y := hrd.symm
      unfold okO at hrd
      generalize okT y = oky at *
      have hcells : (.agg y.cells : V).flat = (.agg y.cells : V).flat := rfl
      cases l' with
      | mk mid mk mx mh mks =>
      cases y with
      | mk yi yk yx yks =>
      rcases mh with _ | ⟨mb, mc⟩
      all_goals
        conv => whnf
        refine .inr (.inr ⟨es', [.agg (T.mk yi yk yx yks).cells], fun e he => ⟨0, he⟩, viewL1 hv, rfl, hok.mono ?_⟩)
        rintro r rfl
        refine ⟨rfl, ?_⟩
        cases oky with
        | true =>
          conv => whnf
          refine ⟨[], true, ?_⟩
          conv => whnf
          rw [if_pos rfl] at hrd
          subst hrd
          exact ⟨_, es', h1, h2, h4, h3, rfl, rfl⟩
        | false =>
          conv => whnf
          refine .inr (.inl ⟨[0], true, ?_⟩)
          conv => whnf
          refine (hcp2 es').mono ?_
          rintro o st' ⟨⟨l, l1, l2, rfl, rfl⟩, hl⟩
          have hn := hl.nodup (k := 0) rfl
          obtain ⟨es2, hes2⟩ : ∃ es2, es2 = es' ++ l.ents := ⟨_, rfl⟩
          have hin : ∀ e ∈ l.ents, e ∈ es2 := fun e he => hes2 ▸ List.mem_append_right _ he
          rw [← hes2] at hn ⊢
          have hnl : (l.ents.map labOf).Nodup := by rw [hes2] at hn; exact (nodup_app hn).2.1
          rw [if_neg (by simp)] at hrd
          subst hrd
          cases l with
          | mk gid gk gx gh gks =>
          rcases gh with _ | ⟨gb, gc⟩
          all_goals
            conv => whnf
            refine ⟨[], true, ?_⟩
            conv => whnf
            exact ⟨_, es2, l1, l2, hin, hnl, rfl, rfl⟩
set_option maxHeartbeats 8000000 in
theorem changed_text (t : T) (ht : t.Small) (x : Int) (w : List UInt8) (r : Option T) (hr : ∀ y, r = some y → y.Small) (hd : ∀ (l : LT) (es : List (List V)), l.erase = t → l.Wf → (∀ e ∈ l.ents, e ∈ es) → (l.ents.map labOf).Nodup → Full Try.prog noY 162 [.agg [.int .i64 x, .str w], .ptr 1 0 0] [poolO es, boxO l] (DoR l r)) :
    Full Try.prog noY 69 [.agg t.cells, .meth "loop.example/codicil/impl.do" (.iface 122 (.agg [.int .i64 x, .str w]))] [poolO []] (ChR t (r.bind okO)) := by
  have hcp := (treeCopy_acc t ht []).givenEnd
  have hcp2 := fun es => (treeCopy_acc t ht es).givenEnd
  generalize hrd : r.bind okO = d
  cases t with
  | mk id kind text kids =>
  refine full_of_awp good Try.func69 rfl (by kernel_rfl) (by decide) ?_
  conv => whnf
  refine .inr (.inl ⟨[0], true, ?_⟩)
  conv => whnf
  refine hcp.mono ?_
  rintro o st' ⟨⟨l, l1, l2, rfl, rfl⟩, hl⟩
  have hn := hl.nodup (k := 0) rfl
  rw [List.nil_append] at hn ⊢
  have hd := hd l l.ents l1 l2 (fun _ h => h) hn
  obtain ⟨es, hes⟩ : ∃ es, es = l.ents := ⟨_, rfl⟩
  rw [← hes] at hd ⊢
  cases l with
  | mk lid lk lx lh lks =>
  rcases lh with _ | ⟨lb, lc⟩
  all_goals
    conv => whnf
    refine ⟨_, rfl, ?_⟩
    conv => whnf
    refine ⟨[0, 3], true, ?_⟩
    conv => whnf
    refine hd.mono ?_
    intro o st' h
    cases r with
    | none =>
      obtain ⟨rfl, es', rfl⟩ := h
      conv => whnf
      refine .inr (.inl ⟨[0], true, ?_⟩)
      conv => whnf
      refine (hcp2 es').mono ?_
      rintro o st' ⟨⟨l, l1, l2, rfl, rfl⟩, hl⟩
      have hn := hl.nodup (k := 0) rfl
      obtain ⟨es2, hes2⟩ : ∃ es2, es2 = es' ++ l.ents := ⟨_, rfl⟩
      have hin : ∀ e ∈ l.ents, e ∈ es2 := fun e he => hes2 ▸ List.mem_append_right _ he
      rw [← hes2] at hn ⊢
      have hnl : (l.ents.map labOf).Nodup := by rw [hes2] at hn; exact (nodup_app hn).2.1
      subst hrd
      cases l with
      | mk gid gk gx gh gks =>
      rcases gh with _ | ⟨gb, gc⟩
      all_goals
        conv => whnf
        refine ⟨[], true, ?_⟩
        conv => whnf
        exact ⟨_, es2, l1, l2, hin, hnl, rfl, rfl⟩
    | some y =>
      obtain ⟨l', es', h1, h2, h3, rfl, rfl, h4⟩ := h
      have hok := implTreeOk y (hr y rfl)
      have hv := l'.viewA h2 h4
      rw [h1] at hv
      have hrd : d = okO y := hrd.symm
      unfold okO at hrd
      generalize okT y = oky at *
      have hcells : (.agg y.cells : V).flat = (.agg y.cells : V).flat := rfl
      cases l' with
      | mk mid mk mx mh mks =>
      cases y with
      | mk yi yk yx yks =>
      rcases mh with _ | ⟨mb, mc⟩
      all_goals
        conv => whnf
        refine .inr (.inr ⟨es', [.agg (T.mk yi yk yx yks).cells], fun e he => ⟨0, he⟩, viewL1 hv, rfl, hok.mono ?_⟩)
        rintro r rfl
        refine ⟨rfl, ?_⟩
        cases oky with
        | true =>
          conv => whnf
          refine ⟨[], true, ?_⟩
          conv => whnf
          rw [if_pos rfl] at hrd
          subst hrd
          exact ⟨_, es', h1, h2, h4, h3, rfl, rfl⟩
        | false =>
          conv => whnf
          refine .inr (.inl ⟨[0], true, ?_⟩)
          conv => whnf
          refine (hcp2 es').mono ?_
          rintro o st' ⟨⟨l, l1, l2, rfl, rfl⟩, hl⟩
          have hn := hl.nodup (k := 0) rfl
          obtain ⟨es2, hes2⟩ : ∃ es2, es2 = es' ++ l.ents := ⟨_, rfl⟩
          have hin : ∀ e ∈ l.ents, e ∈ es2 := fun e he => hes2 ▸ List.mem_append_right _ he
          rw [← hes2] at hn ⊢
          have hnl : (l.ents.map labOf).Nodup := by rw [hes2] at hn; exact (nodup_app hn).2.1
          rw [if_neg (by simp)] at hrd
          subst hrd
          cases l with
          | mk gid gk gx gh gks =>
          rcases gh with _ | ⟨gb, gc⟩
          all_goals
            conv => whnf
            refine ⟨[], true, ?_⟩
            conv => whnf
            exact ⟨_, es2, l1, l2, hin, hnl, rfl, rfl⟩
set_option maxHeartbeats 8000000 in
theorem changed_kind (t : T) (ht : t.Small) (x : Int) (w : List UInt8) (r : Option T) (hr : ∀ y, r = some y → y.Small) (hd : ∀ (l : LT) (es : List (List V)), l.erase = t → l.Wf → (∀ e ∈ l.ents, e ∈ es) → (l.ents.map labOf).Nodup → Full Try.prog noY 164 [.agg [.int .i64 x, .str w], .ptr 1 0 0] [poolO es, boxO l] (DoR l r)) :
    Full Try.prog noY 69 [.agg t.cells, .meth "loop.example/codicil/impl.do" (.iface 124 (.agg [.int .i64 x, .str w]))] [poolO []] (ChR t (r.bind okO)) := by
  have hcp := (treeCopy_acc t ht []).givenEnd
  have hcp2 := fun es => (treeCopy_acc t ht es).givenEnd
  generalize hrd : r.bind okO = d
  cases t with
  | mk id kind text kids =>
  refine full_of_awp good Try.func69 rfl (by kernel_rfl) (by decide) ?_
  conv => whnf
  refine .inr (.inl ⟨[0], true, ?_⟩)
  conv => whnf
  refine hcp.mono ?_
  rintro o st' ⟨⟨l, l1, l2, rfl, rfl⟩, hl⟩
  have hn := hl.nodup (k := 0) rfl
  rw [List.nil_append] at hn ⊢
  have hd := hd l l.ents l1 l2 (fun _ h => h) hn
  obtain ⟨es, hes⟩ : ∃ es, es = l.ents := ⟨_, rfl⟩
  rw [← hes] at hd ⊢
  cases l with
  | mk lid lk lx lh lks =>
  rcases lh with _ | ⟨lb, lc⟩
  all_goals
    conv => whnf
    refine ⟨_, rfl, ?_⟩
    conv => whnf
    refine ⟨[0, 3], true, ?_⟩
    conv => whnf
    refine hd.mono ?_
    intro o st' h
    cases r with
    | none =>
      obtain ⟨rfl, es', rfl⟩ := h
      conv => whnf
      refine .inr (.inl ⟨[0], true, ?_⟩)
      conv => whnf
      refine (hcp2 es').mono ?_
      rintro o st' ⟨⟨l, l1, l2, rfl, rfl⟩, hl⟩
      have hn := hl.nodup (k := 0) rfl
      obtain ⟨es2, hes2⟩ : ∃ es2, es2 = es' ++ l.ents := ⟨_, rfl⟩
      have hin : ∀ e ∈ l.ents, e ∈ es2 := fun e he => hes2 ▸ List.mem_append_right _ he
      rw [← hes2] at hn ⊢
      have hnl : (l.ents.map labOf).Nodup := by rw [hes2] at hn; exact (nodup_app hn).2.1
      subst hrd
      cases l with
      | mk gid gk gx gh gks =>
      rcases gh with _ | ⟨gb, gc⟩
      all_goals
        conv => whnf
        refine ⟨[], true, ?_⟩
        conv => whnf
        exact ⟨_, es2, l1, l2, hin, hnl, rfl, rfl⟩
    | some y =>
      obtain ⟨l', es', h1, h2, h3, rfl, rfl, h4⟩ := h
      have hok := implTreeOk y (hr y rfl)
      have hv := l'.viewA h2 h4
      rw [h1] at hv
      have hrd : d = okO y := hrd.symm
      unfold okO at hrd
      generalize okT y = oky at *
      have hcells : (.agg y.cells : V).flat = (.agg y.cells : V).flat := rfl
      cases l' with
      | mk mid mk mx mh mks =>
      cases y with
      | mk yi yk yx yks =>
      rcases mh with _ | ⟨mb, mc⟩
      all_goals
        conv => whnf
        refine .inr (.inr ⟨es', [.agg (T.mk yi yk yx yks).cells], fun e he => ⟨0, he⟩, viewL1 hv, rfl, hok.mono ?_⟩)
        rintro r rfl
        refine ⟨rfl, ?_⟩
        cases oky with
        | true =>
          conv => whnf
          refine ⟨[], true, ?_⟩
          conv => whnf
          rw [if_pos rfl] at hrd
          subst hrd
          exact ⟨_, es', h1, h2, h4, h3, rfl, rfl⟩
        | false =>
          conv => whnf
          refine .inr (.inl ⟨[0], true, ?_⟩)
          conv => whnf
          refine (hcp2 es').mono ?_
          rintro o st' ⟨⟨l, l1, l2, rfl, rfl⟩, hl⟩
          have hn := hl.nodup (k := 0) rfl
          obtain ⟨es2, hes2⟩ : ∃ es2, es2 = es' ++ l.ents := ⟨_, rfl⟩
          have hin : ∀ e ∈ l.ents, e ∈ es2 := fun e he => hes2 ▸ List.mem_append_right _ he
          rw [← hes2] at hn ⊢
          have hnl : (l.ents.map labOf).Nodup := by rw [hes2] at hn; exact (nodup_app hn).2.1
          rw [if_neg (by simp)] at hrd
          subst hrd
          cases l with
          | mk gid gk gx gh gks =>
          rcases gh with _ | ⟨gb, gc⟩
          all_goals
            conv => whnf
            refine ⟨[], true, ?_⟩
            conv => whnf
            exact ⟨_, es2, l1, l2, hin, hnl, rfl, rfl⟩
end Go.Cod

namespace Go.Cod
open Go Go.Proofs
set_option maxRecDepth 10000

mutual
theorem T.mapAt_found (x : Int) (f g : T → T) : ∀ (t s : T), t.ids.Nodup → fT t x = some s → f s = g s → t.mapAt x f = t.mapAt x g
  | .mk id kind text kids, s, hn, hf, h => by
    simp only [T.ids, List.nodup_cons] at hn
    simp only [fT] at hf
    simp only [T.mapAt]
    by_cases hid : id = x
    · rw [if_pos hid, Option.some.injEq] at hf
      subst hf
      rw [if_pos hid, if_pos hid, h]
    · rw [if_neg hid] at hf
      rw [if_neg hid, if_neg hid, T.mapAtL_found x f g kids s hn.2 hf h]
theorem T.mapAtL_found (x : Int) (f g : T → T) : ∀ (ts : List T) (s : T), (T.idsL ts).Nodup → fL ts x = some s → f s = g s → T.mapAtL x f ts = T.mapAtL x g ts
  | [], _, _, hf, _ => by simp [fL] at hf
  | t :: ts, s, hn, hf, h => by
    simp only [T.idsL, List.nodup_append] at hn
    simp only [fL] at hf
    simp only [T.mapAtL]
    cases h1 : fT t x with
    | some s' =>
      rw [h1, Option.some.injEq] at hf
      subst hf
      have hx : x ∈ t.ids := by
        refine Decidable.byContradiction fun h => ?_
        rw [(fT_none t x).2 h] at h1; cases h1
      have hx2 : x ∉ T.idsL ts := fun h => hn.2.2 x hx x h rfl
      rw [T.mapAt_found x f g t s' hn.1 h1 h, T.mapAtL_none x f ts hx2, T.mapAtL_none x g ts hx2]
    | none =>
      rw [h1] at hf
      have hx := (fT_none t x).1 h1
      rw [T.mapAt_none x f t hx, T.mapAt_none x g t hx, T.mapAtL_found x f g ts s hn.2.1 hf h]
end
theorem fT_mem {t : T} {x : Int} {s : T} (h : fT t x = some s) : x ∈ t.ids := by
  refine Decidable.byContradiction fun h1 => ?_
  rw [(fT_none t x).2 h1] at h; cases h
theorem doT_bind (t : T) (s : Stp) : doT t s = (editT t s).bind okO := by
  unfold doT
  cases editT t s <;> rfl
/-- What the deed of a step makes of a tree. -/
def deedT (t : T) (s : Stp) : Option T := if s.kind = 1 then putT t s.id s.at_ s.node else if s.kind = 2 then cutTT t s.id else if s.kind = 3 then t.upd s.id (setTextT s.text) else t.upd s.id (setKindT s.text)
theorem deed_edit {t : T} (hok : okT t = true) (s : Stp) (hd : deedOk s = true) : deedT t s = editT t s := by
  have hn := ((okT_iff' t).1 hok).2.1
  unfold deedOk nothingT at hd
  unfold deedT editT
  by_cases k1 : s.kind = 1
  · rw [if_pos k1] at hd ⊢
    simp only [Bool.and_eq_true, decide_eq_true_eq] at hd
    have hb : bareT s = true := by unfold bareT; rw [if_pos k1]; simpa using hd.1
    unfold putT
    cases hf : fT t s.id with
    | none => rfl
    | some x =>
      simp only [hb, Bool.true_eq_false, if_false, if_pos k1]
      by_cases hr : 0 ≤ s.at_ ∧ s.at_ ≤ x.kids.length
      · rw [if_pos hr, if_pos ⟨hr.1, hr.2, hd.2⟩, T.upd_map _ _ t (fT_mem hf) hn]
      · rw [if_neg hr, if_neg fun h => hr ⟨h.1, h.2.1⟩]
  rw [if_neg k1] at hd ⊢
  by_cases k2 : s.kind = 2
  · rw [if_pos k2] at hd ⊢
    simp only [Bool.and_eq_true, decide_eq_true_eq] at hd
    have hb : bareT s = true := by unfold bareT; rw [if_neg k1, if_pos k2]; simp [hd.1, hd.2.1, hd.2.2]
    unfold cutTT
    rcases treeOver_cases t s.id with ⟨h1, h2⟩ | ⟨_, h1, h2⟩ | ⟨h1, p, h2, h3, h4⟩
    · rw [h1, if_neg (by omega)]
      have hx : s.id ∉ t.ids := by
        rcases h2 with h2 | h2
        · rw [hok] at h2; cases h2
        · unfold idsOf at h2; rw [if_pos hok] at h2; exact h2
      rw [(fT_none t s.id).2 hx]
    · rw [h1, if_neg (by omega)]
      cases hf : fT t s.id with
      | none => rfl
      | some x => simp only [hb, Bool.true_eq_false, if_false, if_neg k1, if_pos k2, if_pos h2.symm]
    · have hp := (findT_spec h2).2.1
      have hx : s.id ∈ p.kids.map T.id := List.count_pos_iff.1 (by omega)
      have hxk := fT_kid t _ s.id p hp hx
      have hxt : s.id ∈ t.ids ∧ s.id ≠ t.id := by
        cases t with
        | mk a b c d =>
        simp only [T.ids, List.nodup_cons] at hn
        exact ⟨by simp only [T.ids, List.mem_cons]; exact .inr hxk, fun e => hn.1 (show a ∈ T.idsL d from (show s.id = a from e) ▸ hxk)⟩
      rw [if_pos h1, T.upd_map _ _ t (fT_mem hp) hn, ← T.cut_map s.id _ t p hn hp hx]
      cases hf : fT t s.id with
      | none => exact absurd hxt.1 ((fT_none t s.id).1 hf)
      | some x => simp only [hb, Bool.true_eq_false, if_false, if_neg k1, if_pos k2, if_neg hxt.2]
  rw [if_neg k2] at hd ⊢
  have hb : s.kind = 3 ∨ s.kind = 4 → bareT s = true := fun h => by
    unfold bareT
    rw [if_neg k1, if_neg k2]
    rcases h with h | h
    · rw [if_pos h] at hd
      simp only [Bool.and_eq_true, decide_eq_true_eq] at hd
      simp [hd.1, hd.2]
    · rw [if_neg (by omega), if_pos h] at hd
      simp only [Bool.and_eq_true, decide_eq_true_eq] at hd
      simp [hd.1, hd.2]
  by_cases k3 : s.kind = 3
  · rw [if_pos k3]
    cases hf : fT t s.id with
    | none => exact T.upd_none _ _ t ((fT_none t s.id).1 hf)
    | some x =>
      simp only [hb (.inl k3), Bool.true_eq_false, if_false, if_neg k1, if_neg k2, if_pos k3]
      rw [T.upd_map _ _ t (fT_mem hf) hn, T.mapAt_found s.id (setTextT s.text) (setT x.kind s.text) t x hn hf (by cases x; rfl)]
  rw [if_neg k3]
  by_cases k4 : s.kind = 4
  · cases hf : fT t s.id with
    | none => exact T.upd_none _ _ t ((fT_none t s.id).1 hf)
    | some x =>
      simp only [hb (.inr k4), Bool.true_eq_false, if_false, if_neg k1, if_neg k2, if_neg k3, if_pos k4]
      rw [T.upd_map _ _ t (fT_mem hf) hn, T.mapAt_found s.id (setKindT s.text) (setT s.text x.text) t x hn hf (by cases x; rfl)]
  · rw [if_neg k3, if_neg k4] at hd; cases hd
theorem deed_no {t : T} {s : Stp} (hd : deedOk s = false) : editT t s = none := by
  unfold deedOk nothingT at hd
  unfold editT
  cases hf : fT t s.id with
  | none => rfl
  | some x =>
    by_cases k1 : s.kind = 1
    · rw [if_pos k1] at hd
      by_cases hb : bareT s = false
      · simp only [if_pos hb]
      · simp only [if_neg hb, if_pos k1]
        rw [if_neg]
        rintro ⟨_, _, h⟩
        have hb : bareT s = true := by cases h : bareT s <;> simp_all
        unfold bareT at hb
        rw [if_pos k1] at hb
        rw [hb, h] at hd
        cases hd
    rw [if_neg k1] at hd
    have hb : bareT s = false ∨ (s.kind ≠ 2 ∧ s.kind ≠ 3 ∧ s.kind ≠ 4) := by
      by_cases k2 : s.kind = 2
      · left
        rw [if_pos k2] at hd
        unfold bareT
        rw [if_neg k1, if_pos k2]
        generalize noneT s.node = a at *
        generalize decide (s.text = []) = b at *
        generalize decide (s.at_ = 0) = c at *
        cases a <;> cases b <;> cases c <;> simp_all
      · rw [if_neg k2] at hd
        by_cases k34 : s.kind = 3 ∨ s.kind = 4
        · left
          unfold bareT
          rw [if_neg k1, if_neg k2]
          rcases k34 with h | h
          · rw [if_pos h] at hd
            rw [Bool.and_comm]; exact hd
          · rw [if_neg (by omega), if_pos h] at hd
            rw [Bool.and_comm]; exact hd
        · right
          exact ⟨k2, fun h => k34 (.inl h), fun h => k34 (.inr h)⟩
    rcases hb with hb | ⟨k2, k3, k4⟩
    · simp only [if_pos hb]
    · simp only [if_neg k1, if_neg k2, if_neg k3, if_neg k4]
      split <;> rfl
end Go.Cod

namespace Go.Cod
open Go Go.Proofs
set_option maxRecDepth 10000

/-- What a step leaves, in one's own memory. -/
def StepR (r : T × Bool) (o : Out) (st' : St) : Prop := ∃ (l : LT) (es : List (List V)), l.erase = r.1 ∧ l.Wf ∧ (∀ e ∈ l.ents, e ∈ es) ∧ (l.ents.map labOf).Nodup ∧ o = .ret (.tup [.agg l.cells, .bool r.2]) ∧ st' = [poolO es]
theorem stepT_yes {t : T} {s : Stp} (h : okT t = true) (hd : deedOk s = true) : stepT t s = (((deedT t s).bind okO).getD t, ((deedT t s).bind okO).isSome) := by
  unfold stepT
  rw [if_pos h, doT_bind, ← deed_edit h s hd]
  cases (deedT t s).bind okO <;> rfl
theorem stepT_no {t : T} {s : Stp} (h : okT t = true) (hd : deedOk s = false) : stepT t s = (t, false) := by
  unfold stepT
  rw [if_pos h, doT_none (deed_no hd)]
theorem stepT_bad {t : T} {s : Stp} (h : okT t = false) : stepT t s = (TZ, false) := by
  unfold stepT
  rw [if_neg (by rw [h]; simp)]
theorem stepDo_bad (t : T) (s : Stp) (ht : t.Small) (hok : okT t = false) : Full Try.prog noY 39 [.agg t.cells, .agg s.cells] [poolO []] (StepR (stepT t s)) := by
  have f1 := implTreeOk t ht
  rw [hok] at f1
  rw [stepT_bad hok]
  simp only [Stp.cells]
  cases s with
  | mk kind sid at_ node text =>
  cases node with
  | mk nid nk nx nks =>
  cases t with
  | mk tid tk tx tks =>
  refine full_of_awp good Try.func39 rfl (by kernel_rfl) (by decide) ?_
  conv => whnf
  refine .inl (f1.mono ?_)
  rintro r rfl
  conv => whnf
  refine ⟨[], true, ?_⟩
  conv => whnf
  exact ⟨.mk 0 [] [] none [], [], rfl, ⟨fun _ => rfl, trivial⟩, by simp [LT.ents, LT.entsL, rootE], by simp [LT.ents, LT.entsL, rootE], rfl, rfl⟩
theorem stepDo_no (t : T) (s : Stp) (ht : t.Small) (hs : s.node.Small) (hok : okT t = true) (hd : deedOk s = false) : Full Try.prog noY 39 [.agg t.cells, .agg s.cells] [poolO []] (StepR (stepT t s)) := by
  have f1 := implTreeOk t ht
  have f2 := stepDeedOf_pure s hs
  have hcp := (treeCopy_acc t ht []).givenEnd
  rw [hok] at f1
  rw [hd] at f2
  rw [stepT_no hok hd]
  have hdv : deedV s = .iface 118 (.agg ([.int .i64 s.id, .int .i64 s.at_] ++ s.node.cells)) ∨ deedV s = .iface 120 (.agg [.int .i64 s.id]) ∨ deedV s = .iface 122 (.agg [.int .i64 s.id, .str s.text]) ∨ deedV s = .iface 124 (.agg [.int .i64 s.id, .str s.text]) ∨ deedV s = .raw .nilIface := by
    unfold deedV
    split
    · exact .inl rfl
    split
    · exact .inr (.inl rfl)
    split
    · exact .inr (.inr (.inl rfl))
    split
    · exact .inr (.inr (.inr (.inl rfl)))
    · exact .inr (.inr (.inr (.inr rfl)))
  generalize deedV s = dv at *
  simp only [Stp.cells] at f2 ⊢
  cases s with
  | mk kind sid at_ node text =>
  cases node with
  | mk nid nk nx nks =>
  cases t with
  | mk tid tk tx tks =>
  refine full_of_awp good Try.func39 rfl (by kernel_rfl) (by decide) ?_
  conv => whnf
  refine .inl (f1.mono ?_)
  rintro r rfl
  conv => whnf
  refine .inl (f2.mono ?_)
  rintro r rfl
  rcases hdv with rfl | rfl | rfl | rfl | rfl
  all_goals
    conv => whnf
    refine .inr (.inl ⟨[0], true, ?_⟩)
    conv => whnf
    refine hcp.mono ?_
    rintro o st' ⟨⟨l, l1, l2, rfl, rfl⟩, hl⟩
    have hn := hl.nodup (k := 0) rfl
    rw [List.nil_append] at hn ⊢
    obtain ⟨es, hes⟩ : ∃ es, es = l.ents := ⟨_, rfl⟩
    have hin : ∀ e ∈ l.ents, e ∈ es := fun e he => hes ▸ he
    rw [← hes] at ⊢
    cases l with
    | mk gid gk gx gh gks =>
    rcases gh with _ | ⟨gb, gc⟩
    all_goals
      conv => whnf
      refine ⟨[], true, ?_⟩
      conv => whnf
      exact ⟨_, es, l1, l2, hin, hn, rfl, rfl⟩
theorem stepDo_put (t : T) (s : Stp) (ht : t.Small) (hs : s.node.Small) (htx : s.text.length ≤ 1048576) (hok : okT t = true) (hd : deedOk s = true) (hk : s.kind = 1) : Full Try.prog noY 39 [.agg t.cells, .agg s.cells] [poolO []] (StepR (stepT t s)) := by
  have f1 := implTreeOk t ht
  have f2 := stepDeedOf_pure s hs
  have h20 := okT_size hok
  have hdT : deedT t s = putT t s.id s.at_ s.node := by unfold deedT; rw [if_pos hk]
  have hdv : deedV s = .iface 118 (.agg ([.int .i64 s.id, .int .i64 s.at_] ++ s.node.cells)) := by unfold deedV; rw [if_pos hk]
  have hsm : ∀ y, putT t s.id s.at_ s.node = some y → y.Small := fun y h => editT_small ht (by omega) hs htx (by rw [← deed_edit hok s hd, hdT]; exact h)
  have f3 := changed_put t ht s.id s.at_ s.node _ hsm fun l es h1 h2 h3 h4 => by have := putDo l h2 s.id s.at_ s.node hs es h3 h4 (by rw [h1]; omega); rwa [h1] at this
  rw [stepT_yes hok hd]
  rw [hok] at f1
  rw [hd, hdv] at f2
  rw [← hdT] at f3
  generalize (deedT t s).bind okO = d at *
  simp only [Stp.cells] at f2 ⊢
  cases s with
  | mk kind sid at_ node text =>
  cases node with
  | mk nid nk nx nks =>
  cases t with
  | mk tid tk tx tks =>
  refine full_of_awp good Try.func39 rfl (by kernel_rfl) (by decide) ?_
  conv => whnf
  refine .inl (f1.mono ?_)
  rintro r rfl
  conv => whnf
  refine .inl (f2.mono ?_)
  rintro r rfl
  conv => whnf
  repeat (refine And.intro (by
            (conv => whnf)
            rfl) ?_
          conv => whnf)
  refine .inr (.inl ⟨[0], true, ?_⟩)
  conv => whnf
  refine f3.mono ?_
  rintro o st' ⟨l, es, l1, l2, l3, l4, rfl, rfl⟩
  cases l with
  | mk gid gk gx gh gks =>
  rcases gh with _ | ⟨gb, gc⟩
  all_goals
    conv => whnf
    refine And.intro ?_ ?_
    all_goals
      conv => whnf
      refine ⟨[], true, ?_⟩
      conv => whnf
      exact ⟨_, es, l1, l2, l3, l4, rfl, rfl⟩
theorem stepDo_cut (t : T) (s : Stp) (ht : t.Small) (hs : s.node.Small) (htx : s.text.length ≤ 1048576) (hok : okT t = true) (hd : deedOk s = true) (hk : s.kind = 2) : Full Try.prog noY 39 [.agg t.cells, .agg s.cells] [poolO []] (StepR (stepT t s)) := by
  have f1 := implTreeOk t ht
  have f2 := stepDeedOf_pure s hs
  have h20 := okT_size hok
  have hdT : deedT t s = cutTT t s.id := by unfold deedT; rw [if_neg (by omega)]; rw [if_pos hk]
  have hdv : deedV s = .iface 120 (.agg [.int .i64 s.id]) := by unfold deedV; rw [if_neg (by omega)]; rw [if_pos hk]
  have hsm : ∀ y, cutTT t s.id = some y → y.Small := fun y h => editT_small ht (by omega) hs htx (by rw [← deed_edit hok s hd, hdT]; exact h)
  have f3 := changed_cut t ht s.id _ hsm fun l es h1 h2 h3 h4 => by have := cutDo' l h2 (by rw [h1]; exact ht) s.id es h3 h4 (by rw [h1]; omega); rwa [h1] at this
  rw [stepT_yes hok hd]
  rw [hok] at f1
  rw [hd, hdv] at f2
  rw [← hdT] at f3
  generalize (deedT t s).bind okO = d at *
  simp only [Stp.cells] at f2 ⊢
  cases s with
  | mk kind sid at_ node text =>
  cases node with
  | mk nid nk nx nks =>
  cases t with
  | mk tid tk tx tks =>
  refine full_of_awp good Try.func39 rfl (by kernel_rfl) (by decide) ?_
  conv => whnf
  refine .inl (f1.mono ?_)
  rintro r rfl
  conv => whnf
  refine .inl (f2.mono ?_)
  rintro r rfl
  conv => whnf
  repeat (refine And.intro (by
            (conv => whnf)
            rfl) ?_
          conv => whnf)
  refine .inr (.inl ⟨[0], true, ?_⟩)
  conv => whnf
  refine f3.mono ?_
  rintro o st' ⟨l, es, l1, l2, l3, l4, rfl, rfl⟩
  cases l with
  | mk gid gk gx gh gks =>
  rcases gh with _ | ⟨gb, gc⟩
  all_goals
    conv => whnf
    refine And.intro ?_ ?_
    all_goals
      conv => whnf
      refine ⟨[], true, ?_⟩
      conv => whnf
      exact ⟨_, es, l1, l2, l3, l4, rfl, rfl⟩
theorem stepDo_text (t : T) (s : Stp) (ht : t.Small) (hs : s.node.Small) (htx : s.text.length ≤ 1048576) (hok : okT t = true) (hd : deedOk s = true) (hk : s.kind = 3) : Full Try.prog noY 39 [.agg t.cells, .agg s.cells] [poolO []] (StepR (stepT t s)) := by
  have f1 := implTreeOk t ht
  have f2 := stepDeedOf_pure s hs
  have h20 := okT_size hok
  have hdT : deedT t s = t.upd s.id (setTextT s.text) := by unfold deedT; rw [if_neg (by omega)]; rw [if_neg (by omega)]; rw [if_pos hk]
  have hdv : deedV s = .iface 122 (.agg [.int .i64 s.id, .str s.text]) := by unfold deedV; rw [if_neg (by omega)]; rw [if_neg (by omega)]; rw [if_pos hk]
  have hsm : ∀ y, t.upd s.id (setTextT s.text) = some y → y.Small := fun y h => editT_small ht (by omega) hs htx (by rw [← deed_edit hok s hd, hdT]; exact h)
  have f3 := changed_text t ht s.id s.text _ hsm fun l es h1 h2 h3 h4 => by have := textDo' l h2 s.id s.text es h3 h4 (by rw [h1]; omega); rwa [h1] at this
  rw [stepT_yes hok hd]
  rw [hok] at f1
  rw [hd, hdv] at f2
  rw [← hdT] at f3
  generalize (deedT t s).bind okO = d at *
  simp only [Stp.cells] at f2 ⊢
  cases s with
  | mk kind sid at_ node text =>
  cases node with
  | mk nid nk nx nks =>
  cases t with
  | mk tid tk tx tks =>
  refine full_of_awp good Try.func39 rfl (by kernel_rfl) (by decide) ?_
  conv => whnf
  refine .inl (f1.mono ?_)
  rintro r rfl
  conv => whnf
  refine .inl (f2.mono ?_)
  rintro r rfl
  conv => whnf
  repeat (refine And.intro (by
            (conv => whnf)
            rfl) ?_
          conv => whnf)
  refine .inr (.inl ⟨[0], true, ?_⟩)
  conv => whnf
  refine f3.mono ?_
  rintro o st' ⟨l, es, l1, l2, l3, l4, rfl, rfl⟩
  cases l with
  | mk gid gk gx gh gks =>
  rcases gh with _ | ⟨gb, gc⟩
  all_goals
    conv => whnf
    refine And.intro ?_ ?_
    all_goals
      conv => whnf
      refine ⟨[], true, ?_⟩
      conv => whnf
      exact ⟨_, es, l1, l2, l3, l4, rfl, rfl⟩
theorem stepDo_kind (t : T) (s : Stp) (ht : t.Small) (hs : s.node.Small) (htx : s.text.length ≤ 1048576) (hok : okT t = true) (hd : deedOk s = true) (hk : s.kind = 4) : Full Try.prog noY 39 [.agg t.cells, .agg s.cells] [poolO []] (StepR (stepT t s)) := by
  have f1 := implTreeOk t ht
  have f2 := stepDeedOf_pure s hs
  have h20 := okT_size hok
  have hdT : deedT t s = t.upd s.id (setKindT s.text) := by unfold deedT; rw [if_neg (by omega)]; rw [if_neg (by omega)]; rw [if_neg (by omega)]; 
  have hdv : deedV s = .iface 124 (.agg [.int .i64 s.id, .str s.text]) := by unfold deedV; rw [if_neg (by omega)]; rw [if_neg (by omega)]; rw [if_neg (by omega)]; rw [if_pos hk]
  have hsm : ∀ y, t.upd s.id (setKindT s.text) = some y → y.Small := fun y h => editT_small ht (by omega) hs htx (by rw [← deed_edit hok s hd, hdT]; exact h)
  have f3 := changed_kind t ht s.id s.text _ hsm fun l es h1 h2 h3 h4 => by have := kindDo' l h2 s.id s.text es h3 h4 (by rw [h1]; omega); rwa [h1] at this
  rw [stepT_yes hok hd]
  rw [hok] at f1
  rw [hd, hdv] at f2
  rw [← hdT] at f3
  generalize (deedT t s).bind okO = d at *
  simp only [Stp.cells] at f2 ⊢
  cases s with
  | mk kind sid at_ node text =>
  cases node with
  | mk nid nk nx nks =>
  cases t with
  | mk tid tk tx tks =>
  refine full_of_awp good Try.func39 rfl (by kernel_rfl) (by decide) ?_
  conv => whnf
  refine .inl (f1.mono ?_)
  rintro r rfl
  conv => whnf
  refine .inl (f2.mono ?_)
  rintro r rfl
  conv => whnf
  repeat (refine And.intro (by
            (conv => whnf)
            rfl) ?_
          conv => whnf)
  refine .inr (.inl ⟨[0], true, ?_⟩)
  conv => whnf
  refine f3.mono ?_
  rintro o st' ⟨l, es, l1, l2, l3, l4, rfl, rfl⟩
  cases l with
  | mk gid gk gx gh gks =>
  rcases gh with _ | ⟨gb, gc⟩
  all_goals
    conv => whnf
    refine And.intro ?_ ?_
    all_goals
      conv => whnf
      refine ⟨[], true, ?_⟩
      conv => whnf
      exact ⟨_, es, l1, l2, l3, l4, rfl, rfl⟩
theorem implStepDo_acc (t : T) (s : Stp) (ht : t.Small) (hs : s.node.Small) (htx : s.text.length ≤ 1048576) : Full Try.prog noY 39 [.agg t.cells, .agg s.cells] [poolO []] (StepR (stepT t s)) := by
  cases hok : okT t with
  | false => exact stepDo_bad t s ht hok
  | true =>
    cases hd : deedOk s with
    | false => exact stepDo_no t s ht hs hok hd
    | true =>
      have hk : s.kind = 1 ∨ s.kind = 2 ∨ s.kind = 3 ∨ s.kind = 4 := by
        refine Decidable.byContradiction fun h => ?_
        simp only [not_or] at h
        unfold deedOk at hd
        rw [if_neg h.1, if_neg h.2.1, if_neg h.2.2.1, if_neg h.2.2.2] at hd
        cases hd
      rcases hk with hk | hk | hk | hk
      · exact stepDo_put t s ht hs htx hok hd hk
      · exact stepDo_cut t s ht hs htx hok hd hk
      · exact stepDo_text t s ht hs htx hok hd hk
      · exact stepDo_kind t s ht hs htx hok hd hk
/-- .. just made. -/
def NewB (r : T × Bool) (o : Out) (st' : St) : Prop := ∃ l : LT, l.erase = r.1 ∧ l.Wf ∧ (l.ents.map labOf).Nodup ∧ o = .ret (.tup [.agg l.cells, .bool r.2]) ∧ st' = [poolO l.ents]
theorem implStepDo_new (t : T) (s : Stp) (ht : t.Small) (hs : s.node.Small) (htx : s.text.length ≤ 1048576) : Full Try.prog noY 39 [.agg t.cells, .agg s.cells] [] (NewB (stepT t s)) := by
  refine Full.start (Full.shrink (implStepDo_acc t s ht hs htx) ?_)
  rintro o st' ⟨l, es, h1, h2, h3, h4, rfl, rfl⟩
  exact ⟨es, l.ents, rfl, h3, h4, l, h1, h2, h4, rfl, rfl⟩
end Go.Cod

namespace Go.Cod
open Go Go.Proofs Go.ChangeShapes Go.WideShapes Go.ChangeAt Go.RowKit
set_option maxRecDepth 10000

/- Steps as arguments. -/
structure Stp.Ok (s : Stp) : Prop where
  k : -9223372036854775808 ≤ s.kind ∧ s.kind ≤ 9223372036854775807
  i : -9223372036854775808 ≤ s.id ∧ s.id ≤ 9223372036854775807
  a : -9223372036854775808 ≤ s.at_ ∧ s.at_ ≤ 9223372036854775807
  n : s.node.Ok
  t : s.text.length ≤ maxLen
theorem reads_step {H : Type} {enc : TypeId × Value → H} {w : World} (n : Nat) : Reads enc Try.prog w n 42 fun vs => ∃ s : Stp, vs = s.cells ∧ s.Ok := by
  have hS := reads_struct (enc := enc) (P := Try.prog) (w := w) (n := n) (t := 42)
    (Ss := [fun vs => ∃ i, vs = [.int .i64 i] ∧ IntKind.i64.min ≤ i ∧ i ≤ IntKind.i64.max, fun vs => ∃ i, vs = [.int .i64 i] ∧ IntKind.i64.min ≤ i ∧ i ≤ IntKind.i64.max, fun vs => ∃ i, vs = [.int .i64 i] ∧ IntKind.i64.min ≤ i ∧ i ≤ IntKind.i64.max,
      fun vs => ∃ t : T, vs = t.cells ∧ t.Ok, fun vs => ∃ s, vs = [.str s] ∧ s.length ≤ maxLen])
    kids (by decide +kernel) Try.underlying42 rfl ?_
  · intro cs x h
    obtain ⟨vs, ⟨_, _, rfl, ⟨i, rfl, hi⟩, _, _, rfl, ⟨j, rfl, hj⟩, _, _, rfl, ⟨a, rfl, ha⟩, _, _, rfl, ⟨t, rfl, ht⟩, _, _, rfl, ⟨s, rfl, hs⟩, rfl⟩, h2⟩ := hS cs x h
    exact ⟨_, ⟨⟨i, j, a, t, s⟩, by simp [Stp.cells], ⟨hi, hj, ha, ht, hs⟩⟩, h2⟩
  · intro m hm j f S h1 h2
    match j with
    | 0 => simp at h1 h2; subst h1 h2; exact reads_int Try.underlying3
    | 1 => simp at h1 h2; subst h1 h2; exact reads_int Try.underlying3
    | 2 => simp at h1 h2; subst h1 h2; exact reads_int Try.underlying3
    | 3 => simp at h1 h2; subst h1 h2; exact reads_tree m
    | 4 => simp at h1 h2; subst h1 h2; exact reads_str Try.underlying9
    | j + 5 => simp at h1
def szStp (s : Stp) (left : Int) : Int := if szT s.node left < 0 then -1 else if szT s.node left - s.text.length < 0 then -1 else szT s.node left - s.text.length
theorem szStep_pure (s : Stp) (hs : s.Ok) (left : Int) (h0 : 0 ≤ left) (h1 : left ≤ 4611686018427387904) : Pure Try.prog 24 [.agg s.cells, .int .i64 left] (· = .int .i64 (szStp s left)) := by
  have f1 := szT_pure s.node hs.n left h0 h1
  have f2 := szT_le s.node left h0
  have ht := hs.t
  simp only [maxLen] at ht
  have hd : szStp s left = if szT s.node left < 0 then -1 else if szT s.node left - s.text.length < 0 then -1 else szT s.node left - s.text.length := rfl
  generalize szStp s left = r at *
  generalize szT s.node left = l at *
  simp only [Stp.cells]
  cases s with
  | mk kind sid at_ node text =>
  cases node with
  | mk nid nk nx nks =>
  simp only at f1 ht hd
  show Pure Try.prog _ [.agg [.int .i64 kind, .int .i64 sid, .int .i64 at_, .int .i64 nid, .str nk, .str nx, .sl (T.rows nks), .str text], .int .i64 left] _
  refine pure_of_awp good Try.func24 rfl (by kernel_rfl) (by decide) ?_
  conv => whnf
  refine .inl (f1.mono ?_)
  rintro r rfl
  conv => whnf
  by_cases a1 : l < 0
  · rw [ltB_t a1]
    conv => whnf
    rw [hd, if_pos a1]
  rw [ltB_f (by omega)]
  conv => whnf
  rw [wrap64 (by omega) (by omega)]
  by_cases a2 : l - text.length < 0
  · rw [ltB_t a2]
    conv => whnf
    rw [hd, if_neg a1, if_pos a2]
  rw [ltB_f (by omega)]
  conv => whnf
  rw [hd, if_neg a1, if_neg a2]
theorem szStp_le (s : Stp) (left : Int) (h : 0 ≤ left) : szStp s left ≤ left ∧ -1 ≤ szStp s left := by
  have := szT_le s.node left h
  unfold szStp
  split
  · omega
  split <;> omega
theorem stp_small (s : Stp) (hs : s.Ok) (left : Int) (h1 : left ≤ 1048576) (h0 : 0 ≤ left) (h : 0 ≤ szStp s left) : s.node.Small ∧ s.text.length ≤ 1048576 ∧ s.node.size ≤ 1048577 := by
  have hle := szT_le s.node left h0
  unfold szStp at h
  split at h
  · omega
  split at h
  · omega
  have hz := ids_sz s.node left (by omega)
  rw [T.ids_size] at hz
  exact ⟨small_of_sz s.node hs.n left h1 (by omega), by omega, by omega⟩
theorem sneq_refl (a : Int) : negB (eqB a a) = false := by rw [eqB_refl]; rfl
theorem sneqb_refl (a : Bool) : (!(a == a)) = false := by simp
theorem sneqS_refl (a : List UInt8) : negB (eqS a a) = false := by rw [eqS_refl]; rfl
theorem eqStep_pure (s : Stp) (hs : s.node.Small) : Pure Try.prog 28 [.agg s.cells, .agg s.cells] (· = .bool true) := by
  have f1 := eqTree_pure s.node hs
  simp only [Stp.cells]
  cases s with
  | mk kind sid at_ node text =>
  cases node with
  | mk nid nk nx nks =>
  show Pure Try.prog _ [.agg [.int .i64 kind, .int .i64 sid, .int .i64 at_, .int .i64 nid, .str nk, .str nx, .sl (T.rows nks), .str text], .agg [.int .i64 kind, .int .i64 sid, .int .i64 at_, .int .i64 nid, .str nk, .str nx, .sl (T.rows nks), .str text]] _
  refine pure_of_awp good Try.func28 rfl (by kernel_rfl) (by decide) ?_
  conv => whnf
  rw [sneq_refl]
  conv => whnf
  rw [sneq_refl]
  conv => whnf
  rw [sneq_refl]
  conv => whnf
  refine .inl (f1.mono ?_)
  rintro r rfl
  conv => whnf
  rw [sneqS_refl]
  conv => whnf
/-- A step whose tree lies in a pool. -/
def stpC (s : Stp) (l : LT) : List V := [.int .i64 s.kind, .int .i64 s.id, .int .i64 s.at_] ++ l.cells ++ [.str s.text]
theorem stp_view (s : Stp) (l : LT) (hl : l.erase = s.node) (hw : l.Wf) {es : List (List V)} (he : ∀ e ∈ l.ents, e ∈ es) : View es (.agg (stpC s l)) (.agg s.cells) := by
  have hv := l.view hw he
  rw [hl] at hv
  obtain ⟨kind, sid, at_, node, text⟩ := s
  simp only at hv
  cases node with
  | mk nid nk nx nks =>
  cases l with
  | mk a b c d e =>
  refine .agg rfl fun i x y h1 h2 => ?_
  match i, h1, h2 with
  | 0, h1, h2 => cases h1; cases h2; exact .same _
  | 1, h1, h2 => cases h1; cases h2; exact .same _
  | 2, h1, h2 => cases h1; cases h2; exact .same _
  | 3, h1, h2 => exact hv.2 0 x y h1 h2
  | 4, h1, h2 => exact hv.2 1 x y h1 h2
  | 5, h1, h2 => exact hv.2 2 x y h1 h2
  | 6, h1, h2 => exact hv.2 3 x y h1 h2
  | 7, h1, h2 => cases h1; cases h2; exact .same _
  | i + 8, h1, h2 => simp [stpC, LT.cells] at h1
end Go.Cod

namespace Go.Cod
open Go Go.Proofs Go.ChangeShapes Go.WideShapes Go.ChangeAt Go.RowKit
set_option maxRecDepth 10000

theorem implStepDo_pure (t : T) (s : Stp) (ht : t.Small) (hs : s.node.Small) (htx : s.text.length ≤ 1048576) : Pure Try.prog 39 [.agg t.cells, .agg s.cells] (· = .tup [.agg (stepT t s).1.cells, .bool (stepT t s).2]) := by
  refine Full.freeze (implStepDo_new t s ht hs htx) ?_
  rintro o st' ⟨l, h1, h2, h3, rfl, rfl⟩
  have hv := viewL2 (y' := .bool (stepT t s).2) (l.viewA h2 (es := l.ents) (fun _ h => h)) (.same _)
  refine ⟨_, _, .tup [.agg l.erase.cells, .bool (stepT t s).2], rfl, rfl, .tup hv.1 hv.2, ?_, ?_⟩
  · cases l with
    | mk id kind text h kids => rcases h with _ | ⟨b, c⟩ <;> rfl
  · rw [h1]
end Go.Cod

namespace Go.Cod
open Go Go.Proofs Go.ChangeShapes Go.WideShapes Go.ChangeAt Go.RowKit
set_option maxRecDepth 10000

end Go.Cod

namespace Go.Cod
open Go Go.Proofs Go.ChangeShapes Go.WideShapes Go.ChangeAt Go.RowKit
set_option maxRecDepth 10000

end Go.Cod

namespace Go.Cod
open Go Go.Proofs
set_option maxRecDepth 10000

/- What a step leaves as it was. -/
mutual
def T.hd : T → List (Int × List UInt8 × List UInt8)
  | .mk id kind text kids => (id, kind, text) :: T.hdL kids
def T.hdL : List T → List (Int × List UInt8 × List UInt8)
  | [] => []
  | t :: ts => t.hd ++ T.hdL ts
end
end Go.Cod

namespace Go.Cod
open Go Go.Proofs
set_option maxRecDepth 10000

/- Steps, one behind the other. -/
def prows (ls : List Stp) : List (List V) := ls.map Stp.cells
theorem prows_len (ls : List Stp) : (prows ls).length = ls.length := by simp [prows]
theorem prows_get (ls : List Stp) (i : Nat) (h : i < ls.length) : (prows ls)[i]? = some ls[i].cells := by simp [prows, h]
def Stp.Sm (s : Stp) : Prop := s.node.Small ∧ s.node.size ≤ 1048577 ∧ s.text.length ≤ 1048576
theorem doT_small {t : T} {s : Stp} {y : T} (ht : t.Small) (hok : okT t = true) (hs : s.Sm) (h : doT t s = some y) : y.Small ∧ okT y = true := by
  obtain ⟨h1, h2⟩ := doT_ok h
  exact ⟨editT_small ht (by have := okT_size hok; omega) hs.1 hs.2.2 h1, h2⟩
end Go.Cod

namespace Go.Cod
open Go Go.Proofs
set_option maxRecDepth 10000

end Go.Cod

namespace Go.Cod
open Go Go.Proofs
set_option maxRecDepth 10000

/- Two changes of one word each, of which neither is the other's, in either order. -/
end Go.Cod

namespace Go.Cod
open Go Go.Proofs
set_option maxRecDepth 10000

/- What undoes an edit. -/
end Go.Cod

namespace Go.Cod
open Go Go.Proofs
set_option maxRecDepth 10000

/-- What is found, or nothing. -/
def kidOf (t : T) (p : Int) : T := (fT t p).getD TZ
def place0 (x : Int) (ts : List T) : Int := if placeGo x 0 ts < 0 then 0 else placeGo x 0 ts
theorem fR_kidOf (t : T) (p : Int) : fR (fT t p) = .tup [.agg (kidOf t p).cells, .bool (fT t p).isSome] := by
  unfold kidOf
  cases fT t p <;> rfl
set_option maxHeartbeats 4000000 in
theorem l4Place_pure (t : T) (ht : t.Small) (x : Int) : Pure Try.prog 63 [.agg t.cells, .int .i64 x] (· = .int .i64 (place0 x (kidOf t (overT t x 0)).kids)) := by
  have f1 := l2Over_pure t ht x 0
  have f2 := l2Find_pure t ht (overT t x 0)
  rw [fR_kidOf] at f2
  have hl : (kidOf t (overT t x 0)).kids.length ≤ 1048576 := by
    unfold kidOf
    cases h : fT t (overT t x 0) with
    | none => simp [TZ, T.kids]
    | some s =>
      have := fT_small t (overT t x 0) ht s h
      cases this with
      | mk g1 g2 g3 g4 g5 => exact g4
  generalize (fT t (overT t x 0)).isSome = b at *
  generalize kidOf t (overT t x 0) = s at *
  generalize overT t x 0 = ov at *
  obtain ⟨ti, tk, tx, tks⟩ := t
  obtain ⟨si, sk, sx, sks⟩ := s
  simp only [T.kids] at hl ⊢
  have hp0 : place0 x sks = if placeGo x 0 sks < 0 then 0 else placeGo x 0 sks := rfl
  generalize place0 x sks = pz at *
  have hlr := Go.Cod.rows_len sks
  have hget := fun i h => rows_get sks i h
  have hdrop := fun i h => placeGo_drop x sks i h
  have hnil : placeGo x sks.length (sks.drop sks.length) < 0 := by rw [List.drop_of_length_le (by omega)]; simp [placeGo]
  refine pure_of_awp good Try.func63 rfl (by kernel_rfl) (by decide) ?_
  conv => whnf
  repeat (first
    | (refine And.intro (by
            (conv => whnf)
            first
              | rfl
              | exact ⟨_, .inl f1, rfl⟩
              | exact ⟨_, .inl f2, rfl⟩
              | exact ⟨_, .inl f1, _, .inl f2, rfl⟩) ?_
       conv => whnf)
    | (refine ⟨_, .inl f1, ?_⟩
       conv => whnf)
    | (refine ⟨_, .inl f2, ?_⟩
       conv => whnf))
  refine loop_drop (fun n fr st => ∃ (i : Nat), n + i = sks.length ∧ placeGo x 0 sks = placeGo x i (sks.drop i) ∧
      Holds fr [(1, .int .i64 x), (5, .ptr 1 0 0), (7, .int .i64 i)] ∧
      st = [⟨[[.int .i64 ti, .str tk, .str tx, .sl (T.rows tks)]], 4, true, true, true, .cell⟩, ⟨[[.int .i64 si, .str sk, .str sx, .sl (T.rows sks)]], 4, true, true, true, .cell⟩]) sks.length none
    ⟨0, by omega, rfl, ⟨rfl, rfl, rfl, trivial⟩, rfl⟩ ?_
  rintro n fr st ⟨i, hi, hp, hh, rfl⟩
  obtain ⟨fr, rfl⟩ := hh.split
  clear hh
  conv => whnf
  by_cases hlt : i < sks.length
  · rw [hlr, ltB_t (by omega)]
    have hg := hget i hlt
    have hd := hdrop i hlt
    have hw : V.int .i64 (IntKind.i64.wrap ((i : Int) + 1)) = .int .i64 ((i + 1 : Nat) : Int) := by rw [wrap64 (by omega) (by omega)]; simp
    generalize sks[i] = k at *
    obtain ⟨ki, kk, kx, kks⟩ := k
    have hd : placeGo x i (sks.drop i) = if ki = x then (i : Int) else placeGo x (i + 1) (sks.drop (i + 1)) := hd
    conv => whnf
    refine ⟨by omega, _, _, 4, rfl, hg, rfl, rfl, ?_⟩
    conv => whnf
    by_cases hk : ki = x
    · rw [eqB_t hk]
      conv => whnf
      rw [hp0, hp, hd, if_pos hk, if_neg (by omega)]
    · rw [eqB_f hk]
      conv => whnf
      rw [if_neg hk] at hd
      exact ⟨n - 1, by omega, none, i + 1, by omega, hp.trans hd, ⟨rfl, rfl, hw, trivial⟩, rfl⟩
  · rw [hlr, ltB_f (by omega)]
    have : i = sks.length := by omega
    subst this
    conv => whnf
    rw [hp0, hp, if_pos hnil]
end Go.Cod

namespace Go.Cod
open Go Go.Proofs
set_option maxRecDepth 10000

/-- The step that undoes a step that can be done. -/
def backS (t : T) (s : Stp) : Stp :=
  if s.kind = 1 then ⟨2, s.node.id, 0, TZ, []⟩
  else if s.kind = 2 then ⟨1, overT t s.id 0, place0 s.id (kidOf t (overT t s.id 0)).kids, kidOf t s.id, []⟩
  else if s.kind = 3 then ⟨3, s.id, 0, TZ, (kidOf t s.id).text⟩
  else ⟨4, s.id, 0, TZ, (kidOf t s.id).kind⟩
def SZ : Stp := ⟨0, 0, 0, TZ, []⟩
def backT (t : T) (s : Stp) : Stp × Bool := if okT t = true then (match doT t s with
  | some _ => (backS t s, true)
  | none => (SZ, false)) else (SZ, false)
theorem kidOf_small {t : T} (ht : t.Small) (x : Int) : (kidOf t x).Small := by
  unfold kidOf
  cases h : fT t x with
  | none => exact TZ_small
  | some s => exact fT_small t x ht s h
set_option maxHeartbeats 8000000 in
theorem specStepBack_pure (t : T) (s : Stp) (ht : t.Small) (hz : t.size ≤ 1048577) (hs : s.node.Small) (hsz : s.node.size ≤ 1048577) (htx : s.text.length ≤ 1048576) :
    Pure Try.prog 25 [.agg t.cells, .agg s.cells] (· = .tup [.agg (backT t s).1.cells, .bool (backT t s).2]) := by
  have f1 := specTreeOk_pure t ht (by rw [T.ids_size]; exact hz)
  have f2 : okT t = true → Pure Try.prog 52 [.agg t.cells, .agg s.cells] (· = doR t (doT t s)) := fun h => l4Do_pure t s ht (by have := okT_size h; omega) ((okT_iff' t).1 h).2.1 hs hsz htx
  have f3 := l2Find_pure t ht s.id
  rw [fR_kidOf] at f3
  have f4 := l2Over_pure t ht s.id 0
  have f5 := l4Place_pure t ht s.id
  have f6 := l2Copy_pure (kidOf t s.id) (kidOf_small ht s.id)
  have hb : backT t s = if okT t = true then (match doT t s with
    | some _ => (backS t s, true)
    | none => (SZ, false)) else (SZ, false) := rfl
  have hbs : backS t s = if s.kind = 1 then ⟨2, s.node.id, 0, TZ, []⟩
    else if s.kind = 2 then ⟨1, overT t s.id 0, place0 s.id (kidOf t (overT t s.id 0)).kids, kidOf t s.id, []⟩
    else if s.kind = 3 then ⟨3, s.id, 0, TZ, (kidOf t s.id).text⟩
    else ⟨4, s.id, 0, TZ, (kidOf t s.id).kind⟩ := rfl
  generalize backT t s = r at *
  generalize backS t s = bk at *
  generalize okT t = okt at *
  generalize doT t s = d at *
  simp only [Stp.cells] at f2 ⊢
  obtain ⟨kind, sid, at_, node, text⟩ := s
  simp only at f2 f3 f4 f5 f6 hbs ⊢
  generalize place0 sid (kidOf t (overT t sid 0)).kids = pl at *
  generalize overT t sid 0 = ov at *
  generalize kidOf t sid = x at *
  generalize (fT t sid).isSome = fb at *
  obtain ⟨tid, tk, tx, tks⟩ := t
  obtain ⟨nid, nk, nx, nks⟩ := node
  obtain ⟨xid, xk, xx, xks⟩ := x
  refine pure_of_awp good Try.func25 rfl (by kernel_rfl) (by decide) ?_
  conv => whnf
  refine .inl (f1.mono ?_)
  rintro r' rfl
  cases okt with
  | false =>
    conv => whnf
    rw [hb]; rfl
  | true =>
    conv => whnf
    refine .inl ((f2 rfl).mono ?_)
    rintro r' rfl
    rw [if_pos rfl] at hb
    cases d with
    | none =>
      simp only at hb
      subst hb
      conv => whnf
      rfl
    | some y =>
      simp only at hb
      subst hb
      obtain ⟨yid, yk, yx, yks⟩ := y
      conv => whnf
      refine .inl (f3.mono ?_)
      rintro r' rfl
      conv => whnf
      by_cases k1 : kind = 1
      · rw [if_pos k1] at hbs
        subst hbs
        rw [eqB_t k1]
        conv => whnf
        rfl
      rw [if_neg k1] at hbs
      rw [eqB_f k1]
      conv => whnf
      by_cases k2 : kind = 2
      · rw [if_pos k2] at hbs
        subst hbs
        rw [eqB_t k2]
        conv => whnf
        repeat (first
          | (refine And.intro (by
                  (conv => whnf)
                  first
                    | rfl
                    | exact ⟨_, .inl f4, rfl⟩
                    | exact ⟨_, .inl f5, rfl⟩
                    | exact ⟨_, .inl f6, rfl⟩) ?_
             conv => whnf)
          | (refine ⟨_, .inl f4, ?_⟩
             conv => whnf)
          | (refine ⟨_, .inl f5, ?_⟩
             conv => whnf)
          | (refine ⟨_, .inl f6, ?_⟩
             conv => whnf))
        rfl
      rw [if_neg k2] at hbs
      rw [eqB_f k2]
      conv => whnf
      by_cases k3 : kind = 3
      · rw [if_pos k3] at hbs
        subst hbs
        rw [eqB_t k3]
        conv => whnf
        rfl
      · rw [if_neg k3] at hbs
        subst hbs
        rw [eqB_f k3]
        conv => whnf
        rfl
end Go.Cod

namespace Go.Cod
open Go Go.Proofs
set_option maxRecDepth 10000

theorem mem_of_fT {t s : T} {i : Int} (h : fT t i = some s) : i ∈ t.ids := Decidable.byContradiction fun hc => by rw [(fT_none t i).2 hc] at h; cases h
end Go.Cod

namespace Go.Cod
open Go Go.Proofs
set_option maxRecDepth 10000

end Go.Cod

namespace Go.Cod
open Go Go.Proofs
set_option maxRecDepth 10000

mutual
theorem overT_no : ∀ (t : T) (x ov : Int), x ∉ t.ids → overT t x ov = -1
  | .mk id kind text kids, x, ov, h => by
    simp only [T.ids, List.mem_cons, not_or] at h
    simp only [overT, if_neg (Ne.symm h.1)]
    exact overL_no kids x id h.2
theorem overL_no : ∀ (ts : List T) (x ov : Int), x ∉ T.idsL ts → overL ts x ov = -1
  | [], _, _, _ => rfl
  | t :: ts, x, ov, h => by
    simp only [T.idsL, List.mem_append, not_or] at h
    simp only [overL, overT_no t x ov h.1]
    rw [if_neg (by omega)]
    exact overL_no ts x ov h.2
end
mutual
/-- What is over something bears it as a kid. -/
theorem overT_kid : ∀ (t : T) (x ov : Int), t.ids.Nodup → (∀ i ∈ t.ids, 0 ≤ i) → x ∈ T.idsL t.kids → 0 ≤ overT t x ov ∧ ∃ s k, fT t (overT t x ov) = some s ∧ k ∈ s.kids ∧ k.id = x
  | .mk id kind text kids, x, ov, hn, hp, hx => by
    have hx : x ∈ T.idsL kids := hx
    have hn' := hn
    simp only [T.ids, List.nodup_cons] at hn
    have hne : ¬ id = x := fun e => hn.1 (e ▸ hx)
    have h0 : 0 ≤ id := hp id (by simp [T.ids])
    simp only [overT, if_neg hne]
    rcases overL_kid kids x id hn.2 (fun i h => hp i (by simp [T.ids, h])) h0 hx with ⟨h1, k, h2, h3⟩ | ⟨h0', s, k, h1, h2, h3⟩
    · rw [h1]
      exact ⟨h0, .mk id kind text kids, k, by simp only [fT, if_true], h2, h3⟩
    · have h4 : overL kids x id ∈ T.idsL kids := Decidable.byContradiction fun hc => by rw [(fL_none kids _).2 hc] at h1; cases h1
      have h5 : ¬ id = overL kids x id := fun e => hn.1 (by rw [e]; exact h4)
      exact ⟨h0', s, k, by simp only [fT, if_neg h5]; exact h1, h2, h3⟩
theorem overL_kid : ∀ (ts : List T) (x ov : Int), (T.idsL ts).Nodup → (∀ i ∈ T.idsL ts, 0 ≤ i) → 0 ≤ ov → x ∈ T.idsL ts → (overL ts x ov = ov ∧ ∃ k ∈ ts, k.id = x) ∨ (0 ≤ overL ts x ov ∧ ∃ s k, fL ts (overL ts x ov) = some s ∧ k ∈ s.kids ∧ k.id = x)
  | [], _, _, _, _, _, h => by simp [T.idsL] at h
  | t :: ts, x, ov, hn, hp, h0, hx => by
    simp only [T.idsL, List.nodup_append] at hn
    have hp1 : ∀ i ∈ t.ids, 0 ≤ i := fun i h => hp i (by simp [T.idsL, h])
    have hp2 : ∀ i ∈ T.idsL ts, 0 ≤ i := fun i h => hp i (by simp [T.idsL, h])
    simp only [T.idsL, List.mem_append] at hx
    simp only [overL]
    by_cases hxt : x ∈ t.ids
    · by_cases he : t.id = x
      · have h1 : overT t x ov = ov := by
          cases t with
          | mk id kind text kids =>
          have he : id = x := he
          simp only [overT, if_pos he]
        rw [h1, if_pos h0]
        exact .inl ⟨rfl, t, List.mem_cons_self .., he⟩
      · have hk : x ∈ T.idsL t.kids := by
          cases t with
          | mk id kind text kids =>
          simp only [T.ids, List.mem_cons] at hxt
          exact hxt.resolve_left (fun e => he e.symm)
        obtain ⟨h1, s, k, h2, h3, h4⟩ := overT_kid t x ov hn.1 hp1 hk
        rw [if_pos h1]
        exact .inr ⟨h1, s, k, by simp only [fL, h2], h3, h4⟩
    · have hx2 : x ∈ T.idsL ts := hx.resolve_left hxt
      rw [overT_no t x ov hxt, if_neg (by omega)]
      rcases overL_kid ts x ov hn.2.1 hp2 h0 hx2 with ⟨h1, k, h2, h3⟩ | ⟨h0', s, k, h1, h2, h3⟩
      · exact .inl ⟨h1, k, List.mem_cons_of_mem _ h2, h3⟩
      · have h4 : overL ts x ov ∈ T.idsL ts := Decidable.byContradiction fun hc => by rw [(fL_none ts _).2 hc] at h1; cases h1
        have h5 : overL ts x ov ∉ t.ids := fun hc => hn.2.2 _ hc _ h4 rfl
        exact .inr ⟨h0', s, k, by simp only [fL, (fT_none t _).2 h5]; exact h1, h2, h3⟩
end
end Go.Cod

namespace Go.Cod
open Go Go.Proofs
set_option maxRecDepth 10000

end Go.Cod

namespace Go.Cod
open Go Go.Proofs
set_option maxRecDepth 10000

/- What has a number in a tree that is only read. -/
def ptR : Option T → V
  | some s => .rptr s.cells
  | none => .raw (.pointer none)
set_option maxHeartbeats 4000000 in
theorem treeIn_p1 (id : Int) (kind text : List UInt8) (kids : List T) (hl : kids.length ≤ 1048576) (x : Int) (hT : ∀ t' ∈ kids, Pure Try.prog 98 [.rptr t'.cells, .int .i64 x] (· = ptR (fT t' x))) :
    Pure Try.prog 98 [.rptr (T.mk id kind text kids).cells, .int .i64 x] (· = ptR (fT (.mk id kind text kids) x)) := by
  have hlr := Go.Cod.rows_len kids
  have hid' : fT (.mk id kind text kids) x = if id = x then some (.mk id kind text kids) else fL kids x := rfl
  generalize hr : fT (.mk id kind text kids) x = res at *
  refine pure_of_awp good Try.func98 rfl (by kernel_rfl) (by decide) ?_
  conv => whnf
  by_cases hid : id = x
  · rw [if_pos hid] at hid'
    rw [eqB_t hid]
    conv => whnf
    rw [hid']
    rfl
  rw [eqB_f hid]
  rw [if_neg hid] at hid'
  conv => whnf
  refine loop_drop (fun n fr st => ∃ (i : Nat), n + i = kids.length ∧ st = [] ∧ fL kids x = fL (kids.drop i) x ∧ Holds fr [(0, .rptr [.int .i64 id, .str kind, .str text, .sl (T.rows kids)]), (1, .int .i64 x), (18, .int .i64 kids.length), (19, .int .i64 i)]) kids.length none
    ⟨0, rfl, rfl, by simp, rfl, rfl, by rw [← hlr]; rfl, rfl, trivial⟩ ?_
  rintro n fr st ⟨i, hi, rfl, hsk, hh⟩
  obtain ⟨fr, rfl⟩ := hh.split
  clear hh
  conv => whnf
  by_cases hlt : i < kids.length
  · rw [ltB_t (by omega)]
    conv => whnf
    have hgi := Go.Cod.rows_get kids i hlt
    have hd := fL_drop kids i hlt x
    have hTi := hT kids[i] (List.getElem_mem _)
    generalize kids[i] = k at *
    generalize fT k x = r at hd hTi
    cases k with
    | mk ki kk kx kks =>
    refine ⟨by omega, T.rows kids, _, 4, rfl, hgi, rfl, rfl, ?_⟩
    conv => whnf
    refine .inl (hTi.mono ?_)
    rintro r' rfl
    rcases r with _ | ⟨ri, rk, rx, rks⟩
    · conv => whnf
      refine ⟨n - 1, by omega, none, i + 1, by omega, rfl, hsk.trans hd, ⟨rfl, rfl, rfl, ?_, trivial⟩⟩
      show V.int .i64 (IntKind.i64.wrap (i + 1)) = _
      rw [wrap64 (by omega) (by omega)]; simp
    · conv => whnf
      rw [hid', hsk, hd]
      rfl
  · rw [ltB_f (by omega)]
    conv => whnf
    rw [hid', hsk, List.drop_eq_nil_of_le (by omega)]
    rfl
theorem treeIn_plain (t : T) (ht : t.Small) (x : Int) : Pure Try.prog 98 [.rptr t.cells, .int .i64 x] (· = ptR (fT t x)) := by
  induction ht with
  | @mk id kind text kids g1 g2 g3 g4 g5 ih => exact treeIn_p1 id kind text kids g4 x ih
/-- .. from a box of one's own. -/
def ptB (t : T) (x : Int) : V := if t.id = x then .ptr 0 0 0 else ptR (fT t x)
set_option maxHeartbeats 4000000 in
theorem treeIn_box (t : T) (ht : t.Small) (x : Int) : Full Try.prog noY 98 [.ptr 0 0 0, .int .i64 x] [⟨[t.cells], 4, true, true, true, .cell⟩] fun o st' => o = .ret (ptB t x) ∧ st' = [⟨[t.cells], 4, true, true, true, .cell⟩] := by
  cases ht with
  | @mk id kind text kids g1 g2 g3 g4 g5 =>
  have hlr := Go.Cod.rows_len kids
  have hid' : ptB (.mk id kind text kids) x = if id = x then .ptr 0 0 0 else ptR (fL kids x) := by
    unfold ptB
    by_cases h : id = x
    · rw [if_pos h, if_pos (show (T.mk id kind text kids).id = x from h)]
    · rw [if_neg h, if_neg (show ¬ (T.mk id kind text kids).id = x from h)]
      simp only [fT, if_neg h]
  generalize hr : ptB (.mk id kind text kids) x = res at *
  refine full_of_awp good Try.func98 rfl (by kernel_rfl) (by decide) ?_
  conv => whnf
  by_cases hid : id = x
  · rw [if_pos hid] at hid'
    rw [eqB_t hid]
    conv => whnf
    refine ⟨[], false, ?_⟩
    conv => whnf
    exact ⟨by rw [hid'], rfl⟩
  rw [eqB_f hid]
  rw [if_neg hid] at hid'
  conv => whnf
  refine loop_drop (fun n fr st => ∃ (i : Nat), n + i = kids.length ∧ st = [⟨[[.int .i64 id, .str kind, .str text, .sl (T.rows kids)]], 4, true, true, true, .cell⟩] ∧ fL kids x = fL (kids.drop i) x ∧ Holds fr [(0, .ptr 0 0 0), (1, .int .i64 x), (18, .int .i64 kids.length), (19, .int .i64 i)]) kids.length none
    ⟨0, rfl, rfl, by simp, rfl, rfl, by rw [← hlr]; rfl, rfl, trivial⟩ ?_
  rintro n fr st ⟨i, hi, rfl, hsk, hh⟩
  obtain ⟨fr, rfl⟩ := hh.split
  clear hh
  conv => whnf
  by_cases hlt : i < kids.length
  · rw [ltB_t (by omega)]
    conv => whnf
    have hgi := Go.Cod.rows_get kids i hlt
    have hd := fL_drop kids i hlt x
    have hTi := treeIn_plain kids[i] (g5 _ (List.getElem_mem _)) x
    generalize kids[i] = k at *
    generalize fT k x = r at hd hTi
    cases k with
    | mk ki kk kx kks =>
    refine ⟨by omega, T.rows kids, _, 4, rfl, hgi, rfl, rfl, ?_⟩
    conv => whnf
    refine .inl (hTi.mono ?_)
    rintro r' rfl
    rcases r with _ | ⟨ri, rk, rx, rks⟩
    · conv => whnf
      refine ⟨n - 1, by omega, none, i + 1, by omega, rfl, hsk.trans hd, ⟨rfl, rfl, rfl, ?_, trivial⟩⟩
      show V.int .i64 (IntKind.i64.wrap (i + 1)) = _
      rw [wrap64 (by omega) (by omega)]; simp
    · conv => whnf
      refine ⟨[], false, ?_⟩
      conv => whnf
      refine ⟨?_, rfl⟩
      rw [hid', hsk, hd]
      rfl
  · rw [ltB_f (by omega)]
    conv => whnf
    refine ⟨[], false, ?_⟩
    conv => whnf
    refine ⟨?_, rfl⟩
    rw [hid', hsk, List.drop_eq_nil_of_le (by omega)]
    rfl
end Go.Cod

namespace Go.Cod
open Go Go.Proofs
set_option maxRecDepth 10000

def lz : LT := .mk 0 [] [] none []
/- What undoes a deed. -/
theorem putUndo (sid at_ : Int) (node t : T) : Full Try.prog noY 152 [.agg ([.int .i64 sid, .int .i64 at_] ++ node.cells), .agg t.cells] [] fun o st' => o = .ret (.agg (stpC ⟨2, node.id, 0, TZ, []⟩ lz)) ∧ st' = [] := by
  obtain ⟨ni, nk, nx, nks⟩ := node
  obtain ⟨ti, tk, tx, tks⟩ := t
  show Full Try.prog noY _ [.agg [.int .i64 sid, .int .i64 at_, .int .i64 ni, .str nk, .str nx, .sl (T.rows nks)], .agg [.int .i64 ti, .str tk, .str tx, .sl (T.rows tks)]] _ _
  refine full_of_awp good Try.func152 rfl (by kernel_rfl) (by decide) ?_
  conv => whnf
  refine ⟨[], true, ?_⟩
  conv => whnf
  exact ⟨rfl, rfl⟩
set_option maxHeartbeats 4000000 in
theorem textUndo (sid : Int) (w : List UInt8) (t x : T) (ht : t.Small) (hf : fT t sid = some x) : Full Try.prog noY 163 [.agg [.int .i64 sid, .str w], .agg t.cells] [] fun o st' => o = .ret (.agg (stpC ⟨3, sid, 0, TZ, x.text⟩ lz)) ∧ st' = [] := by
  have f1 := treeIn_box t ht sid
  have hp : ptB t sid = if t.id = sid then .ptr 0 0 0 else .rptr x.cells := by unfold ptB; rw [hf]; rfl
  have hx : t.id = sid → t = x := fun h => by
    obtain ⟨a, b, c, d⟩ := t
    simp only [T.id] at h
    simp only [fT, if_pos h, Option.some.injEq] at hf
    exact hf
  generalize ptB t sid = pb at *
  obtain ⟨ti, tk, tx, tks⟩ := t
  obtain ⟨xi, xk, xx, xks⟩ := x
  refine full_of_awp good Try.func163 rfl (by kernel_rfl) (by decide) ?_
  by_cases hid : ti = sid
  case' pos =>
    rw [if_pos (show (T.mk ti tk tx tks).id = sid from hid)] at hp
    cases hx hid
  case' neg => rw [if_neg (show ¬ (T.mk ti tk tx tks).id = sid from hid)] at hp
  all_goals
    subst hp
    conv => whnf
    refine ⟨[1], false, ?_⟩
    conv => whnf
    refine f1.mono ?_
    rintro o st' ⟨rfl, rfl⟩
    conv => whnf
    repeat (refine And.intro (by
              (conv => whnf)
              rfl) ?_
            conv => whnf)
    refine ⟨[], true, ?_⟩
    conv => whnf
    exact ⟨rfl, rfl⟩
set_option maxHeartbeats 4000000 in
theorem kindUndo (sid : Int) (w : List UInt8) (t x : T) (ht : t.Small) (hf : fT t sid = some x) : Full Try.prog noY 165 [.agg [.int .i64 sid, .str w], .agg t.cells] [] fun o st' => o = .ret (.agg (stpC ⟨4, sid, 0, TZ, x.kind⟩ lz)) ∧ st' = [] := by
  have f1 := treeIn_box t ht sid
  have hp : ptB t sid = if t.id = sid then .ptr 0 0 0 else .rptr x.cells := by unfold ptB; rw [hf]; rfl
  have hx : t.id = sid → t = x := fun h => by
    obtain ⟨a, b, c, d⟩ := t
    simp only [T.id] at h
    simp only [fT, if_pos h, Option.some.injEq] at hf
    exact hf
  generalize ptB t sid = pb at *
  obtain ⟨ti, tk, tx, tks⟩ := t
  obtain ⟨xi, xk, xx, xks⟩ := x
  refine full_of_awp good Try.func165 rfl (by kernel_rfl) (by decide) ?_
  by_cases hid : ti = sid
  case' pos =>
    rw [if_pos (show (T.mk ti tk tx tks).id = sid from hid)] at hp
    cases hx hid
  case' neg => rw [if_neg (show ¬ (T.mk ti tk tx tks).id = sid from hid)] at hp
  all_goals
    subst hp
    conv => whnf
    refine ⟨[1], false, ?_⟩
    conv => whnf
    refine f1.mono ?_
    rintro o st' ⟨rfl, rfl⟩
    conv => whnf
    repeat (refine And.intro (by
              (conv => whnf)
              rfl) ?_
            conv => whnf)
    refine ⟨[], true, ?_⟩
    conv => whnf
    exact ⟨rfl, rfl⟩
set_option maxHeartbeats 8000000 in
theorem cutUndo (sid : Int) (t ps x : T) (ht : t.Small) (hz : ps.kids.length ≤ 1048576) (hxs : x.Small) (ov j : Int) (ho : treeOver t sid = ov) (hp : fT t ov = some ps) (hj : placeGo sid 0 ps.kids = j) (hf : fT t sid = some x) (hne : t.id ≠ sid) (es : List (List V)) :
    Full Try.prog noY 159 [.agg [.int .i64 sid], .agg t.cells] [poolO es] fun o st' => ∃ l : LT, l.erase = x ∧ l.Wf ∧ o = .ret (.agg (stpC ⟨1, ov, j, x, []⟩ l)) ∧ st' = [poolO (es ++ l.ents)] := by
  have f0 := implTreeOver_pure t ht sid
  have f1 := treeIn_box t ht ov
  have f2 := treeIn_box t ht sid
  have f3 := treePlace_pure ps sid hz
  have f4 := treeCopy_acc x hxs es
  rw [ho] at f0
  rw [hj] at f3
  have h2 : ptB t sid = .rptr x.cells := by unfold ptB; rw [hf, if_neg hne]; rfl
  rw [h2] at f2
  have h1 : ptB t ov = if t.id = ov then .ptr 0 0 0 else .rptr ps.cells := by unfold ptB; rw [hp]; rfl
  have hx : t.id = ov → t = ps := fun h => by
    obtain ⟨a, b, c, d⟩ := t
    simp only [T.id] at h
    simp only [fT, if_pos h, Option.some.injEq] at hp
    exact hp
  clear hz ho hp hj hf
  generalize ptB t ov = pb at *
  obtain ⟨ti, tk, tx, tks⟩ := t
  obtain ⟨pi, pk, px, pks⟩ := ps
  obtain ⟨xi, xk, xx, xks⟩ := x
  refine full_of_awp good Try.func159 rfl (by kernel_rfl) (by decide) ?_
  by_cases hid : ti = ov
  case' pos =>
    rw [if_pos (show (T.mk ti tk tx tks).id = ov from hid)] at h1
    cases hx hid
  case' neg => rw [if_neg (show ¬ (T.mk ti tk tx tks).id = ov from hid)] at h1
  all_goals
    subst h1
    conv => whnf
    refine .inl (f0.mono ?_)
    rintro r rfl
    conv => whnf
    refine ⟨[2], false, ?_⟩
    conv => whnf
    refine f1.mono ?_
    rintro o st' ⟨rfl, rfl⟩
    conv => whnf
    repeat (refine And.intro (by
              (conv => whnf)
              rfl) ?_
            conv => whnf)
    refine .inl (f3.mono ?_)
    rintro r rfl
    conv => whnf
    repeat (refine And.intro (by
              (conv => whnf)
              rfl) ?_
            conv => whnf)
    refine ⟨[2], false, ?_⟩
    conv => whnf
    refine f2.mono ?_
    rintro o st' ⟨rfl, rfl⟩
    conv => whnf
    repeat (refine And.intro (by
              (conv => whnf)
              rfl) ?_
            conv => whnf)
    refine .inr (.inl ⟨[0], true, ?_⟩)
    conv => whnf
    refine f4.mono ?_
    rintro o st' ⟨l, l1, l2, rfl, rfl⟩
    obtain ⟨li, lk, lx, lh, lks⟩ := l
    rcases lh with _ | ⟨lb, lc⟩
    all_goals
      conv => whnf
      refine ⟨[], true, ?_⟩
      conv => whnf
      exact ⟨_, l1, l2, rfl, rfl⟩
end Go.Cod

namespace Go.Cod
open Go Go.Proofs
set_option maxRecDepth 10000

/-- What is known of a step that can be done, and of what undoes it. -/
theorem back_facts {t y : T} {s : Stp} (hok : okT t = true) (hd : doT t s = some y) :
    (s.kind = 1 ∧ backS t s = ⟨2, s.node.id, 0, TZ, []⟩) ∨
    (s.kind = 2 ∧ ∃ (ps x : T) (ov j : Int), treeOver t s.id = ov ∧ fT t ov = some ps ∧ placeGo s.id 0 ps.kids = j ∧ fT t s.id = some x ∧ t.id ≠ s.id ∧ backS t s = ⟨1, ov, j, x, []⟩) ∨
    (s.kind = 3 ∧ ∃ x, fT t s.id = some x ∧ backS t s = ⟨3, s.id, 0, TZ, x.text⟩) ∨
    (s.kind = 4 ∧ ∃ x, fT t s.id = some x ∧ backS t s = ⟨4, s.id, 0, TZ, x.kind⟩) := by
  obtain ⟨h1, h2⟩ := doT_ok hd
  obtain ⟨p1, p2, p3⟩ := (okT_iff' t).1 hok
  unfold editT at h1
  cases hf : fT t s.id with
  | none => rw [hf] at h1; cases h1
  | some x =>
    rw [hf] at h1
    simp only at h1
    have hkx : kidOf t s.id = x := by unfold kidOf; rw [hf]; rfl
    by_cases k1 : s.kind = 1
    · exact .inl ⟨k1, by unfold backS; rw [if_pos k1]⟩
    refine .inr ?_
    rw [if_neg k1] at h1
    by_cases k2 : s.kind = 2
    · refine .inl ⟨k2, ?_⟩
      rw [if_pos k2] at h1
      split at h1
      · cases h1
      split at h1
      · cases h1
      rename_i hne
      have hp : ∀ i ∈ t.ids, 0 ≤ i := plainT_ids t 1 p1
      have hm : s.id ∈ t.ids := mem_of_fT hf
      have hmk : s.id ∈ T.idsL t.kids := by
        cases t with
        | mk id kind text kids =>
        simp only [T.ids, List.mem_cons] at hm
        exact hm.resolve_left hne
      obtain ⟨_, ps, k, e2, e3, e4⟩ := overT_kid t s.id 0 p2 hp hmk
      have hov : treeOver t s.id = overT t s.id 0 := by
        unfold treeOver spotOf
        rw [if_pos hok, (overT_eq t s.id 0 1 (by omega) hp).1]
      have e6 : s.id ∈ ps.kids.map T.id := List.mem_map.2 ⟨k, e3, e4⟩
      obtain ⟨j, _, j2⟩ := placeGo_in s.id ps.kids 0 e6
      have hkp : kidOf t (overT t s.id 0) = ps := by unfold kidOf; rw [e2]; rfl
      refine ⟨ps, x, _, _, hov, e2, rfl, rfl, fun h => hne h.symm, ?_⟩
      unfold backS
      rw [if_neg k1, if_pos k2, hkp, hkx]
      unfold place0
      rw [if_neg (by omega)]
    refine .inr ?_
    rw [if_neg k2] at h1
    by_cases k3 : s.kind = 3
    · exact .inl ⟨k3, x, rfl, by unfold backS; rw [if_neg k1, if_neg k2, if_pos k3, hkx]⟩
    rw [if_neg k3] at h1
    by_cases k4 : s.kind = 4
    · exact .inr ⟨k4, x, rfl, by unfold backS; rw [if_neg k1, if_neg k2, if_neg k3, hkx]⟩
    rw [if_neg k4] at h1
    split at h1 <;> cases h1
/-- A step whose tree is in a pool, and whether it is one. -/
def BackR (r : Stp × Bool) (o : Out) (st' : St) : Prop := ∃ l : LT, l.erase = r.1.node ∧ l.Wf ∧ o = .ret (.tup [.agg (stpC r.1 l), .bool r.2]) ∧ st' = [poolO l.ents]
set_option maxHeartbeats 8000000 in
theorem implStepBack_acc (t : T) (s : Stp) (ht : t.Small) (hs : s.node.Small) (htx : s.text.length ≤ 1048576) : Full Try.prog noY 27 [.agg t.cells, .agg s.cells] [poolO []] (BackR (backT t s)) := by
  have f1 := implStepDo_pure t s ht hs htx
  have f2 := stepDeedOf_pure s hs
  have hb : backT t s = if okT t = true then (match doT t s with
    | some _ => (backS t s, true)
    | none => (SZ, false)) else (SZ, false) := rfl
  have hst : stepT t s = if okT t = true then (match doT t s with
    | some y => (y, true)
    | none => (t, false)) else (TZ, false) := rfl
  have hF := fun y h1 h2 => back_facts (t := t) (y := y) (s := s) h1 h2
  have hu1 := fun sid at_ => putUndo sid at_ s.node t
  have hu2 := cutUndo s.id t
  have hu3 := fun x h => textUndo s.id s.text t x ht h
  have hu4 := fun x h => kindUndo s.id s.text t x ht h
  have hsm := fun x h => fT_small t x ht h
  have hkl : ∀ ps : T, ps.Small → ps.kids.length ≤ 1048576 := fun ps h => by cases h with | mk g1 g2 g3 g4 g5 => exact g4
  generalize hdk : deedOk s = dk at *
  generalize hdv : deedV s = dv at *
  unfold deedV at hdv
  generalize backT t s = bk at *
  generalize stepT t s = sd at *
  generalize hbs : backS t s = bs at *
  generalize okT t = okt at *
  generalize doT t s = d at *
  simp only [Stp.cells] at f1 f2 ⊢
  obtain ⟨kind, sid, at_, node, text⟩ := s
  simp only at f1 f2 hF hu1 hu2 hu3 hu4 hdv ⊢
  have hk : ∀ y, okt = true → d = some y → (kind = 1 ∧ bs = ⟨2, node.id, 0, TZ, []⟩ ∧ dv = .iface 118 (.agg ([.int .i64 sid, .int .i64 at_] ++ node.cells))) ∨ (kind = 2 ∧ ∃ (ps x : T) (ov j : Int), treeOver t sid = ov ∧ fT t ov = some ps ∧ placeGo sid 0 ps.kids = j ∧ fT t sid = some x ∧ t.id ≠ sid ∧ bs = ⟨1, ov, j, x, []⟩ ∧ dv = .iface 120 (.agg [.int .i64 sid])) ∨
      (kind = 3 ∧ ∃ x, fT t sid = some x ∧ bs = ⟨3, sid, 0, TZ, x.text⟩ ∧ dv = .iface 122 (.agg [.int .i64 sid, .str text])) ∨ (kind = 4 ∧ ∃ x, fT t sid = some x ∧ bs = ⟨4, sid, 0, TZ, x.kind⟩ ∧ dv = .iface 124 (.agg [.int .i64 sid, .str text])) := fun y h1 h2 => by
    rcases hF y h1 h2 with ⟨k, h⟩ | ⟨k, ps, x, ov, j, h3, h4, h5, h6, h7, h⟩ | ⟨k, x, h6, h⟩ | ⟨k, x, h6, h⟩
    · exact .inl ⟨k, h, by rw [← hdv, if_pos k]⟩
    · exact .inr (.inl ⟨k, ps, x, ov, j, h3, h4, h5, h6, h7, h, by rw [← hdv, if_neg (by omega), if_pos k]⟩)
    · exact .inr (.inr (.inl ⟨k, x, h6, h, by rw [← hdv, if_neg (by omega), if_neg (by omega), if_pos k]⟩))
    · exact .inr (.inr (.inr ⟨k, x, h6, h, by rw [← hdv, if_neg (by omega), if_neg (by omega), if_neg (by omega), if_pos k]⟩))
  clear hF hdv
  have hnt : ∀ (a : T), a = t → t = a := fun a h => h.symm
  obtain ⟨tid, tk, tx, tks⟩ := t
  cases okt with
  | false =>
    rw [if_neg (by simp)] at hb hst
    subst hb hst
    obtain ⟨nid, nk, nx, nks⟩ := node
    refine full_of_awp good Try.func27 rfl (by kernel_rfl) (by decide) ?_
    conv => whnf
    refine .inl (f1.mono ?_)
    rintro r rfl
    conv => whnf
    refine ⟨[], true, ?_⟩
    conv => whnf
    exact ⟨lz, rfl, by simp [lz, LT.Wf, LT.WfL], rfl, rfl⟩
  | true =>
    rw [if_pos rfl] at hb hst
    cases hdd : d with
    | none =>
      rw [hdd] at hb hst
      simp only at hb hst
      subst hb hst
      obtain ⟨nid, nk, nx, nks⟩ := node
      refine full_of_awp good Try.func27 rfl (by kernel_rfl) (by decide) ?_
      conv => whnf
      refine .inl (f1.mono ?_)
      rintro r rfl
      conv => whnf
      refine ⟨[], true, ?_⟩
      conv => whnf
      exact ⟨lz, rfl, by simp [lz, LT.Wf, LT.WfL], rfl, rfl⟩
    | some y =>
      rw [hdd] at hb hst
      simp only at hb hst
      subst hb hst
      have hk := hk y rfl hdd
      obtain ⟨yid, yk, yx, yks⟩ := y
      rcases hk with ⟨k, rfl, rfl⟩ | ⟨k, ps, x, ov, j, h3, h4, h5, h6, h7, rfl, rfl⟩ | ⟨k, x, h6, rfl, rfl⟩ | ⟨k, x, h6, rfl, rfl⟩
      · have hu1 := hu1 sid at_
        obtain ⟨nid, nk, nx, nks⟩ := node
        refine full_of_awp good Try.func27 rfl (by kernel_rfl) (by decide) ?_
        conv => whnf
        refine .inl (f1.mono ?_)
        rintro r rfl
        conv => whnf
        refine .inl (f2.mono ?_)
        rintro r rfl
        conv => whnf
        refine ⟨152, rfl, ?_⟩
        conv => whnf
        refine .inr (.inl ⟨[], true, ?_⟩)
        conv => whnf
        refine hu1.mono ?_
        rintro o st' ⟨rfl, rfl⟩
        conv => whnf
        refine ⟨[], true, ?_⟩
        conv => whnf
        exact ⟨lz, rfl, by simp [lz, LT.Wf, LT.WfL], rfl, rfl⟩
      · have hu2 := hu2 ps x ht (hkl ps (hsm _ _ h4)) (hsm _ _ h6) ov j h3 h4 h5 h6 h7 []
        clear h3 h4 h5 h6 h7
        obtain ⟨nid, nk, nx, nks⟩ := node
        obtain ⟨xid, xk, xx, xks⟩ := x
        refine full_of_awp good Try.func27 rfl (by kernel_rfl) (by decide) ?_
        conv => whnf
        refine .inl (f1.mono ?_)
        rintro r rfl
        conv => whnf
        refine .inl (f2.mono ?_)
        rintro r rfl
        conv => whnf
        refine ⟨159, rfl, ?_⟩
        conv => whnf
        refine .inr (.inl ⟨[0], true, ?_⟩)
        conv => whnf
        refine hu2.mono ?_
        rintro o st' ⟨l, l1, l2, rfl, rfl⟩
        obtain ⟨li, lk, lx, lh, lks⟩ := l
        rcases lh with _ | ⟨lb, lc⟩
        all_goals
          conv => whnf
          refine ⟨[], true, ?_⟩
          conv => whnf
          exact ⟨_, l1, l2, rfl, rfl⟩
      · have hu3 := hu3 x h6
        obtain ⟨nid, nk, nx, nks⟩ := node
        obtain ⟨xid, xk, xx, xks⟩ := x
        refine full_of_awp good Try.func27 rfl (by kernel_rfl) (by decide) ?_
        conv => whnf
        refine .inl (f1.mono ?_)
        rintro r rfl
        conv => whnf
        refine .inl (f2.mono ?_)
        rintro r rfl
        conv => whnf
        refine ⟨163, rfl, ?_⟩
        conv => whnf
        refine .inr (.inl ⟨[], true, ?_⟩)
        conv => whnf
        refine hu3.mono ?_
        rintro o st' ⟨rfl, rfl⟩
        conv => whnf
        refine ⟨[], true, ?_⟩
        conv => whnf
        exact ⟨lz, rfl, by simp [lz, LT.Wf, LT.WfL], rfl, rfl⟩
      · have hu4 := hu4 x h6
        obtain ⟨nid, nk, nx, nks⟩ := node
        obtain ⟨xid, xk, xx, xks⟩ := x
        refine full_of_awp good Try.func27 rfl (by kernel_rfl) (by decide) ?_
        conv => whnf
        refine .inl (f1.mono ?_)
        rintro r rfl
        conv => whnf
        refine .inl (f2.mono ?_)
        rintro r rfl
        conv => whnf
        refine ⟨165, rfl, ?_⟩
        conv => whnf
        refine .inr (.inl ⟨[], true, ?_⟩)
        conv => whnf
        refine hu4.mono ?_
        rintro o st' ⟨rfl, rfl⟩
        conv => whnf
        refine ⟨[], true, ?_⟩
        conv => whnf
        exact ⟨lz, rfl, by simp [lz, LT.Wf, LT.WfL], rfl, rfl⟩
/-- .. just made. -/
def NewQ (r : Stp × Bool) (o : Out) (st' : St) : Prop := ∃ l : LT, l.erase = r.1.node ∧ l.Wf ∧ (l.ents.map labOf).Nodup ∧ o = .ret (.tup [.agg (stpC r.1 l), .bool r.2]) ∧ st' = [poolO l.ents]
theorem implStepBack_new (t : T) (s : Stp) (ht : t.Small) (hs : s.node.Small) (htx : s.text.length ≤ 1048576) : Full Try.prog noY 27 [.agg t.cells, .agg s.cells] [] (NewQ (backT t s)) := by
  refine (Full.givenEnd (Full.start (implStepBack_acc t s ht hs htx))).mono ?_
  rintro o st' ⟨⟨l, h1, h2, rfl, rfl⟩, hl⟩
  exact ⟨l, h1, h2, hl.nodup (k := 0) rfl, rfl, rfl⟩
theorem implStepBack_pure (t : T) (s : Stp) (ht : t.Small) (hs : s.node.Small) (htx : s.text.length ≤ 1048576) : Pure Try.prog 27 [.agg t.cells, .agg s.cells] (· = .tup [.agg (backT t s).1.cells, .bool (backT t s).2]) := by
  refine Full.freeze (implStepBack_new t s ht hs htx) ?_
  rintro o st' ⟨l, h1, h2, h3, rfl, rfl⟩
  have hv := viewL2 (y' := .bool (backT t s).2) (stp_view (backT t s).1 l h1 h2 (es := l.ents) (fun _ h => h)) (.same _)
  refine ⟨_, _, .tup [.agg (backT t s).1.cells, .bool (backT t s).2], rfl, rfl, .tup hv.1 hv.2, ?_, rfl⟩
  cases l with
  | mk id kind text h kids => rcases h with _ | ⟨b, c⟩ <;> rfl
end Go.Cod

namespace Go.Cod
open Go Go.Proofs Go.ChangeShapes Go.WideShapes Go.ChangeAt Go.RowKit
set_option maxRecDepth 10000

theorem backS_sm {t : T} (ht : t.Small) (s : Stp) : (backS t s).node.Small ∧ (backS t s).text.length ≤ 1048576 := by
  have hk := kidOf_small ht s.id
  have hz : (0 : Nat) ≤ 1048576 := by omega
  unfold backS
  generalize kidOf t s.id = x at *
  cases hk with
  | @mk id kind text kids g1 g2 g3 g4 g5 =>
  split
  · exact ⟨TZ_small, hz⟩
  split
  · exact ⟨.mk g1 g2 g3 g4 g5, hz⟩
  split
  · exact ⟨TZ_small, by simpa [T.text] using g3⟩
  · exact ⟨TZ_small, by simpa [T.kind] using g2⟩
end Go.Cod

namespace Go.Cod
open Go Go.Proofs
set_option maxRecDepth 10000

/- A drawn tree is even: where a number stands twice, the later ones bear as many kids as the first. -/
end Go.Cod

namespace Go.Cod
open Go Go.Proofs
set_option maxRecDepth 10000

end Go.Cod

namespace Go.Cod
open Go Go.Proofs Go.ChangeShapes Go.WideShapes Go.ChangeAt Go.RowKit
set_option maxRecDepth 10000

theorem prows_snoc (ls : List Stp) (s : Stp) : prows (ls ++ [s]) = prows ls ++ [s.cells] := by simp [prows]
def lsV (ls : List Stp) (m : Nat) : V := match ls with
  | [] => .nils
  | _ :: _ => .own m
def lsO (ls : List Stp) : List O := match ls with
  | [] => []
  | _ :: _ => [⟨prows ls, 8, true, true, false, .cell⟩]
theorem lsO_snoc (s0 : Stp) (ls : List Stp) (s : Stp) : lsO ((s0 :: ls) ++ [s]) = [⟨prows (s0 :: ls) ++ [s.cells], 8, true, true, false, .cell⟩] := by
  rw [← prows_snoc]; rfl
end Go.Cod

namespace Go.Cod
open Go Go.Proofs
set_option maxRecDepth 10000

/- A slice of one's own is turned. -/
def RevAt (rows : List (List V)) (i : Nat) (rs : List (List V)) : Prop := rs.length = rows.length ∧ ∀ k : Nat, k < rows.length → rs[k]? = if k < i ∨ rows.length ≤ k + i then rows[rows.length - 1 - k]? else rows[k]?
theorem RevAt.zero (rows : List (List V)) : RevAt rows 0 rows := ⟨rfl, fun k hk => by rw [if_neg (by omega)]⟩
theorem RevAt.next {rows rs : List (List V)} {i : Nat} (h : RevAt rows i rs) (hi : i + i + 1 < rows.length) (a b : List V) (ha : rs[i]? = some a) (hb : rs[rows.length - 1 - i]? = some b) :
    RevAt rows (i + 1) ((rs.set i b).set (rows.length - 1 - i) a) := by
  obtain ⟨h1, h2⟩ := h
  have ea := h2 i (by omega)
  have eb := h2 (rows.length - 1 - i) (by omega)
  rw [if_neg (by omega), ha] at ea
  rw [if_neg (by omega), hb] at eb
  refine ⟨by simp [h1], fun k hk => ?_⟩
  rw [List.getElem?_set, List.getElem?_set]
  simp only [List.length_set, h1]
  by_cases e1 : rows.length - 1 - i = k
  · rw [if_pos e1, if_pos (by omega), if_pos (by omega), ea]
    congr 1; omega
  rw [if_neg e1]
  by_cases e2 : i = k
  · rw [if_pos e2, if_pos (by omega), if_pos (by omega), eb]
    congr 1; omega
  rw [if_neg e2, h2 k hk]
  by_cases e3 : k < i ∨ rows.length ≤ k + i
  · rw [if_pos e3, if_pos (by omega)]
  · rw [if_neg e3, if_neg (by omega)]
theorem RevAt.done {rows rs : List (List V)} {i : Nat} (h : RevAt rows i rs) (hi : rows.length ≤ i + i + 1) : rs = rows.reverse := by
  refine List.ext_getElem? fun k => ?_
  by_cases hk : k < rows.length
  · rw [h.2 k hk, List.getElem?_reverse hk]
    split
    · rfl
    · congr 1; omega
  · rw [List.getElem?_eq_none (by rw [h.1]; omega), List.getElem?_eq_none (by simp; omega)]
def ownS (rows : List (List V)) : O := ⟨rows, 8, true, true, false, .cell⟩
set_option maxHeartbeats 8000000 in
theorem reverse_full (rows : List (List V)) (hr : ∀ r ∈ rows, ∃ s : Stp, r = s.cells) (hl : rows.length ≤ 1048576) : Full Try.prog noY 65 [.own 0] [ownS rows] fun o st' => o = .ret (.tup []) ∧ st' = [ownS rows.reverse] := by
  refine full_of_awp good Try.func65 rfl (by kernel_rfl) (by decide) ?_
  conv => whnf
  refine loop_drop (fun n fr st => ∃ (i : Nat) (rs : List (List V)), n + i = rows.length ∧ RevAt rows i rs ∧ (∀ r ∈ rs, ∃ s : Stp, r = s.cells) ∧ st = [ownS rs] ∧ Holds fr [(0, .own 0), (2, .int .i64 i), (3, .int .i64 ((rows.length : Int) - 1 - i))]) rows.length none
    ⟨0, rows, rfl, RevAt.zero rows, hr, rfl, rfl, rfl, by
      show V.int .i64 (IntKind.i64.wrap ((rows.length : Int) - 1)) = _
      rw [wrap64 (by omega) (by omega)]; simp, trivial⟩ ?_
  rintro n fr st ⟨i, rs, hi, hra, hrs, rfl, hh⟩
  obtain ⟨fr, rfl⟩ := hh.split
  clear hh
  conv => whnf
  by_cases hlt : (i : Int) < (rows.length : Int) - 1 - i
  · rw [ltB_t hlt]
    have hln := hra.1
    obtain ⟨a, ha⟩ : ∃ a, rs[i]? = some a := ⟨rs[i], by rw [List.getElem?_eq_getElem]⟩
    obtain ⟨b, hb⟩ : ∃ b, rs[rows.length - 1 - i]? = some b := ⟨rs[rows.length - 1 - i], by rw [List.getElem?_eq_getElem]⟩
    have hn := hra.next (by omega) a b ha hb
    obtain ⟨sa, rfl⟩ := hrs a (List.mem_of_getElem? ha)
    obtain ⟨sb, rfl⟩ := hrs b (List.mem_of_getElem? hb)
    have e1 : ((rows.length : Int) - 1 - i).toNat = rows.length - 1 - i := by omega
    have hb' : rs[((rows.length : Int) - 1 - i).toNat]? = some sb.cells := by rw [e1]; exact hb
    have ha' : rs[(i : Int).toNat]? = some sa.cells := ha
    have hb2 : ∀ X, (rs.set (i : Int).toNat X)[((rows.length : Int) - 1 - i).toNat]? = some sb.cells := fun X => by
      rw [e1, show (i : Int).toNat = i from rfl, List.getElem?_set_ne (by omega)]; exact hb
    have hrs2 : ∀ r ∈ (rs.set i sb.cells).set (rows.length - 1 - i) sa.cells, ∃ s : Stp, r = s.cells := fun r hr => by
      rcases List.mem_or_eq_of_mem_set hr with h | h
      · rcases List.mem_or_eq_of_mem_set h with h | h
        · exact hrs r h
        · exact ⟨_, h⟩
      · exact ⟨_, h⟩
    obtain ⟨ak, ai, aa, ⟨a1, a2, a3, a4⟩, a5⟩ := sa
    obtain ⟨bk, bi, ba, ⟨b1, b2, b3, b4⟩, b5⟩ := sb
    conv => whnf
    repeat (first
      | (refine And.intro (by
              (conv => whnf)
              first
                | rfl
                | exact ⟨by omega, rs, _, 8, rfl, hb', rfl, rfl, rfl⟩
                | exact ⟨by omega, rs, _, 8, rfl, ha', rfl, rfl, rfl⟩
                | exact AtRow_intro _ hb' rfl
                | exact AtRow_intro _ ha' rfl) ?_
         conv => whnf)
      | (refine ⟨by omega, rs, _, 8, rfl, hb', rfl, rfl, ?_⟩
         conv => whnf)
      | (refine ⟨by omega, rs, _, 8, rfl, ha', rfl, rfl, ?_⟩
         conv => whnf)
      | (refine AtRow_intro _ hb' ?_
         conv => whnf)
      | (refine AtRow_intro _ ha' ?_
         conv => whnf))
    refine ⟨by omega, _, _, 8, rfl, hb2 _, rfl, rfl, ?_⟩
    conv => whnf
    refine AtRow_intro _ (hb2 _) ?_
    conv => whnf
    refine ⟨n - 1, by omega, none, i + 1, _, by omega, hn, hrs2, ?_, rfl, ?_, ?_, trivial⟩
    · rw [← e1]
      rfl
    · show V.int .i64 (IntKind.i64.wrap ((i : Int) + 1)) = _
      rw [wrap64 (by omega) (by omega)]; simp
    · show V.int .i64 (IntKind.i64.wrap ((rows.length : Int) - 1 - i - 1)) = _
      rw [wrap64 (by omega) (by omega)]; congr 1; omega
  · rw [ltB_f (by omega)]
    conv => whnf
    refine ⟨[], false, ?_⟩
    conv => whnf
    exact ⟨rfl, by rw [hra.done (by omega)]; rfl⟩
end Go.Cod

namespace Go.Cod
open Go Go.Proofs
set_option maxRecDepth 10000

/- The steps that undo steps; the last one first. -/
def backsGo : T → List Stp → List Stp → Option (List Stp)
  | _, [], acc => some acc
  | x, s :: ls, acc => match doT x s with
    | some y => backsGo y ls (backS x s :: acc)
    | none => none
def backsT (t : T) (ls : List Stp) : List Stp × Bool := if okT t = true then (match backsGo t ls [] with
  | some r => (r, true)
  | none => ([], false)) else ([], false)
theorem backsGo_drop (x : T) (ls acc : List Stp) (i : Nat) (h : i < ls.length) : backsGo x (ls.drop i) acc = match doT x ls[i] with
    | some y => backsGo y (ls.drop (i + 1)) (backS x ls[i] :: acc)
    | none => none := by
  rw [List.drop_eq_getElem_cons h]; rfl
theorem backsGo_len : ∀ (ls : List Stp) (x : T) (acc r : List Stp), backsGo x ls acc = some r → r.length = ls.length + acc.length
  | [], x, acc, r, h => by cases h; simp
  | s :: ls, x, acc, r, h => by
    simp only [backsGo] at h
    cases hd : doT x s with
    | none => rw [hd] at h; cases h
    | some y =>
      rw [hd] at h
      have := backsGo_len ls y _ r h
      simp only [List.length_cons] at this ⊢
      omega
theorem backS_Sm {t : T} (ht : t.Small) (hok : okT t = true) (s : Stp) : (backS t s).Sm := by
  have h := backS_sm ht s
  refine ⟨h.1, ?_, h.2⟩
  have h20 := okT_size hok
  have hz0 : TZ.size ≤ 1048577 := by simp [TZ, T.size, T.sizeL]
  have hk : (kidOf t s.id).size ≤ 1048577 := by
    unfold kidOf
    cases h : fT t s.id with
    | none => exact hz0
    | some x => have := fT_size t s.id x h; show x.size ≤ _; omega
  unfold backS
  split
  · exact hz0
  split
  · exact hk
  split
  · exact hz0
  · exact hz0
theorem backsGo_Sm : ∀ (ls : List Stp) (x : T) (acc r : List Stp), x.Small → okT x = true → (∀ s ∈ ls, s.Sm) → (∀ s ∈ acc, s.Sm) → backsGo x ls acc = some r → ∀ s ∈ r, s.Sm
  | [], x, acc, r, _, _, _, ha, h => by cases h; exact ha
  | s :: ls, x, acc, r, hx, hok, hl, ha, h => by
    simp only [backsGo] at h
    cases hd : doT x s with
    | none => rw [hd] at h; cases h
    | some y =>
      rw [hd] at h
      obtain ⟨y1, y2⟩ := doT_small hx hok (hl s (by simp)) hd
      refine backsGo_Sm ls y _ r y1 y2 (fun u hu => hl u (List.mem_cons_of_mem _ hu)) (fun u hu => ?_) h
      rcases List.mem_cons.1 hu with rfl | hu
      · exact backS_Sm hx hok s
      · exact ha u hu
theorem prows_rev (ls : List Stp) : (prows ls).reverse = prows ls.reverse := by simp [prows]
theorem prows_cells (ls : List Stp) : ∀ r ∈ prows ls, ∃ s : Stp, r = s.cells := fun r hr => by
  obtain ⟨s, _, rfl⟩ := List.mem_map.1 hr
  exact ⟨s, rfl⟩
end Go.Cod

namespace Go.Cod
open Go Go.Proofs
set_option maxRecDepth 10000

theorem reverse_nil : Pure Try.prog 65 [.sl []] (· = .tup []) := by
  refine pure_of_awp good Try.func65 rfl (by kernel_rfl) (by decide) ?_
  conv => whnf
  refine loop_drop (fun n fr st => st = [] ∧ Holds fr [(2, .int .i64 0), (3, .int .i64 (-1))]) 0 none ⟨rfl, rfl, rfl, trivial⟩ ?_
  rintro n fr st ⟨rfl, hh⟩
  obtain ⟨fr, rfl⟩ := hh.split
  clear hh
  conv => whnf
  rw [ltB_f (by omega)]
  conv => whnf
set_option maxHeartbeats 8000000 in
theorem implStepsBack_pure (t : T) (ls : List Stp) (ht : t.Small) (hls : ∀ s ∈ ls, s.Sm) (hl : ls.length ≤ 1048576) : Pure Try.prog 32 [.agg t.cells, .sl (prows ls)] (· = .tup [.sl (prows (backsT t ls).1), .bool (backsT t ls).2]) := by
  have f1 := implTreeOk t ht
  have hst : backsT t ls = if okT t = true then (match backsGo t ls [] with
    | some r => (r, true)
    | none => ([], false)) else ([], false) := rfl
  have hlen := prows_len ls
  have hget := prows_get ls
  generalize backsT t ls = res at *
  generalize prows ls = rows at *
  cases hok : okT t with
  | false =>
    rw [hok] at f1 hst
    rw [if_neg (by simp)] at hst
    subst hst
    cases t with
    | mk tid tk tx tks =>
    refine pure_of_awp good Try.func32 rfl (by kernel_rfl) (by decide) ?_
    conv => whnf
    refine .inl (f1.mono ?_)
    rintro r rfl
    conv => whnf
    rfl
  | true =>
    rw [hok] at f1 hst
    rw [if_pos rfl] at hst
    have hgo : backsGo t ls [] = backsGo t (ls.drop 0) [] := rfl
    rw [hgo] at hst
    have hD : ∀ x acc i (h : i < ls.length), backsGo x (ls.drop i) acc = match doT x ls[i] with
        | some y => backsGo y (ls.drop (i + 1)) (backS x ls[i] :: acc)
        | none => none := fun x acc i h => backsGo_drop x ls acc i h
    have hE : ∀ x acc, backsGo x (ls.drop ls.length) acc = some acc := fun x acc => by rw [List.drop_of_length_le (by omega)]; rfl
    have hok' := hok
    have ht' := ht
    cases t with
    | mk tid tk tx tks =>
    refine pure_of_awp good Try.func32 rfl (by kernel_rfl) (by decide) ?_
    conv => whnf
    refine .inl (f1.mono ?_)
    rintro r rfl
    conv => whnf
    refine loop_drop (fun n fr st => ∃ (i : Nat) (x : T) (acc : List Stp), n + i = ls.length ∧ acc.length = i ∧ x.Small ∧ okT x = true ∧ res = (match backsGo x (ls.drop i) acc.reverse with
          | some r => (r, true)
          | none => ([], false)) ∧ st = [bxO x.cells 4] ++ lsO acc ∧
        Holds fr [(2, .ptr 0 0 0), (6, lsV acc 1), (14, .sl rows), (15, .int .i64 ls.length), (16, .int .i64 i)]) ls.length none
      ⟨0, _, [], rfl, rfl, ht', hok', hst, rfl, rfl, rfl, rfl, by rw [← hlen]; rfl, rfl, trivial⟩ ?_
    rintro n fr st ⟨i, x, acc, hi, hal, x1, x2, x3, rfl, hh⟩
    obtain ⟨fr, rfl⟩ := hh.split
    clear hh
    have hpl := prows_len acc
    conv => whnf
    by_cases hlt : i < ls.length
    · rw [ltB_t (by omega)]
      have hg := hget i hlt
      have hs := hls ls[i] (List.getElem_mem _)
      have hd := hD x acc.reverse i hlt
      have f3 := implStepDo_pure x ls[i] x1 hs.1 hs.2.2
      have f4 := implStepBack_pure x ls[i] x1 hs.1 hs.2.2
      have hsm := fun y => doT_small (y := y) x1 x2 hs
      have hw : V.int .i64 (IntKind.i64.wrap ((i : Int) + 1)) = .int .i64 ((i + 1 : Nat) : Int) := by rw [wrap64 (by omega) (by omega)]; simp
      have hyes : ∀ y, doT x ls[i] = some y → stepT x ls[i] = (y, true) ∧ backT x ls[i] = (backS x ls[i], true) := fun y h => by unfold stepT backT; rw [if_pos x2, if_pos x2, h]; exact ⟨rfl, rfl⟩
      have hno : doT x ls[i] = none → stepT x ls[i] = (x, false) ∧ backT x ls[i] = (SZ, false) := fun h => by unfold stepT backT; rw [if_pos x2, if_pos x2, h]; exact ⟨rfl, rfl⟩
      generalize backS x ls[i] = bk at *
      generalize ls[i] = s at *
      obtain ⟨sk, sid, sat, sn, stx⟩ := s
      cases sn with
      | mk ni nk nx nks =>
      obtain ⟨bk1, bk2, bk3, ⟨b1, b2, b3, b4⟩, bk4⟩ := bk
      have hsn := lsO_snoc
      cases hdo : doT x ⟨sk, sid, sat, .mk ni nk nx nks, stx⟩ with
      | none =>
        rw [(hno hdo).2] at f4
        rw [hdo] at hd
        rw [hd] at x3
        cases x with
        | mk xi xk xx xks =>
        rcases acc with _ | ⟨a0, acc⟩
        all_goals
          conv => whnf
          refine ⟨by omega, rows, _, 8, rfl, hg, rfl, rfl, ?_⟩
          conv => whnf
          refine .inl (f4.mono ?_)
          rintro r rfl
          conv => whnf
          rw [x3]
          rfl
      | some y =>
        rw [(hyes y hdo).1] at f3
        rw [(hyes y hdo).2] at f4
        rw [hdo] at hd
        rw [hd] at x3
        obtain ⟨y1, y2⟩ := hsm y hdo
        cases x with
        | mk xi xk xx xks =>
        cases y with
        | mk yi yk yx yks =>
        rcases acc with _ | ⟨a0, acc⟩
        all_goals
          conv => whnf
          refine ⟨by omega, rows, _, 8, rfl, hg, rfl, rfl, ?_⟩
          conv => whnf
          refine .inl (f4.mono ?_)
          rintro r rfl
          conv => whnf
          refine ⟨fun m hm => by rw [List.mem_singleton.1 hm]; rfl, ?_⟩
          conv => whnf
          first
            | (refine ⟨by show 1 * 104 ≤ _; omega, .inr ⟨(by intro e; cases e), ?_⟩⟩
               conv => whnf
               refine .inl (f3.mono ?_)
               rintro r rfl
               conv => whnf
               refine ⟨n - 1, by omega, some [0, 4], ?_⟩
               conv => whnf
               exact ⟨i + 1, .mk yi yk yx yks, [⟨bk1, bk2, bk3, .mk b1 b2 b3 b4, bk4⟩], by omega, by simp at hal ⊢; omega, y1, y2, x3, rfl, rfl, rfl, rfl, rfl, hw, trivial⟩)
            | (refine ⟨by
                 show ((prows (a0 :: acc)).length + 1) * 104 ≤ _
                 rw [hpl]; omega, ?_⟩
               conv => whnf
               refine .inl (f3.mono ?_)
               rintro r rfl
               conv => whnf
               refine ⟨n - 1, by omega, some [0, 5], ?_⟩
               conv => whnf
               refine ⟨i + 1, .mk yi yk yx yks, (a0 :: acc) ++ [⟨bk1, bk2, bk3, .mk b1 b2 b3 b4, bk4⟩], by omega, by rw [List.length_append, hal]; rfl, y1, y2, ?_, ?_, rfl, rfl, rfl, rfl, hw, trivial⟩
               · rw [List.reverse_append]; exact x3
               · rw [hsn]; rfl)
    · rw [ltB_f (by omega)]
      have hil : i = ls.length := by omega
      subst hil
      rw [hE] at x3
      have hrv := prows_rev acc
      rcases acc with _ | ⟨a0, acc⟩
      · cases x with
        | mk xi xk xx xks =>
        conv => whnf
        refine .inl (reverse_nil.mono ?_)
        rintro r rfl
        conv => whnf
        rw [x3]
        rfl
      · have hrev := reverse_full (prows (a0 :: acc)) (prows_cells _) (by rw [hpl, hal]; omega)
        cases x with
        | mk xi xk xx xks =>
        conv => whnf
        refine ⟨[1], false, ?_⟩
        conv => whnf
        refine hrev.mono ?_
        rintro o st' ⟨rfl, rfl⟩
        conv => whnf
        rw [x3, hrv]
        rfl
end Go.Cod

namespace Go.Cod
open Go Go.Proofs
set_option maxRecDepth 10000

def spR (r : List Stp × Bool) : V := .tup [.sl (prows r.1), .bool r.2]
set_option maxHeartbeats 8000000 in
theorem specStepsBack_pure (t : T) (ls : List Stp) (ht : t.Small) (hz : t.size ≤ 1048577) (hls : ∀ s ∈ ls, s.Sm) (hl : ls.length ≤ 1048576) : Pure Try.prog 31 [.agg t.cells, .sl (prows ls)] (· = spR (backsT t ls)) := by
  have f1 := specTreeOk_pure t ht (by rw [T.ids_size]; exact hz)
  have hst : backsT t ls = if okT t = true then (match backsGo t ls [] with
    | some r => (r, true)
    | none => ([], false)) else ([], false) := rfl
  have hlen := prows_len ls
  have hget := prows_get ls
  generalize backsT t ls = res at *
  generalize prows ls = rows at *
  cases hok : okT t with
  | false =>
    rw [hok] at f1 hst
    rw [if_neg (by simp)] at hst
    subst hst
    cases t with
    | mk tid tk tx tks =>
    refine pure_of_awp good Try.func31 rfl (by kernel_rfl) (by decide) ?_
    conv => whnf
    refine .inl (f1.mono ?_)
    rintro r rfl
    conv => whnf
    rfl
  | true =>
    rw [hok] at f1 hst
    rw [if_pos rfl] at hst
    have hgo : backsGo t ls [] = backsGo t (ls.drop 0) [] := rfl
    rw [hgo] at hst
    have hD : ∀ x acc i (h : i < ls.length), backsGo x (ls.drop i) acc = match doT x ls[i] with
        | some y => backsGo y (ls.drop (i + 1)) (backS x ls[i] :: acc)
        | none => none := fun x acc i h => backsGo_drop x ls acc i h
    have hE : ∀ x acc, backsGo x (ls.drop ls.length) acc = some acc := fun x acc => by rw [List.drop_of_length_le (by omega)]; rfl
    have hok' := hok
    have ht' := ht
    cases t with
    | mk tid tk tx tks =>
    refine pure_of_awp good Try.func31 rfl (by kernel_rfl) (by decide) ?_
    conv => whnf
    refine .inl (f1.mono ?_)
    rintro r rfl
    conv => whnf
    refine loop_drop (fun n fr st => ∃ (i : Nat) (x : T) (acc : List Stp), n + i = ls.length ∧ acc.length = i ∧ x.Small ∧ okT x = true ∧ res = (match backsGo x (ls.drop i) acc with
          | some r => (r, true)
          | none => ([], false)) ∧ st = [bxO [.int .i64 tid, .str tk, .str tx, .sl (T.rows tks)] 4, bxO x.cells 4] ++ lsO acc ∧
        Holds fr [(1, .sl rows), (2, .ptr 0 0 0), (6, lsV acc 2), (7, .ptr 1 0 0), (8, .int .i64 i)]) ls.length none
      ⟨0, _, [], rfl, rfl, ht', hok', hst, rfl, rfl, rfl, rfl, rfl, rfl, trivial⟩ ?_
    rintro n fr st ⟨i, x, acc, hi, hal, x1, x2, x3, rfl, hh⟩
    obtain ⟨fr, rfl⟩ := hh.split
    clear hh
    have hpl := prows_len acc
    by_cases hlt : i < ls.length
    · have hg := hget i hlt
      have hs := hls ls[i] (List.getElem_mem _)
      have hd := hD x acc i hlt
      have f3 := l4Do_pure x ls[i] x1 (by have := okT_size x2; omega) ((okT_iff' _).1 x2).2.1 hs.1 hs.2.1 hs.2.2
      have f4 := specStepBack_pure x ls[i] x1 (by have := okT_size x2; omega) hs.1 hs.2.1 hs.2.2
      have hsm := fun y => doT_small (y := y) x1 x2 hs
      have hw : V.int .i64 (IntKind.i64.wrap ((i : Int) + 1)) = .int .i64 ((i + 1 : Nat) : Int) := by rw [wrap64 (by omega) (by omega)]; simp
      have hyes : ∀ y, doT x ls[i] = some y → backT x ls[i] = (backS x ls[i], true) := fun y h => by unfold backT; rw [if_pos x2, h]
      have hno : doT x ls[i] = none → backT x ls[i] = (SZ, false) := fun h => by unfold backT; rw [if_pos x2, h]
      generalize backS x ls[i] = bk at *
      generalize ls[i] = s at *
      obtain ⟨sk, sid, sat, sn, stx⟩ := s
      cases sn with
      | mk ni nk nx nks =>
      obtain ⟨bk1, bk2, bk3, ⟨b1, b2, b3, b4⟩, bk4⟩ := bk
      cases hdo : doT x ⟨sk, sid, sat, .mk ni nk nx nks, stx⟩ with
      | none =>
        rw [hno hdo] at f4
        rw [hdo] at hd
        rw [hd] at x3
        cases x with
        | mk xi xk xx xks =>
        rcases acc with _ | ⟨a0, acc⟩
        all_goals
          conv => whnf
          rw [hlen, ltB_t (by omega)]
          conv => whnf
          repeat (first
            | (refine And.intro (by
                    (conv => whnf)
                    first
                      | rfl
                      | exact ⟨_, .inl f4, rfl⟩
                      | exact ⟨by omega, rows, _, 8, rfl, hg, rfl, rfl, rfl⟩
                      | exact ⟨by omega, rows, _, 8, rfl, hg, rfl, rfl, _, .inl f4, rfl⟩) ?_
               conv => whnf)
            | (refine ⟨by omega, rows, _, 8, rfl, hg, rfl, rfl, ?_⟩
               conv => whnf)
            | (refine ⟨_, .inl f4, ?_⟩
               conv => whnf))
          rw [x3]
          rfl
      | some y =>
        rw [hyes y hdo] at f4
        rw [hdo] at hd f3
        rw [hd] at x3
        have f3 : Pure Try.prog 52 _ (· = .tup [.agg y.cells, .bool true]) := f3
        obtain ⟨y1, y2⟩ := hsm y hdo
        cases x with
        | mk xi xk xx xks =>
        cases y with
        | mk yi yk yx yks =>
        rcases acc with _ | ⟨a0, acc⟩
        all_goals
          conv => whnf
          rw [hlen, ltB_t (by omega)]
          conv => whnf
          repeat (first
            | (refine And.intro (by
                    (conv => whnf)
                    first
                      | rfl
                      | exact ⟨_, .inl f4, rfl⟩
                      | exact ⟨_, .inl f3, rfl⟩
                      | exact ⟨by omega, rows, _, 8, rfl, hg, rfl, rfl, rfl⟩
                      | exact ⟨by omega, rows, _, 8, rfl, hg, rfl, rfl, _, .inl f4, rfl⟩
                      | exact ⟨by omega, rows, _, 8, rfl, hg, rfl, rfl, _, .inl f3, rfl⟩) ?_
               conv => whnf)
            | (refine ⟨by omega, rows, _, 8, rfl, hg, rfl, rfl, ?_⟩
               conv => whnf)
            | (refine ⟨_, .inl f4, ?_⟩
               conv => whnf)
            | (refine ⟨_, .inl f3, ?_⟩
               conv => whnf))
          skip
        · refine ⟨fun m hm => (by cases hm), ?_⟩
          conv => whnf
          refine ⟨by show (1 + 0) * 104 ≤ _; omega, ?_⟩
          conv => whnf
          refine ⟨n - 1, by omega, some [0, 1, 5], ?_⟩
          conv => whnf
          exact ⟨i + 1, .mk yi yk yx yks, [⟨bk1, bk2, bk3, .mk b1 b2 b3 b4, bk4⟩], by omega, by simp at hal ⊢; omega, y1, y2, x3, rfl, rfl, rfl, rfl, rfl, hw, trivial⟩
        · refine ⟨fun m hm => by
             obtain ⟨s, e⟩ := prows_cells (a0 :: acc) m hm
             obtain ⟨_, _, _, ⟨_, _, _, _⟩, _⟩ := s
             rw [e]; rfl, ?_⟩
          conv => whnf
          refine ⟨by
                 show (1 + (prows (a0 :: acc)).length) * 104 ≤ _
                 rw [hpl]; omega, ?_⟩
          conv => whnf
          refine ⟨n - 1, by omega, some [0, 1, 6], ?_⟩
          conv => whnf
          exact ⟨i + 1, .mk yi yk yx yks, ⟨bk1, bk2, bk3, .mk b1 b2 b3 b4, bk4⟩ :: a0 :: acc, by omega, by simp at hal ⊢; omega, y1, y2, x3, rfl, rfl, rfl, rfl, rfl, hw, trivial⟩
    · have hil : i = ls.length := by omega
      subst hil
      rw [hE] at x3
      rcases acc with _ | ⟨a0, acc⟩
      all_goals
        cases x with
        | mk xi xk xx xks =>
        conv => whnf
        rw [hlen, ltB_f (by omega)]
        conv => whnf
        rw [x3]
        rfl
end Go.Cod

namespace Go.Cod
open Go Go.Proofs
set_option maxRecDepth 10000

end Go.Cod

namespace Go.Cod
open Go Go.Proofs Go.ChangeShapes Go.WideShapes Go.ChangeAt Go.RowKit
set_option maxRecDepth 10000

theorem ownK : ownKnob Try.prog.godebug = none := by kernel_rfl
end Go.Cod

namespace Go.Cod
open Go Go.Proofs Go.ChangeShapes Go.WideShapes Go.ChangeAt Go.RowKit
set_option maxRecDepth 10000

theorem backsT_Sm {t : T} {ls : List Stp} (ht : t.Small) (hs : ∀ s ∈ ls, s.Sm) : ∀ s ∈ (backsT t ls).1, s.Sm := by
  unfold backsT
  split
  · rename_i hok
    cases h : backsGo t ls [] with
    | none => intro s hs; cases hs
    | some r => exact backsGo_Sm ls t [] r ht hok hs (fun s hs => by cases hs) h
  · intro s hs; cases hs
theorem backsT_len (t : T) (ls : List Stp) : (backsT t ls).1.length = if (backsT t ls).2 = true then ls.length else 0 := by
  unfold backsT
  split
  · cases h : backsGo t ls [] with
    | none => rfl
    | some r => have := backsGo_len ls t [] r h; simpa using this
  · rfl
end Go.Cod

namespace Go.Cod
open Go Go.Proofs Go.ChangeShapes Go.WideShapes Go.ChangeAt Go.RowKit
set_option maxRecDepth 10000

/- Lists of steps as arguments. -/
theorem cells_list : ∀ (es : List (List V)), (∀ r ∈ es, ∃ s : Stp, r = s.cells ∧ s.Ok) → ∃ ls : List Stp, es = prows ls ∧ ∀ s ∈ ls, s.Ok
  | [], _ => ⟨[], rfl, fun s h => by cases h⟩
  | r :: rs, h => by
    obtain ⟨s, rfl, hs⟩ := h r (by simp)
    obtain ⟨ls, rfl, hl⟩ := cells_list rs fun r hr => h r (List.mem_cons_of_mem _ hr)
    refine ⟨s :: ls, rfl, fun u hu => ?_⟩
    rcases List.mem_cons.1 hu with rfl | hu
    · exact hs
    · exact hl u hu
theorem argSteps {H : Type} {enc : TypeId × Value → H} {W : World} : ReadsA enc Try.prog W 25 fun x => ∃ ls : List Stp, x = .sl (prows ls) ∧ (∀ s ∈ ls, s.Ok) ∧ ls.length ≤ maxLen := by
  intro base v d p hv h
  obtain ⟨x, ⟨es, hx, hl, hr⟩, hrep⟩ := readsA_slice (S := fun vs => ∃ es, vs = [.sl es] ∧ es.length ≤ maxLen ∧ ∀ r ∈ es, (∃ s : Stp, r = s.cells ∧ s.Ok) ∧ r.length = Try.prog.cellsOf 42 ∧ (∀ v ∈ r, v.leaf = true) ∧ V.clean.cleanL 0 r = true)
    Try.underlying25 (fun n => reads_slice Try.underlying25 (by decide +kernel) fun m _ => reads_step m) base v d p hv h
  cases hx
  obtain ⟨ls, rfl, hs⟩ := cells_list es fun r h => (hr r h).1
  exact ⟨_, ⟨ls, rfl, hs, by rw [prows_len] at hl; exact hl⟩, hrep⟩
def szSg : List Stp → Int → Int
  | [], l => l
  | s :: ls, l => if szStp s l < 0 then -1 else szSg ls (szStp s l)
def szLs (ls : List Stp) (left : Int) : Int := if left - ls.length < 0 then -1 else szSg ls (left - ls.length)
theorem szSg_drop (ls : List Stp) (i : Nat) (h : i < ls.length) (l : Int) : szSg (ls.drop i) l = if szStp ls[i] l < 0 then -1 else szSg (ls.drop (i + 1)) (szStp ls[i] l) := by
  rw [List.drop_eq_getElem_cons h]; rfl
theorem szSg_small : ∀ (ls : List Stp) (l : Int), (∀ s ∈ ls, s.Ok) → 0 ≤ l → l ≤ 1048576 → 0 ≤ szSg ls l → ∀ s ∈ ls, s.Sm
  | [], _, _, _, _, _ => fun s h => by cases h
  | s :: ls, l, ho, h0, h1, h => by
    simp only [szSg] at h
    split at h
    · omega
    rename_i hn
    have hle := szStp_le s l h0
    have hs := stp_small s (ho s (by simp)) l h1 h0 (by omega)
    intro u hu
    rcases List.mem_cons.1 hu with rfl | hu
    · exact ⟨hs.1, hs.2.2, hs.2.1⟩
    · exact szSg_small ls (szStp s l) (fun u hu => ho u (List.mem_cons_of_mem _ hu)) (by omega) (by omega) h u hu
theorem szLs_small (ls : List Stp) (left : Int) (ho : ∀ s ∈ ls, s.Ok) (h1 : left ≤ 1048576) (h : 0 ≤ szLs ls left) : (∀ s ∈ ls, s.Sm) ∧ ls.length ≤ 1048576 := by
  unfold szLs at h
  split at h
  · omega
  exact ⟨szSg_small ls _ ho (by omega) (by omega) h, by omega⟩
set_option maxHeartbeats 4000000 in
theorem szSteps_pure (ls : List Stp) (ho : ∀ s ∈ ls, s.Ok) (hl : ls.length ≤ maxLen) (left : Int) (h0 : 0 ≤ left) (h1 : left ≤ 1048576) : Pure Try.prog 14 [.sl (prows ls), .int .i64 left] (· = .int .i64 (szLs ls left)) := by
  have hlen := prows_len ls
  have hget := prows_get ls
  have hd : szLs ls left = if left - ls.length < 0 then -1 else szSg (ls.drop 0) (left - ls.length) := rfl
  have hml : (ls.length : Int) ≤ 9223372036854775807 := by simp only [maxLen] at hl; omega
  have hml2 : ls.length < 9223372036854775807 ∨ left - ls.length < 0 := by omega
  generalize szLs ls left = res at *
  generalize prows ls = rows at *
  refine pure_of_awp good Try.func14 rfl (by kernel_rfl) (by decide) ?_
  conv => whnf
  rw [hlen, wrap64 (by omega) (by omega)]
  by_cases a1 : left - ls.length < 0
  · rw [ltB_t a1]
    conv => whnf
    rw [hd, if_pos a1]
  rw [ltB_f (by omega)]
  conv => whnf
  rw [if_neg a1] at hd
  refine loop_intro (fun n fr st => ∃ (i : Nat) (l : Int), n + i = ls.length ∧ 0 ≤ l ∧ l ≤ 1048576 ∧ res = szSg (ls.drop i) l ∧ st = [] ∧ Holds fr [(0, .sl rows), (1, .int .i64 l), (5, .int .i64 i)]) ls.length
    ⟨0, _, rfl, by omega, by omega, hd, rfl, rfl, rfl, rfl, trivial⟩ ?_
  rintro n fr st ⟨i, l, hi, l0, l1, hr, rfl, hh⟩
  obtain ⟨fr, rfl⟩ := hh.split
  clear hh
  conv => whnf
  by_cases hlt : i < ls.length
  · rw [hlen, ltB_t (by omega)]
    have hg := hget i hlt
    have hs := szSg_drop ls i hlt l
    have f1 := szStep_pure ls[i] (ho _ (List.getElem_mem _)) l l0 (by omega)
    have hle := szStp_le ls[i] l l0
    generalize ls[i] = s at *
    generalize szStp s l = l' at *
    obtain ⟨ak, ai, aa, ⟨a1, a2, a3, a4⟩, a5⟩ := s
    conv => whnf
    refine ⟨by omega, rows, _, 8, rfl, hg, rfl, rfl, ?_⟩
    conv => whnf
    refine .inl (f1.mono ?_)
    rintro r rfl
    conv => whnf
    by_cases a2 : l' < 0
    · rw [ltB_t a2]
      conv => whnf
      rw [hr, hs, if_pos a2]
    rw [ltB_f (by omega)]
    conv => whnf
    rw [if_neg a2] at hs
    refine ⟨n - 1, by omega, i + 1, l', by omega, by omega, by omega, hr.trans hs, rfl, rfl, rfl, ?_, trivial⟩
    show V.int .i64 (IntKind.i64.wrap (i + 1)) = _
    rw [wrap64 (by omega) (by omega)]; simp
  · rw [hlen, ltB_f (by omega)]
    conv => whnf
    rw [hr, List.drop_of_length_le (by omega)]
    rfl
set_option maxHeartbeats 4000000 in
theorem eqSteps_pure (ls : List Stp) (hs : ∀ s ∈ ls, s.node.Small) (hl : ls.length ≤ 1048576) : Pure Try.prog 20 [.sl (prows ls), .sl (prows ls)] (· = .bool true) := by
  have hlen := prows_len ls
  have hget := prows_get ls
  generalize prows ls = rows at *
  refine pure_of_awp good Try.func20 rfl (by kernel_rfl) (by decide) ?_
  conv => whnf
  rw [eqB_refl]
  conv => whnf
  refine loop_intro (fun n fr st => ∃ i : Nat, n + i = ls.length ∧ st = [] ∧ Holds fr [(0, .sl rows), (1, .sl rows), (5, .int .i64 i)]) ls.length
    ⟨0, rfl, rfl, rfl, rfl, rfl, trivial⟩ ?_
  rintro n fr st ⟨i, hi, rfl, hh⟩
  obtain ⟨fr, rfl⟩ := hh.split
  clear hh
  conv => whnf
  by_cases hlt : i < ls.length
  · rw [hlen, ltB_t (by omega)]
    have hg := hget i hlt
    have ws := eqStep_pure ls[i] (hs _ (List.getElem_mem _))
    generalize ls[i] = s at *
    obtain ⟨ak, ai, aa, ⟨a1, a2, a3, a4⟩, a5⟩ := s
    conv => whnf
    repeat (first
      | (refine ⟨by omega, rows, _, 8, rfl, hg, rfl, rfl, ?_⟩
         conv => whnf)
      | (refine ⟨_, .inl ws, ?_⟩
         conv => whnf))
    refine ⟨n - 1, by omega, i + 1, by omega, rfl, rfl, rfl, ?_, trivial⟩
    · show V.int .i64 (IntKind.i64.wrap (i + 1)) = _
      rw [wrap64 (by omega) (by omega)]; simp
  · rw [hlen, ltB_f (by omega)]
    conv => whnf
end Go.Cod

namespace Go.Cod
open Go Go.Proofs
set_option maxRecDepth 10000

/- Steps whose trees lie in a pool. -/
abbrev SL := Stp × LT
def slC (p : SL) : List V := stpC p.1 p.2
def slRows (ps : List SL) : List (List V) := ps.map slC
def slEnts (ps : List SL) : List (List V) := LT.entsL (ps.map (·.2))
def SlOk (ps : List SL) : Prop := ∀ p ∈ ps, p.2.erase = p.1.node ∧ p.2.Wf
def srow : List V := [.int .i64 0, .int .i64 0, .int .i64 0, .int .i64 0, .str [], .str [], .nils, .str []]
def smix (ps : List SL) (n : Nat) : List (List V) := slRows ps ++ List.replicate (n - ps.length) srow
theorem slRows_len (ps : List SL) : (slRows ps).length = ps.length := by simp [slRows]
theorem slRows_get (ps : List SL) (i : Nat) (h : i < ps.length) : (slRows ps)[i]? = some (slC ps[i]) := by simp [slRows, h]
theorem smix_get (ps : List SL) (n : Nat) (h : ps.length < n) : (smix ps n)[ps.length]? = some srow := by
  unfold smix
  rw [List.getElem?_append_right (by rw [slRows_len]; exact Nat.le_refl _), slRows_len, Nat.sub_self, List.getElem?_replicate, if_pos (by omega)]
theorem smix_set (ps : List SL) (n : Nat) (h : ps.length < n) (p : SL) : (smix ps n).set ps.length (slC p) = smix (ps ++ [p]) n := by
  unfold smix
  rw [List.set_append_right _ _ (by rw [slRows_len]; exact Nat.le_refl _), slRows_len, Nat.sub_self, show n - ps.length = (n - (ps ++ [p]).length) + 1 by simp; omega, List.replicate_succ, List.set_cons_zero]
  simp [slRows]
theorem smix_all (ps : List SL) (n : Nat) (h : ps.length = n) : smix ps n = slRows ps := by
  unfold smix
  rw [h, Nat.sub_self]; simp
theorem toStep_acc (s : Stp) (hs : s.node.Small) (es : List (List V)) : Full Try.prog noY 26 [.agg s.cells] [poolO es] fun o st' => ∃ l : LT, l.erase = s.node ∧ l.Wf ∧ o = .ret (.agg (stpC s l)) ∧ st' = [poolO (es ++ l.ents)] := by
  have f1 := toTree_acc s.node hs es
  simp only [Stp.cells]
  obtain ⟨kind, sid, at_, ⟨nid, nk, nx, nks⟩, text⟩ := s
  show Full Try.prog noY _ [.agg [.int .i64 kind, .int .i64 sid, .int .i64 at_, .int .i64 nid, .str nk, .str nx, .sl (T.rows nks), .str text]] [poolO es] _
  refine full_of_awp good Try.func26 rfl (by kernel_rfl) (by decide) ?_
  conv => whnf
  refine .inr (.inl ⟨[0], true, ?_⟩)
  conv => whnf
  refine f1.mono ?_
  rintro o st' ⟨b, c, ls, h1, h2, ⟨id, kd, tx, h3, rfl⟩, rfl⟩
  simp only [T.kids] at h1 h3
  obtain ⟨rfl, rfl, rfl, _⟩ := T.mk.inj h3
  conv => whnf
  refine ⟨[], true, ?_⟩
  conv => whnf
  exact ⟨.mk nid nk nx (some (b, c)) ls, by simp [LT.erase, h1], ⟨by simp, h2⟩, rfl, rfl⟩
set_option maxHeartbeats 4000000 in
theorem toSteps_acc (ss : List Stp) (hl : ss.length ≤ 1048576) (hs : ∀ s ∈ ss, s.node.Small) (es : List (List V)) :
    Full Try.prog noY 17 [.sl (prows ss)] [poolO es] fun o st' => ∃ (b c : Nat) (ps : List SL), ps.map (·.1) = ss ∧ SlOk ps ∧ o = .ret (.dref b ps.length c) ∧ st' = [poolO (es ++ (slEnts ps ++ [ent b c 8 (slRows ps)]))] := by
  have hlr := prows_len ss
  have hgr := prows_get ss
  generalize prows ss = rows at *
  refine Full.absorb (R := fun o st' => ∃ ps : List SL, ps.map (·.1) = ss ∧ SlOk ps ∧ o = .ret (.own 1) ∧ st' = [poolO (es ++ slEnts ps), ⟨slRows ps, 8, true, true, false, .cell⟩]) ?_ ?_
  · refine full_of_awp good Try.func17 rfl (by kernel_rfl) (by decide) ?_
    conv => whnf
    refine ⟨by omega, by omega, ?_⟩
    conv => whnf
    refine ⟨by show (Int.toNat _) * 104 ≤ _; omega, by omega, ?_⟩
    conv => whnf
    refine loop_drop (fun n fr st => ∃ ps : List SL, n + ps.length = ss.length ∧ ps.map (·.1) = ss.take ps.length ∧ SlOk ps ∧ st = [poolO (es ++ slEnts ps), ⟨smix ps ss.length, 8, true, true, false, .cell⟩] ∧ Holds fr [(0, .sl rows), (3, .own 1), (4, .int .i64 ps.length)]) ss.length none
      ⟨[], rfl, rfl, fun p h => (by cases h), by simp [smix, hlr, srow, V.cells, LT.entsL, slRows, slEnts]; rfl, rfl, rfl, rfl, trivial⟩ ?_
    rintro n fr st ⟨ps, hi, her, hok, rfl, hh⟩
    obtain ⟨fr, rfl⟩ := hh.split
    clear hh
    conv => whnf
    by_cases hlt : ps.length < ss.length
    · rw [hlr, ltB_t (by omega)]
      have hg := hgr ps.length hlt
      have hc := toStep_acc ss[ps.length] (hs _ (List.getElem_mem _)) (es ++ slEnts ps)
      have hm := smix_set ps ss.length hlt
      have hmg := smix_get ps ss.length hlt
      have htk : ss.take (ps.length + 1) = ss.take ps.length ++ [ss[ps.length]] := by rw [List.take_succ_eq_append_getElem hlt]
      generalize ss[ps.length] = s at *
      obtain ⟨ak, ai, aa, ⟨a1, a2, a3, a4⟩, a5⟩ := s
      conv => whnf
      refine ⟨by omega, rows, _, 8, rfl, hg, rfl, rfl, ?_⟩
      conv => whnf
      refine .inr (.inl ⟨[0], true, ?_⟩)
      conv => whnf
      refine hc.mono ?_
      rintro o st' ⟨l, h1, h2, rfl, rfl⟩
      obtain ⟨p0, hp0⟩ : ∃ p : SL, p = (⟨ak, ai, aa, .mk a1 a2 a3 a4, a5⟩, l) := ⟨_, rfl⟩
      have hm' := hm p0
      have e1 : p0.2.erase = p0.1.node ∧ p0.2.Wf := by rw [hp0]; exact ⟨h1, h2⟩
      have e2 : p0.1 = ⟨ak, ai, aa, .mk a1 a2 a3 a4, a5⟩ := by rw [hp0]
      have e3 : es ++ slEnts ps ++ l.ents = es ++ slEnts (ps ++ [p0]) := by
        rw [hp0]
        simp only [slEnts, List.map_append, LT.entsL_append, List.map_cons, List.map_nil, LT.entsL, List.append_nil, List.append_assoc]
      have e4 : slC p0 = stpC ⟨ak, ai, aa, .mk a1 a2 a3 a4, a5⟩ l := by rw [hp0]; rfl
      rw [e4] at hm'
      rw [e3]
      clear h1 h2 hp0 e3 e4
      obtain ⟨li, lk, lx, lh, lks⟩ := l
      rcases lh with _ | ⟨lb, lc⟩
      all_goals
        conv => whnf
        refine ⟨by omega, smix ps ss.length, srow, 8, rfl, hmg, rfl, rfl, ?_⟩
        conv => whnf
        refine AtRow_intro srow hmg ?_
        conv => whnf
        refine ⟨n - 1, by omega, none, ps ++ [p0], by simp; omega, ?_, ?_, ?_, rfl, rfl, ?_, trivial⟩
        · rw [List.length_append, List.length_singleton, htk, List.map_append, her, List.map_singleton, e2]
        · intro p hp
          rcases List.mem_append.1 hp with hp | hp
          · exact hok p hp
          · rw [List.mem_singleton.1 hp]; exact e1
        · rw [← hm']
          rfl
        · show V.int .i64 (IntKind.i64.wrap (ps.length + 1)) = _
          rw [wrap64 (by omega) (by omega)]; simp
    · rw [hlr, ltB_f (by omega)]
      conv => whnf
      have he : ps.length = ss.length := by omega
      refine ⟨[1], true, ?_⟩
      conv => whnf
      refine ⟨ps, ?_, hok, rfl, ?_⟩
      · rw [her, he]; simp
      · rw [smix_all _ _ he]; rfl
  · rintro o st' ⟨ps, h1, h2, rfl, rfl⟩
    refine ⟨.own 1, [poolO (es ++ slEnts ps)], 0, es ++ slEnts ps, slRows ps, 8, rfl, rfl, rfl, Nat.le_refl _, by simp [poolO], fun b c => ⟨rfl, b, c, ps, h1, h2, ?_, ?_⟩⟩
    · rw [slRows_len]; rfl
    · simp
/-- .. just made. -/
def NewSs (ss : List Stp) (o : Out) (st' : St) : Prop := ∃ (b c : Nat) (ps : List SL), ps.map (·.1) = ss ∧ SlOk ps ∧ ((slEnts ps ++ [ent b c 8 (slRows ps)]).map labOf).Nodup ∧ o = .ret (.dref b ps.length c) ∧ st' = [poolO (slEnts ps ++ [ent b c 8 (slRows ps)])]
theorem toSteps_new (ss : List Stp) (hl : ss.length ≤ 1048576) (hs : ∀ s ∈ ss, s.node.Small) : Full Try.prog noY 17 [.sl (prows ss)] [] (NewSs ss) := by
  refine (Full.givenEnd (Full.start (toSteps_acc ss hl hs []))).mono ?_
  rintro o st' ⟨⟨b, c, ps, h1, h2, rfl, rfl⟩, hl⟩
  exact ⟨b, c, ps, h1, h2, hl.nodup (k := 0) rfl, rfl, rfl⟩
theorem view_agg' {es : List (List V)} {cs ds : List V} (h : View es (.agg cs) (.agg ds)) (i : Nat) (x y : V) (h1 : cs[i]? = some x) (h2 : ds[i]? = some y) : View es x y := by
  cases h with
  | same => rw [h1] at h2; cases h2; exact .same _
  | agg _ h => exact h i x y h1 h2
theorem slC_len (p : SL) : (slC p).length = 8 := by
  obtain ⟨s, l⟩ := p
  cases l with
  | mk a b c d e => rfl
theorem slC_view (p : SL) (h : p.2.erase = p.1.node ∧ p.2.Wf) {es : List (List V)} (he : ∀ e ∈ p.2.ents, e ∈ es) : ViewL es (slC p) p.1.cells := by
  have hv := stp_view p.1 p.2 h.1 h.2 he
  have hl : (slC p).length = p.1.cells.length := by rw [slC_len]; obtain ⟨⟨_, _, _, ⟨_, _, _, _⟩, _⟩, _⟩ := p; rfl
  exact ⟨hl, fun i x y h1 h2 => view_agg' hv i x y h1 h2⟩
theorem prows_clean (ss : List Stp) : V.clean.cleanLL 0 (prows ss) = true := by
  rw [cleanLL_iff]
  intro e he
  obtain ⟨s, rfl⟩ : ∃ s : Stp, e = s.cells := by
    obtain ⟨s, _, rfl⟩ := List.mem_map.1 he
    exact ⟨s, rfl⟩
  obtain ⟨_, _, _, ⟨_, _, _, _⟩, _⟩ := s
  rfl
theorem sl_ents {ps : List SL} {p : SL} (hp : p ∈ ps) {e : List V} (he : e ∈ p.2.ents) : e ∈ slEnts ps := by
  unfold slEnts
  rw [LT.entsL_eq]
  exact List.mem_flatten.2 ⟨_, List.mem_map_of_mem (List.mem_map_of_mem hp), he⟩
theorem sl_view (ps : List SL) (b c : Nat) (hok : SlOk ps) {es : List (List V)} (he : ∀ e ∈ slEnts ps ++ [ent b c 8 (slRows ps)], e ∈ es) : View es (.dref b ps.length c) (.sl (prows (ps.map (·.1)))) := by
  have hv : ∀ i (h : i < ps.length), ViewL es (slC ps[i]) ps[i].1.cells := fun i h => slC_view ps[i] (hok _ (List.getElem_mem _)) fun e h' => he e (List.mem_append_left _ (sl_ents (List.getElem_mem h) h'))
  have hg : ∀ i r, (slRows ps)[i]? = some r → ∃ h : i < ps.length, r = slC ps[i] := fun i r h => by
    have hi : i < ps.length := by have := (List.getElem?_eq_some_iff.1 h).1; rwa [slRows_len] at this
    rw [slRows_get ps i hi] at h; exact ⟨hi, (Option.some.inj h).symm⟩
  have hg' : ∀ i r (h : i < ps.length), (prows (ps.map (·.1)))[i]? = some r → r = ps[i].1.cells := fun i r h h' => by
    rw [prows_get _ i (by simpa using h)] at h'
    rw [← Option.some.inj h', List.getElem_map]
  refine .dref (sz := 8) (rows := slRows ps) (he _ (by simp)) (slRows_len ps).symm (by rw [prows_len, slRows_len]; simp) (prows_clean _) (fun e he x hx => ?_) (fun i r r' p q => ?_) (fun i r r' j x y p q u v => ?_)
  · obtain ⟨s, _, rfl⟩ := List.mem_map.1 he
    obtain ⟨_, _, _, ⟨_, _, _, _⟩, _⟩ := s
    simp only [Stp.cells, T.cells, List.mem_append, List.mem_cons, List.not_mem_nil, or_false] at hx
    rcases hx with ((rfl | rfl | rfl) | (rfl | rfl | rfl | rfl)) | rfl <;> rfl
  · obtain ⟨hi, rfl⟩ := hg i r p
    rw [hg' i r' hi q]
    exact (hv i hi).1
  · obtain ⟨hi, rfl⟩ := hg i r p
    have := hg' i r' hi q
    subst this
    exact (hv i hi).2 j x y u v
end Go.Cod

