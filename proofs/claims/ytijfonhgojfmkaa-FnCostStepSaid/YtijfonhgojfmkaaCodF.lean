/- Own texts. -/
import Derived.WalkKit
import Derived.ProofKit
import Derived.Test.YtijfonhgojfmkaaCodE
namespace Go.Cod
open Go Go.Proofs
set_option maxRecDepth 10000

def LT.id : LT → Int
  | .mk id _ _ _ _ => id
mutual
/-- A tree, in which the first thing with a number is another one. -/
def LT.upd (x : Int) (f : LT → LT) : LT → Option LT
  | .mk id kind text h kids => if id = x then some (f (.mk id kind text h kids)) else match h with
    | none => none
    | some p => (LT.updL x f kids).map fun ks => .mk id kind text (some p) ks
def LT.updL (x : Int) (f : LT → LT) : List LT → Option (List LT)
  | [] => none
  | l :: ls => match LT.upd x f l with
    | some l' => some (l' :: ls)
    | none => (LT.updL x f ls).map (l :: ·)
end
/-- What holds once a thing deep in a list, in row i' of block b', has been put in another one's place. -/
def Deep (x : Int) (f : LT → LT) (s : T) (old : List (List V)) (new : List (List V)) (b' i' : Nat) : Prop :=
  ∃ (c' : Nat) (ks : List LT) (node : LT), ent b' c' 4 (LT.rows ks) ∈ old ∧ ks[i']? = some node ∧ node.erase = s ∧ LT.id node = x ∧ node.Wf ∧ (node.ents.map labOf).Nodup ∧ (∀ e ∈ node.ents, e ∈ old) ∧ b' ∉ node.ents.map labOf ∧
    ∀ es' : List (List V), (∀ e ∈ (f node).ents, e ∈ es') → (∀ e ∈ old, labOf e ∉ node.ents.map labOf → labOf e ≠ b' → e ∈ es') → ent b' c' 4 ((LT.rows ks).set i' (f node).cells) ∈ es' → ∀ e ∈ new, e ∈ es'
/-- The same at the list itself. -/
def Flat (x : Int) (f : LT → LT) (s : T) (ls ls' : List LT) (j : Nat) : Prop :=
  ∃ node, ls[j]? = some node ∧ node.erase = s ∧ LT.id node = x ∧ node.Wf ∧ ls' = ls.set j (f node)
mutual
theorem LT.seek_none (x : Int) (f : LT → LT) : ∀ (l : LT) (b0 i0 : Nat), l.seek x b0 i0 = none → l.Wf → l.upd x f = none ∧ fT l.erase x = none
  | .mk id kind text h kids, b0, i0, hs, hw => by
    simp only [LT.seek] at hs
    simp only [LT.Wf] at hw
    simp only [LT.upd, LT.erase, fT]
    by_cases hid : id = x
    · rw [if_pos hid] at hs; cases hs
    · rw [if_neg hid] at hs ⊢
      rw [if_neg hid]
      rcases h with _ | ⟨b, c⟩
      · rw [hw.1 rfl]; exact ⟨rfl, rfl⟩
      · simp only at hs ⊢
        obtain ⟨h1, h2⟩ := LT.seekL_none x f kids b 0 hs hw.2
        exact ⟨by rw [h1]; rfl, h2⟩
theorem LT.seekL_none (x : Int) (f : LT → LT) : ∀ (ls : List LT) (b i : Nat), LT.seekL x b i ls = none → LT.WfL ls → LT.updL x f ls = none ∧ fL (LT.eraseL ls) x = none
  | [], _, _, _, _ => ⟨rfl, rfl⟩
  | l :: ls, b, i, hs, hw => by
    simp only [LT.seekL] at hs
    simp only [LT.WfL] at hw
    simp only [LT.updL, LT.eraseL, fL]
    cases hl : LT.seek x b i l with
    | some p => rw [hl] at hs; cases hs
    | none =>
      rw [hl] at hs
      obtain ⟨h1, h2⟩ := LT.seek_none x f l b i hl hw.1
      obtain ⟨h3, h4⟩ := LT.seekL_none x f ls b (i + 1) hs hw.2
      rw [h1, h2, h3, h4]; exact ⟨rfl, rfl⟩
end
theorem nodup_app {us vs : List (List V)} (h : ((us ++ vs).map labOf).Nodup) : (us.map labOf).Nodup ∧ (vs.map labOf).Nodup ∧ ∀ e ∈ us, labOf e ∉ vs.map labOf := by
  rw [List.map_append, List.nodup_append] at h
  exact ⟨h.1, h.2.1, fun e he hm => h.2.2 _ (List.mem_map_of_mem he) _ hm rfl⟩
theorem Deep.right {x : Int} {f : LT → LT} {s : T} {old new z : List (List V)} {b' i' : Nat} (h : Deep x f s old new b' i') (hd : ∀ e ∈ old, labOf e ∉ z.map labOf) : Deep x f s (old ++ z) (new ++ z) b' i' := by
  obtain ⟨c', ks, node, m, g, her, hid, hw, hnd, hin, hnb, hall⟩ := h
  refine ⟨c', ks, node, List.mem_append_left _ m, g, her, hid, hw, hnd, fun e he => List.mem_append_left _ (hin e he), hnb, fun es' a1 a2 a3 e he => ?_⟩
  rcases List.mem_append.1 he with he | he
  · exact hall es' a1 (fun e he p q => a2 e (List.mem_append_left _ he) p q) a3 e he
  · refine a2 e (List.mem_append_right _ he) (fun hm => ?_) (fun hb => ?_)
    · obtain ⟨e2, h2, h3⟩ := List.mem_map.1 hm
      exact hd e2 (hin e2 h2) (h3 ▸ List.mem_map_of_mem he)
    · exact hd _ m (by rw [labOf_ent, ← hb]; exact List.mem_map_of_mem he)
theorem Deep.left {x : Int} {f : LT → LT} {s : T} {old new z : List (List V)} {b' i' : Nat} (h : Deep x f s old new b' i') (hd : ∀ e ∈ z, labOf e ∉ old.map labOf) : Deep x f s (z ++ old) (z ++ new) b' i' := by
  obtain ⟨c', ks, node, m, g, her, hid, hw, hnd, hin, hnb, hall⟩ := h
  refine ⟨c', ks, node, List.mem_append_right _ m, g, her, hid, hw, hnd, fun e he => List.mem_append_right _ (hin e he), hnb, fun es' a1 a2 a3 e he => ?_⟩
  rcases List.mem_append.1 he with he | he
  · refine a2 e (List.mem_append_left _ he) (fun hm => ?_) (fun hb => ?_)
    · obtain ⟨e2, h2, h3⟩ := List.mem_map.1 hm
      exact hd e he (h3 ▸ List.mem_map_of_mem (hin e2 h2))
    · exact hd e he (by rw [hb, ← labOf_ent b' c' 4 (LT.rows ks)]; exact List.mem_map_of_mem m)
  · exact hall es' a1 (fun e he p q => a2 e (List.mem_append_right _ he) p q) a3 e he
theorem Deep.lab {x : Int} {f : LT → LT} {s : T} {old new : List (List V)} {b' i' : Nat} (h : Deep x f s old new b' i') : b' ∈ old.map labOf := by
  obtain ⟨c', ks, node, m, _⟩ := h
  exact List.mem_map.2 ⟨_, m, labOf_ent _ _ _ _⟩
theorem LT.ents_mem {l : LT} {ls : List LT} (h : l ∈ ls) {e : List V} (he : e ∈ l.ents) : e ∈ LT.entsL ls := by
  rw [LT.entsL_eq]; exact List.mem_flatten.2 ⟨_, List.mem_map_of_mem h, he⟩
theorem LT.nodup_mem {l : LT} {ls : List LT} (h : l ∈ ls) (hn : ((LT.entsL ls).map labOf).Nodup) : (l.ents.map labOf).Nodup := by
  rw [LT.entsL_eq] at hn
  exact ((List.sublist_flatten_of_mem (List.mem_map_of_mem h)).map labOf).nodup hn
theorem LT.entsL_set (m node : LT) : ∀ (ls : List LT) (j : Nat), ls[j]? = some node → ((LT.entsL ls).map labOf).Nodup → ∀ e ∈ LT.entsL (ls.set j m), e ∈ m.ents ∨ (e ∈ LT.entsL ls ∧ labOf e ∉ node.ents.map labOf)
  | [], j, hg, _, _, _ => by simp at hg
  | l :: ls, 0, hg, hn, e, he => by
    simp only [List.getElem?_cons_zero, Option.some.injEq] at hg
    subst hg
    simp only [List.set_cons_zero, LT.entsL, List.mem_append] at he hn ⊢
    rcases he with he | he
    · exact .inl he
    · refine .inr ⟨.inr he, fun hm => ?_⟩
      obtain ⟨e2, h2, h3⟩ := List.mem_map.1 hm
      exact (nodup_app hn).2.2 e2 h2 (h3 ▸ List.mem_map_of_mem he)
  | l :: ls, j + 1, hg, hn, e, he => by
    simp only [List.getElem?_cons_succ] at hg
    simp only [List.set_cons_succ, LT.entsL, List.mem_append] at he hn ⊢
    rcases he with he | he
    · refine .inr ⟨.inl he, fun hm => ?_⟩
      obtain ⟨e2, h2, h3⟩ := List.mem_map.1 hm
      exact (nodup_app hn).2.2 e he (h3 ▸ List.mem_map_of_mem (LT.ents_mem (List.mem_of_getElem? hg) h2))
    · rcases LT.entsL_set m node ls j hg (nodup_app hn).2.1 e he with h | ⟨h, k⟩
      · exact .inl h
      · exact .inr ⟨.inr h, k⟩
mutual
theorem LT.seek_some (x : Int) (f : LT → LT) : ∀ (l : LT) (b0 i0 b' i' : Nat), l.seek x b0 i0 = some (b', i') → l.Wf → (l.ents.map labOf).Nodup → b0 ∉ l.ents.map labOf →
    ∃ s, fT l.erase x = some s ∧ ((LT.id l = x ∧ s = l.erase ∧ (b', i') = (b0, i0) ∧ l.upd x f = some (f l)) ∨ (b' ≠ b0 ∧ ∃ l', l.upd x f = some l' ∧ l'.cells = l.cells ∧ Deep x f s l.ents l'.ents b' i'))
  | .mk id kind text h kids, b0, i0, b', i', hs, hw, hn, hb => by
    simp only [LT.seek] at hs
    simp only [LT.upd, LT.id, LT.erase, fT]
    simp only [LT.Wf] at hw
    simp only [LT.ents] at hn hb ⊢
    by_cases hid : id = x
    · rw [if_pos hid] at hs ⊢
      rw [if_pos hid]
      exact ⟨_, rfl, .inl ⟨hid, rfl, by cases hs; rfl, rfl⟩⟩
    · rw [if_neg hid] at hs ⊢
      rw [if_neg hid]
      rcases h with _ | ⟨b, c⟩
      · cases hs
      · simp only at hs ⊢
        have hbn : b ∉ (LT.entsL kids).map labOf := by
          intro hm
          obtain ⟨e, he, hel⟩ := List.mem_map.1 hm
          exact (nodup_app hn).2.2 e he (by rw [hel]; simp [rootE, ent, labOf])
        obtain ⟨s, hs0, hs1⟩ := LT.seekL_some x f kids b 0 b' i' hs hw.2 (nodup_app hn).1 hbn
        refine ⟨s, hs0, .inr ?_⟩
        rcases hs1 with ⟨rfl, j, rfl, ls', h1, h2⟩ | ⟨h0, ls', h1, h2, h3⟩
        · obtain ⟨node, g1, g0, g2, g3, rfl⟩ := h2
          rw [Nat.zero_add]
          refine ⟨fun h => hb (by subst h; simp [rootE, ent, labOf]), _, by rw [h1]; rfl, by simp only [LT.cells, List.length_set], c, kids, node, by simp [rootE], g1, g0, g2, g3, LT.nodup_mem (List.mem_of_getElem? g1) (nodup_app hn).1,
            fun e he => List.mem_append_left _ (LT.ents_mem (List.mem_of_getElem? g1) he), fun hm => ?_, fun es' a1 a2 a3 e he => ?_⟩
          · obtain ⟨e2, h2, h3⟩ := List.mem_map.1 hm
            exact hbn (h3 ▸ List.mem_map_of_mem (LT.ents_mem (List.mem_of_getElem? g1) h2))
          · simp only [LT.ents] at he
            rcases List.mem_append.1 he with he | he
            · rcases LT.entsL_set (f node) node kids j g1 (nodup_app hn).1 e he with h | ⟨h, k⟩
              · exact a1 e h
              · exact a2 e (List.mem_append_left _ h) k (fun hl => hbn (hl ▸ List.mem_map_of_mem h))
            · simp only [rootE, List.mem_singleton] at he
              subst he
              rw [show LT.rows (kids.set j (f node)) = (LT.rows kids).set j (f node).cells by simp only [LT.rows, List.map_set]]
              exact a3
        · have hlen : ls'.length = kids.length := by have := congrArg List.length h2; rwa [LT.rows_len, LT.rows_len] at this
          refine ⟨fun h => hb (by rw [List.map_append, ← h]; exact List.mem_append_left _ h3.lab), _, by rw [h1]; rfl, by simp only [LT.cells, hlen], ?_⟩
          simp only [LT.ents, rootE, h2]
          exact h3.right (nodup_app hn).2.2
theorem LT.seekL_some (x : Int) (f : LT → LT) : ∀ (ls : List LT) (b i b' i' : Nat), LT.seekL x b i ls = some (b', i') → LT.WfL ls → ((LT.entsL ls).map labOf).Nodup → b ∉ (LT.entsL ls).map labOf →
    ∃ s, fL (LT.eraseL ls) x = some s ∧ ((b' = b ∧ ∃ j, i' = i + j ∧ ∃ ls', LT.updL x f ls = some ls' ∧ Flat x f s ls ls' j) ∨ (b' ≠ b ∧ ∃ ls', LT.updL x f ls = some ls' ∧ LT.rows ls' = LT.rows ls ∧ Deep x f s (LT.entsL ls) (LT.entsL ls') b' i'))
  | [], b, i, b', i', hs, _, _, _ => by cases hs
  | l :: ls, b, i, b', i', hs, hw, hn, hb => by
    simp only [LT.seekL] at hs
    simp only [LT.updL, LT.eraseL, fL]
    simp only [LT.WfL] at hw
    simp only [LT.entsL] at hn hb ⊢
    obtain ⟨n1, n2, n3⟩ := nodup_app hn
    have hb1 : b ∉ l.ents.map labOf := fun hm => hb (by rw [List.map_append]; exact List.mem_append_left _ hm)
    have hb2 : b ∉ (LT.entsL ls).map labOf := fun hm => hb (by rw [List.map_append]; exact List.mem_append_right _ hm)
    cases hl : LT.seek x b i l with
    | some p =>
      rw [hl] at hs; cases hs
      obtain ⟨s, hs0, hs1⟩ := LT.seek_some x f l b i b' i' hl hw.1 n1 hb1
      rw [hs0]
      refine ⟨s, rfl, ?_⟩
      rcases hs1 with ⟨h0, hse, h1, h2⟩ | ⟨h0, l', h1, h2, h3⟩
      · cases h1
        exact .inl ⟨rfl, 0, rfl, f l :: ls, by rw [h2], l, rfl, hse.symm, h0, hw.1, rfl⟩
      · refine .inr ⟨h0, l' :: ls, by rw [h1], by simp only [LT.rows, List.map_cons, h2], ?_⟩
        exact h3.right n3
    | none =>
      rw [hl] at hs
      obtain ⟨k1, k2⟩ := LT.seek_none x f l b i hl hw.1
      rw [k1, k2]
      obtain ⟨s, hs0, hs1⟩ := LT.seekL_some x f ls b (i + 1) b' i' hs hw.2 n2 hb2
      refine ⟨s, hs0, ?_⟩
      rcases hs1 with ⟨rfl, j, rfl, ls', h1, node, h2, h20, h3, h4, h5⟩ | ⟨h0, ls', h1, h2, h3⟩
      · exact .inl ⟨rfl, j + 1, by omega, l :: ls', by rw [h1]; rfl, node, h2, h20, h3, h4, by rw [h5]; rfl⟩
      · refine .inr ⟨h0, l :: ls', by rw [h1]; rfl, by simp only [LT.rows, List.map_cons] at h2 ⊢; rw [h2], ?_⟩
        exact h3.left n3
end
end Go.Cod

namespace Go.Cod
open Go Go.Proofs
set_option maxRecDepth 10000

theorem fresh_lab : ∀ L : List Nat, ∃ n, ∀ m ∈ L, m < n
  | [] => ⟨0, by simp⟩
  | a :: L => by
    obtain ⟨n, h⟩ := fresh_lab L
    refine ⟨n + a + 1, fun m hm => ?_⟩
    rcases List.mem_cons.1 hm with rfl | hm
    · omega
    · have := h m hm; omega
theorem LT.seekR_cases (l : LT) (x : Int) (f : LT → LT) (hw : l.Wf) (hn : (l.ents.map labOf).Nodup) : (LT.id l = x ∧ l.seekR x = .ptr 1 0 0 ∧ l.upd x f = some (f l)) ∨ (l.seekR x = .raw (.pointer none) ∧ l.upd x f = none ∧ fT l.erase x = none) ∨
    ∃ b' i' l' s, l.seekR x = .dptr b' 4 i' 0 ∧ l.upd x f = some l' ∧ l'.cells = l.cells ∧ fT l.erase x = some s ∧ Deep x f s l.ents l'.ents b' i' := by
  obtain ⟨b0, hb0⟩ := fresh_lab (l.ents.map labOf)
  have hb : b0 ∉ l.ents.map labOf := fun h => absurd (hb0 _ h) (by omega)
  by_cases hid : LT.id l = x
  · cases l with
    | mk id kind text h kids =>
    simp only [LT.id] at hid
    exact .inl ⟨hid, by simp only [LT.seekR, if_pos hid], by simp only [LT.upd, if_pos hid]⟩
  have hs : l.seekR x = plV (l.seek x b0 0) := by
    cases l with
    | mk id kind text h kids =>
    simp only [LT.id] at hid
    simp only [LT.seekR, LT.seek, if_neg hid]
    rcases h with _ | ⟨b, c⟩ <;> rfl
  right
  cases hk : l.seek x b0 0 with
  | none => exact .inl ⟨by rw [hs, hk]; rfl, LT.seek_none x f l b0 0 hk hw⟩
  | some p =>
    obtain ⟨b', i'⟩ := p
    obtain ⟨s, hs0, hs1⟩ := LT.seek_some x f l b0 0 b' i' hk hw hn hb
    rcases hs1 with ⟨h, _⟩ | ⟨_, l', h1, h2, h3⟩
    · exact absurd h hid
    · exact .inr ⟨b', i', l', s, by rw [hs, hk]; rfl, h1, h2, hs0, h3⟩
/-- What an edit leaves. -/
def EditR (es : List (List V)) (l : LT) (r : Option LT) (o : Out) (st' : St) : Prop :=
  match r with
  | none => o = .ret (.bool false) ∧ st' = [poolO es, boxO l]
  | some l' => o = .ret (.bool true) ∧ ∃ es', st' = [poolO es', boxO l'] ∧ ∀ e ∈ l'.ents, e ∈ es'
def setText (s : List UInt8) : LT → LT
  | .mk id kind _ h kids => .mk id kind s h kids
def setKind (s : List UInt8) : LT → LT
  | .mk id _ text h kids => .mk id s text h kids
set_option maxHeartbeats 4000000 in
theorem textDo (l : LT) (hw : l.Wf) (x : Int) (s : List UInt8) (es : List (List V)) (hin : ∀ e ∈ l.ents, e ∈ es) (hn : (l.ents.map labOf).Nodup) (hz : LT.sizeL l.kids ≤ 1048576) :
    Full Try.prog noY 112 [.agg [.int .i64 x, .str s], .ptr 1 0 0] [poolO es, boxO l] (EditR es l (l.upd x (setText s))) := by
  have hc := treeIn_root l hw x es hin hz
  have hcs := LT.seekR_cases l x (setText s) hw hn
  generalize l.seekR x = r at hc hcs
  generalize l.upd x (setText s) = u at hcs ⊢
  have hset : ∀ id kind text h kids, l = .mk id kind text h kids → setText s l = .mk id kind s h kids := fun _ _ _ _ _ e => by rw [e]; rfl
  have hents : ∀ n : LT, (setText s n).ents = n.ents := fun n => by cases n; rfl
  generalize hsf : setText s = f at hcs hset hents
  cases l with
  | mk id kind text h kids =>
  rcases h with _ | ⟨b, c⟩
  all_goals
    refine full_of_awp good Try.func112 rfl (by kernel_rfl) (by decide) ?_
    conv => whnf
    refine ⟨[0, 1], true, ?_⟩
    conv => whnf
    refine hc.mono ?_
    rintro o st' ⟨rfl, rfl⟩
    rcases hcs with ⟨h0, rfl, rfl⟩ | ⟨rfl, rfl, hno⟩ | ⟨b', i', l', sx, rfl, rfl, hcl, hsx, hD⟩
    · conv => whnf
      refine ⟨[], true, ?_⟩
      conv => whnf
      rw [hset _ _ _ _ _ rfl]
      exact ⟨rfl, es, rfl, hin⟩
    · conv => whnf
      refine ⟨[], true, ?_⟩
      conv => whnf
      exact ⟨rfl, rfl⟩
    · obtain ⟨c', ks, node, m, g, her, hid, hnw, hnd, hnin, hnb, hall⟩ := hD
      have hr : (LT.rows ks)[i']? = some node.cells := by simp only [LT.rows, List.getElem?_map, g, Option.map_some]
      cases node with
      | mk nid nk nt nh nks =>
      obtain ⟨es1, hes1⟩ : ∃ x, x = putEnt b' ((LT.rows ks).set i' (f (.mk nid nk nt nh nks)).cells) es := ⟨_, rfl⟩
      have hfc : (f (.mk nid nk nt nh nks)).cells = [.int .i64 nid, .str nk, .str s, hdV nh nks.length] := by rw [← hsf]; rfl
      conv => whnf
      refine ⟨0, c', LT.rows ks, _, es1, hin _ m, hr, by rw [hes1, hfc]; rfl, ?_⟩
      conv => whnf
      refine ⟨[], true, ?_⟩
      conv => whnf
      refine ⟨rfl, es1, ?_, ?_⟩
      · simp only [boxO, hcl]; rfl
      · refine hall es1 (fun e he => ?_) (fun e he k1 k2 => hes1 ▸ putEnt_other (hin e he) k2) (hes1 ▸ putEnt_mem (hin _ m))
        rw [hents] at he
        exact hes1 ▸ putEnt_other (hin e (hnin e he)) (fun hl => hnb (hl ▸ List.mem_map_of_mem he))
set_option maxHeartbeats 4000000 in
theorem kindDo (l : LT) (hw : l.Wf) (x : Int) (s : List UInt8) (es : List (List V)) (hin : ∀ e ∈ l.ents, e ∈ es) (hn : (l.ents.map labOf).Nodup) (hz : LT.sizeL l.kids ≤ 1048576) :
    Full Try.prog noY 114 [.agg [.int .i64 x, .str s], .ptr 1 0 0] [poolO es, boxO l] (EditR es l (l.upd x (setKind s))) := by
  have hc := treeIn_root l hw x es hin hz
  have hcs := LT.seekR_cases l x (setKind s) hw hn
  generalize l.seekR x = r at hc hcs
  generalize l.upd x (setKind s) = u at hcs ⊢
  have hset : ∀ id kind text h kids, l = .mk id kind text h kids → setKind s l = .mk id s text h kids := fun _ _ _ _ _ e => by rw [e]; rfl
  have hents : ∀ n : LT, (setKind s n).ents = n.ents := fun n => by cases n; rfl
  generalize hsf : setKind s = f at hcs hset hents
  cases l with
  | mk id kind text h kids =>
  rcases h with _ | ⟨b, c⟩
  all_goals
    refine full_of_awp good Try.func114 rfl (by kernel_rfl) (by decide) ?_
    conv => whnf
    refine ⟨[0, 1], true, ?_⟩
    conv => whnf
    refine hc.mono ?_
    rintro o st' ⟨rfl, rfl⟩
    rcases hcs with ⟨h0, rfl, rfl⟩ | ⟨rfl, rfl, hno⟩ | ⟨b', i', l', sx, rfl, rfl, hcl, hsx, hD⟩
    · conv => whnf
      refine ⟨[], true, ?_⟩
      conv => whnf
      rw [hset _ _ _ _ _ rfl]
      exact ⟨rfl, es, rfl, hin⟩
    · conv => whnf
      refine ⟨[], true, ?_⟩
      conv => whnf
      exact ⟨rfl, rfl⟩
    · obtain ⟨c', ks, node, m, g, her, hid, hnw, hnd, hnin, hnb, hall⟩ := hD
      have hr : (LT.rows ks)[i']? = some node.cells := by simp only [LT.rows, List.getElem?_map, g, Option.map_some]
      cases node with
      | mk nid nk nt nh nks =>
      obtain ⟨es1, hes1⟩ : ∃ x, x = putEnt b' ((LT.rows ks).set i' (f (.mk nid nk nt nh nks)).cells) es := ⟨_, rfl⟩
      have hfc : (f (.mk nid nk nt nh nks)).cells = [.int .i64 nid, .str s, .str nt, hdV nh nks.length] := by rw [← hsf]; rfl
      conv => whnf
      refine ⟨0, c', LT.rows ks, _, es1, hin _ m, hr, by rw [hes1, hfc]; rfl, ?_⟩
      conv => whnf
      refine ⟨[], true, ?_⟩
      conv => whnf
      refine ⟨rfl, es1, ?_, ?_⟩
      · simp only [boxO, hcl]; rfl
      · refine hall es1 (fun e he => ?_) (fun e he k1 k2 => hes1 ▸ putEnt_other (hin e he) k2) (hes1 ▸ putEnt_mem (hin _ m))
        rw [hents] at he
        exact hes1 ▸ putEnt_other (hin e (hnin e he)) (fun hl => hnb (hl ▸ List.mem_map_of_mem he))
end Go.Cod

namespace Go.Cod
open Go Go.Proofs
set_option maxRecDepth 10000

theorem placeGo_in (x : Int) : ∀ (ts : List T) (i : Nat), x ∈ ts.map T.id → ∃ j, j < ts.length ∧ placeGo x i ts = ((i + j : Nat) : Int)
  | [], i, h => by simp at h
  | t :: ts, i, h => by
    simp only [placeGo]
    by_cases hid : t.id = x
    · exact ⟨0, by simp, by rw [if_pos hid]; rfl⟩
    · rw [if_neg hid]
      have hx : x ∈ ts.map T.id := by
        simp only [List.map_cons, List.mem_cons] at h
        rcases h with h | h
        · exact absurd h.symm hid
        · exact h
      obtain ⟨j, h1, h2⟩ := placeGo_in x ts (i + 1) hx
      exact ⟨j + 1, by simp; omega, by rw [h2]; congr 1; omega⟩
/-- A thing without the one that has a number, in it. -/
def cutKid (x : Int) : LT → LT
  | .mk id kind text h kids => .mk id kind text h (kids.eraseIdx (placeGo x 0 (LT.eraseL kids)).toNat)
def cutT (l : LT) (x : Int) : Option LT := if 1 ≤ treeOver l.erase x then l.upd (treeOver l.erase x) (cutKid x) else none
theorem rows_erase (ks : List LT) (j : Nat) : (LT.rows ks).take j ++ (LT.rows ks).drop (j + 1) = LT.rows (ks.eraseIdx j) := by
  simp only [LT.rows, List.eraseIdx_eq_take_drop_succ, List.map_append, List.map_take, List.map_drop]
theorem ents_erase (ks : List LT) (j : Nat) : ∀ e ∈ LT.entsL (ks.eraseIdx j), e ∈ LT.entsL ks := fun e he => by
  rw [LT.entsL_eq] at he
  obtain ⟨r, h1, h2⟩ := List.mem_flatten.1 he
  obtain ⟨m, h3, rfl⟩ := List.mem_map.1 h1
  exact LT.ents_mem (List.mem_of_mem_eraseIdx h3) h2
theorem delete_to (es : List (List V)) (b n c i : Nat) (jv : Int) (rows : List (List V)) (hjv : jv = ((i + 1 : Nat) : Int)) (hm : ent b c 4 rows ∈ es) (hn : rows.length = n) (hi : i < n) (hmax : n ≤ 1048576) (hrw : ∀ r ∈ rows, r.length = 4) :
    Full Try.prog noY 109 [.dref b n c, .int .i64 (i : Int), .int .i64 jv] [poolO es] (fun o st' => o = .ret (.dref b (n - 1) c) ∧ st' = [poolO (putEnt b (rows.take i ++ rows.drop (i + 1)) es)]) := by
  subst hjv
  exact Full.room 0 (delete_full [ent 0 1 4 [zrow]] 0 1 1 0 1 [zrow] (by simp) rfl (by omega) rfl (by omega) (by omega) (by simp [zrow])).1
    fun hr => delete_full es b n c i (i + 1) rows hm hn hi rfl (hn ▸ hr b c 4 rows hm) hmax hrw
theorem rows_wid (ks : List LT) : ∀ r ∈ LT.rows ks, r.length = 4 := fun r hr => by
  obtain ⟨l, _, rfl⟩ := List.mem_map.1 hr
  exact l.cells_len
set_option maxHeartbeats 4000000 in
theorem cutDo (l : LT) (hw : l.Wf) (hs : l.erase.Small) (x : Int) (es : List (List V)) (hin : ∀ e ∈ l.ents, e ∈ es) (hn : (l.ents.map labOf).Nodup) (hz : LT.sizeL l.kids ≤ 1048576) :
    Full Try.prog noY 105 [.agg [.int .i64 x], .ptr 1 0 0] [poolO es, boxO l] (EditR es l (cutT l x)) := by
  have ho := implTreeOver_pure l.erase hs x
  have hv := l.viewA hw hin
  have hoc := treeOver_cases l.erase x
  unfold cutT
  generalize hov : treeOver l.erase x = ov at *
  have hc := treeIn_root l hw ov es hin hz
  have hcs := LT.seekR_cases l ov (cutKid x) hw hn
  generalize l.seekR ov = r at hc hcs
  generalize hu : l.upd ov (cutKid x) = u at hcs ⊢
  cases l with
  | mk id kind text h kids =>
  rcases h with _ | ⟨b, c⟩
  · refine full_of_awp good Try.func105 rfl (by kernel_rfl) (by decide) ?_
    conv => whnf
    refine ⟨.int .i64 ov, .inr ⟨es, [.agg (T.mk id kind text (LT.eraseL kids)).cells, .int .i64 x], fun e he => ⟨0, he⟩, viewL2 hv (.same _), rfl, ho.mono fun r hr => ⟨by rw [hr]; rfl, hr⟩⟩, ?_⟩
    conv => whnf
    by_cases h1 : 1 ≤ ov
    rotate_left
    · rw [ltB_t (by omega), if_neg h1]
      conv => whnf
      refine ⟨[], true, ?_⟩
      conv => whnf
      exact ⟨rfl, rfl⟩
    rw [ltB_f (by omega), if_pos h1]
    conv => whnf
    obtain ⟨s, hf, hok, hcount⟩ : ∃ s, fT (LT.mk id kind text _ kids).erase ov = some s ∧ okT s = true ∧ (s.kids.map T.id).count x = 1 := by
      rcases hoc with ⟨h, _⟩ | ⟨_, h, _⟩ | ⟨_, s, h2, h3, h4⟩
      · omega
      · omega
      · exact ⟨s, (findT_spec h2).2.1, h3, h4⟩
    have hxin : x ∈ s.kids.map T.id := List.count_pos_iff.1 (by omega)
    obtain ⟨j, hj1, hj2⟩ := placeGo_in x s.kids 0 hxin
    rw [Nat.zero_add] at hj2
    refine ⟨[0, 1], true, ?_⟩
    conv => whnf
    refine hc.mono ?_
    rintro o st' ⟨rfl, rfl⟩
    rcases hcs with ⟨h0, rfl, rfl⟩ | ⟨rfl, rfl, hno⟩ | ⟨b', i', l', sx, rfl, rfl, hcl, hsx, hD⟩
    rotate_left
    · rw [hno] at hf; cases hf
    · obtain ⟨c', ks, node, m, g, her, hid, hnw, hnd, hnin, hnb, hall⟩ := hD
      have hss : sx = s := by rw [hsx] at hf; cases hf; rfl
      subst hss
      have hk20 : sx.kids.length ≤ 20 := by
        have h1 := okT_len hok
        have h2 := (kidIds_sub sx.kids).length_le
        rw [List.length_map] at h2
        cases sx with
        | mk a1 a2 a3 a4 =>
        simp only [T.ids, T.kids, List.length_cons] at h1 h2 ⊢
        omega
      cases node with
      | mk nid nk nt nh nks =>
      have hsk : sx.kids = LT.eraseL nks := by rw [← her]; rfl
      rw [hsk] at hj1 hj2 hk20
      rw [LT.eraseL_len] at hj1 hk20
      simp only [LT.Wf] at hnw
      rcases nh with _ | ⟨nb, nc⟩
      · exfalso
        have := hnw.1 rfl
        subst this
        simp at hj1
      have hr : (LT.rows ks)[i']? = some [.int .i64 nid, .str nk, .str nt, .dref nb nks.length nc] := by simp only [LT.rows, List.getElem?_map, g, Option.map_some]; rfl
      have hpl := treePlace_pure (.mk nid nk nt (LT.eraseL nks)) x (by simp only [T.kids]; rw [LT.eraseL_len]; omega)
      simp only [T.kids] at hpl
      rw [hj2] at hpl
      have hnv := LT.viewA (.mk nid nk nt (some (nb, nc)) nks) (by simp only [LT.Wf]; exact hnw) (fun e he => hin e (hnin e he))
      have w1 : IntKind.i64.wrap ((j : Int) + ((1 : Nat) : Int)) = ((j + 1 : Nat) : Int) := by rw [wrap64 (by omega) (by omega)]; simp
      have hnroot0 : ent nb nc 4 (LT.rows nks) ∈ (LT.mk nid nk nt (some (nb, nc)) nks).ents := by simp [LT.ents, rootE]
      have hnroot : ent nb nc 4 (LT.rows nks) ∈ es := hin _ (hnin _ hnroot0)
      have hnbl : nb ∈ (LT.mk nid nk nt (some (nb, nc)) nks).ents.map labOf := List.mem_map.2 ⟨_, hnroot0, labOf_ent _ _ _ _⟩
      have hcut : cutKid x (.mk nid nk nt (some (nb, nc)) nks) = .mk nid nk nt (some (nb, nc)) (nks.eraseIdx j) := by simp only [cutKid, hj2, Int.toNat_natCast]
      have hlen : (nks.eraseIdx j).length = nks.length - 1 := List.length_eraseIdx_of_lt hj1
      rw [hcut] at hall
      obtain ⟨es1, hes1⟩ : ∃ y, y = putEnt nb (LT.rows (nks.eraseIdx j)) es := ⟨_, rfl⟩
      obtain ⟨es2, hes2⟩ : ∃ y, y = putEnt b' ((LT.rows ks).set i' (LT.mk nid nk nt (some (nb, nc)) (nks.eraseIdx j)).cells) es1 := ⟨_, rfl⟩
      have hm1 : ent b' c' 4 (LT.rows ks) ∈ es1 := hes1 ▸ putEnt_other (hin _ m) (by rw [labOf_ent]; intro h; rw [h] at hnb; exact hnb hnbl)
      conv => whnf
      refine ⟨0, c', LT.rows ks, _, hin _ m, hr, ?_⟩
      conv => whnf
      refine ⟨.int .i64 (j : Int), .inr ⟨es, [.agg (T.mk nid nk nt (LT.eraseL nks)).cells, .int .i64 x], fun e he => ⟨0, he⟩, viewL2 hnv (.same _), rfl, hpl.mono fun r hr => ⟨by rw [hr]; rfl, hr⟩⟩, ?_⟩
      conv => whnf
      refine ⟨0, c', LT.rows ks, _, hin _ m, hr, ?_⟩
      conv => whnf
      refine .inr (.inl ⟨[0], false, ?_⟩)
      conv => whnf
      refine (delete_to es nb nks.length nc j _ (LT.rows nks) w1 hnroot (LT.rows_len _) hj1 (by omega) (rows_wid _)).mono ?_
      rintro o st' ⟨rfl, rfl⟩
      rw [rows_erase, ← hes1]
      conv => whnf
      refine ⟨0, c', LT.rows ks, _, es2, hm1, hr, by rw [hes2]; simp only [LT.cells, hdV, hlen]; rfl, ?_⟩
      conv => whnf
      refine ⟨[], true, ?_⟩
      conv => whnf
      refine ⟨rfl, es2, ?_, ?_⟩
      · simp only [boxO, hcl]; rfl
      · simp only [LT.ents] at hnd hnb hnin hall
        refine hall es2 (fun e he => ?_) (fun e he k1 k2 => hes2 ▸ putEnt_other (hes1 ▸ putEnt_other (hin e he) (fun hl => k1 (by rw [hl]; exact hnbl))) k2) (hes2 ▸ putEnt_mem hm1)
        rcases List.mem_append.1 he with he | he
        · have he' := ents_erase _ _ e he
          refine hes2 ▸ putEnt_other (hes1 ▸ putEnt_other (hin e (hnin e (List.mem_append_left _ he'))) fun hl => ?_) (fun hl => hnb (by rw [← hl]; exact List.mem_map_of_mem (List.mem_append_left _ he')))
          exact (nodup_app hnd).2.2 e he' (by rw [hl]; simp [rootE, ent, labOf])
        · simp only [rootE, List.mem_singleton] at he
          subst he
          refine hes2 ▸ putEnt_other (hes1 ▸ putEnt_mem hnroot) ?_
          rw [labOf_ent]; intro h; rw [← h] at hnb; exact hnb hnbl
    · simp only [LT.id] at h0
      have hse : s = .mk id kind text (LT.eraseL kids) := by
        simp only [LT.erase, fT, if_pos h0, Option.some.injEq] at hf; exact hf.symm
      subst hse
      simp only [T.kids] at hj1 hj2
      have hkl := LT.len_sizeL kids
      simp only [LT.kids] at hz
      rw [LT.eraseL_len] at hj1
      have hpl := treePlace_pure (.mk id kind text (LT.eraseL kids)) x (by simp only [T.kids]; rw [LT.eraseL_len]; omega)
      simp only [T.kids] at hpl
      rw [hj2] at hpl
      simp only [LT.Wf] at hw
      exfalso
      have := hw.1 trivial
      subst this
      simp at hj1
  · refine full_of_awp good Try.func105 rfl (by kernel_rfl) (by decide) ?_
    conv => whnf
    refine ⟨.int .i64 ov, .inr ⟨es, [.agg (T.mk id kind text (LT.eraseL kids)).cells, .int .i64 x], fun e he => ⟨0, he⟩, viewL2 hv (.same _), rfl, ho.mono fun r hr => ⟨by rw [hr]; rfl, hr⟩⟩, ?_⟩
    conv => whnf
    by_cases h1 : 1 ≤ ov
    rotate_left
    · rw [ltB_t (by omega), if_neg h1]
      conv => whnf
      refine ⟨[], true, ?_⟩
      conv => whnf
      exact ⟨rfl, rfl⟩
    rw [ltB_f (by omega), if_pos h1]
    conv => whnf
    obtain ⟨s, hf, hok, hcount⟩ : ∃ s, fT (LT.mk id kind text _ kids).erase ov = some s ∧ okT s = true ∧ (s.kids.map T.id).count x = 1 := by
      rcases hoc with ⟨h, _⟩ | ⟨_, h, _⟩ | ⟨_, s, h2, h3, h4⟩
      · omega
      · omega
      · exact ⟨s, (findT_spec h2).2.1, h3, h4⟩
    have hxin : x ∈ s.kids.map T.id := List.count_pos_iff.1 (by omega)
    obtain ⟨j, hj1, hj2⟩ := placeGo_in x s.kids 0 hxin
    rw [Nat.zero_add] at hj2
    refine ⟨[0, 1], true, ?_⟩
    conv => whnf
    refine hc.mono ?_
    rintro o st' ⟨rfl, rfl⟩
    rcases hcs with ⟨h0, rfl, rfl⟩ | ⟨rfl, rfl, hno⟩ | ⟨b', i', l', sx, rfl, rfl, hcl, hsx, hD⟩
    rotate_left
    · rw [hno] at hf; cases hf
    · obtain ⟨c', ks, node, m, g, her, hid, hnw, hnd, hnin, hnb, hall⟩ := hD
      have hss : sx = s := by rw [hsx] at hf; cases hf; rfl
      subst hss
      have hk20 : sx.kids.length ≤ 20 := by
        have h1 := okT_len hok
        have h2 := (kidIds_sub sx.kids).length_le
        rw [List.length_map] at h2
        cases sx with
        | mk a1 a2 a3 a4 =>
        simp only [T.ids, T.kids, List.length_cons] at h1 h2 ⊢
        omega
      cases node with
      | mk nid nk nt nh nks =>
      have hsk : sx.kids = LT.eraseL nks := by rw [← her]; rfl
      rw [hsk] at hj1 hj2 hk20
      rw [LT.eraseL_len] at hj1 hk20
      simp only [LT.Wf] at hnw
      rcases nh with _ | ⟨nb, nc⟩
      · exfalso
        have := hnw.1 rfl
        subst this
        simp at hj1
      have hr : (LT.rows ks)[i']? = some [.int .i64 nid, .str nk, .str nt, .dref nb nks.length nc] := by simp only [LT.rows, List.getElem?_map, g, Option.map_some]; rfl
      have hpl := treePlace_pure (.mk nid nk nt (LT.eraseL nks)) x (by simp only [T.kids]; rw [LT.eraseL_len]; omega)
      simp only [T.kids] at hpl
      rw [hj2] at hpl
      have hnv := LT.viewA (.mk nid nk nt (some (nb, nc)) nks) (by simp only [LT.Wf]; exact hnw) (fun e he => hin e (hnin e he))
      have w1 : IntKind.i64.wrap ((j : Int) + ((1 : Nat) : Int)) = ((j + 1 : Nat) : Int) := by rw [wrap64 (by omega) (by omega)]; simp
      have hnroot0 : ent nb nc 4 (LT.rows nks) ∈ (LT.mk nid nk nt (some (nb, nc)) nks).ents := by simp [LT.ents, rootE]
      have hnroot : ent nb nc 4 (LT.rows nks) ∈ es := hin _ (hnin _ hnroot0)
      have hnbl : nb ∈ (LT.mk nid nk nt (some (nb, nc)) nks).ents.map labOf := List.mem_map.2 ⟨_, hnroot0, labOf_ent _ _ _ _⟩
      have hcut : cutKid x (.mk nid nk nt (some (nb, nc)) nks) = .mk nid nk nt (some (nb, nc)) (nks.eraseIdx j) := by simp only [cutKid, hj2, Int.toNat_natCast]
      have hlen : (nks.eraseIdx j).length = nks.length - 1 := List.length_eraseIdx_of_lt hj1
      rw [hcut] at hall
      obtain ⟨es1, hes1⟩ : ∃ y, y = putEnt nb (LT.rows (nks.eraseIdx j)) es := ⟨_, rfl⟩
      obtain ⟨es2, hes2⟩ : ∃ y, y = putEnt b' ((LT.rows ks).set i' (LT.mk nid nk nt (some (nb, nc)) (nks.eraseIdx j)).cells) es1 := ⟨_, rfl⟩
      have hm1 : ent b' c' 4 (LT.rows ks) ∈ es1 := hes1 ▸ putEnt_other (hin _ m) (by rw [labOf_ent]; intro h; rw [h] at hnb; exact hnb hnbl)
      conv => whnf
      refine ⟨0, c', LT.rows ks, _, hin _ m, hr, ?_⟩
      conv => whnf
      refine ⟨.int .i64 (j : Int), .inr ⟨es, [.agg (T.mk nid nk nt (LT.eraseL nks)).cells, .int .i64 x], fun e he => ⟨0, he⟩, viewL2 hnv (.same _), rfl, hpl.mono fun r hr => ⟨by rw [hr]; rfl, hr⟩⟩, ?_⟩
      conv => whnf
      refine ⟨0, c', LT.rows ks, _, hin _ m, hr, ?_⟩
      conv => whnf
      refine .inr (.inl ⟨[0], false, ?_⟩)
      conv => whnf
      refine (delete_to es nb nks.length nc j _ (LT.rows nks) w1 hnroot (LT.rows_len _) hj1 (by omega) (rows_wid _)).mono ?_
      rintro o st' ⟨rfl, rfl⟩
      rw [rows_erase, ← hes1]
      conv => whnf
      refine ⟨0, c', LT.rows ks, _, es2, hm1, hr, by rw [hes2]; simp only [LT.cells, hdV, hlen]; rfl, ?_⟩
      conv => whnf
      refine ⟨[], true, ?_⟩
      conv => whnf
      refine ⟨rfl, es2, ?_, ?_⟩
      · simp only [boxO, hcl]; rfl
      · simp only [LT.ents] at hnd hnb hnin hall
        refine hall es2 (fun e he => ?_) (fun e he k1 k2 => hes2 ▸ putEnt_other (hes1 ▸ putEnt_other (hin e he) (fun hl => k1 (by rw [hl]; exact hnbl))) k2) (hes2 ▸ putEnt_mem hm1)
        rcases List.mem_append.1 he with he | he
        · have he' := ents_erase _ _ e he
          refine hes2 ▸ putEnt_other (hes1 ▸ putEnt_other (hin e (hnin e (List.mem_append_left _ he'))) fun hl => ?_) (fun hl => hnb (by rw [← hl]; exact List.mem_map_of_mem (List.mem_append_left _ he')))
          exact (nodup_app hnd).2.2 e he' (by rw [hl]; simp [rootE, ent, labOf])
        · simp only [rootE, List.mem_singleton] at he
          subst he
          refine hes2 ▸ putEnt_other (hes1 ▸ putEnt_mem hnroot) ?_
          rw [labOf_ent]; intro h; rw [← h] at hnb; exact hnb hnbl
    · simp only [LT.id] at h0
      have hse : s = .mk id kind text (LT.eraseL kids) := by
        simp only [LT.erase, fT, if_pos h0, Option.some.injEq] at hf; exact hf.symm
      subst hse
      simp only [T.kids] at hj1 hj2
      have hkl := LT.len_sizeL kids
      simp only [LT.kids] at hz
      rw [LT.eraseL_len] at hj1
      have hpl := treePlace_pure (.mk id kind text (LT.eraseL kids)) x (by simp only [T.kids]; rw [LT.eraseL_len]; omega)
      simp only [T.kids] at hpl
      rw [hj2] at hpl
      simp only [LT.Wf] at hw
      have w1 : IntKind.i64.wrap ((j : Int) + ((1 : Nat) : Int)) = ((j + 1 : Nat) : Int) := by rw [wrap64 (by omega) (by omega)]; simp
      have hroot : ent b c 4 (LT.rows kids) ∈ es := hin _ (by simp [LT.ents, rootE])
      have hcut : cutKid x (.mk id kind text (some (b, c)) kids) = .mk id kind text (some (b, c)) (kids.eraseIdx j) := by simp only [cutKid, hj2, Int.toNat_natCast]
      have hlen : (kids.eraseIdx j).length = kids.length - 1 := List.length_eraseIdx_of_lt hj1
      conv => whnf
      refine ⟨.int .i64 (j : Int), .inr ⟨es, [.agg (T.mk id kind text (LT.eraseL kids)).cells, .int .i64 x], fun e he => ⟨0, he⟩, viewL2 hv (.same _), rfl, hpl.mono fun r hr => ⟨by rw [hr]; rfl, hr⟩⟩, ?_⟩
      conv => whnf
      refine .inr (.inl ⟨[0], false, ?_⟩)
      conv => whnf
      refine (delete_to es b kids.length c j _ (LT.rows kids) w1 hroot (LT.rows_len _) hj1 (by omega) (rows_wid _)).mono ?_
      rintro o st' ⟨rfl, rfl⟩
      rw [rows_erase]
      conv => whnf
      refine ⟨[], true, ?_⟩
      conv => whnf
      refine ⟨rfl, putEnt b (LT.rows (kids.eraseIdx j)) es, ?_, ?_⟩
      · rw [hcut]; simp only [boxO, LT.cells, hdV, hlen]; rfl
      · rw [hcut]
        intro e he
        simp only [LT.ents] at he hn hin
        rcases List.mem_append.1 he with he | he
        · refine putEnt_other (hin e (List.mem_append_left _ (ents_erase _ _ e he))) fun hl => ?_
          exact (nodup_app hn).2.2 e (ents_erase _ _ e he) (by rw [hl]; simp [rootE, ent, labOf])
        · simp only [rootE, List.mem_singleton] at he
          subst he
          exact putEnt_mem hroot
end Go.Cod

namespace Go.Cod
open Go Go.Proofs
set_option maxRecDepth 10000

/- Trees behind a step. -/
mutual
/-- A tree, in which what has a number is another one, wherever that stands. -/
def T.mapAt (x : Int) (f : T → T) : T → T
  | .mk id kind text kids => if id = x then f (.mk id kind text kids) else .mk id kind text (T.mapAtL x f kids)
def T.mapAtL (x : Int) (f : T → T) : List T → List T
  | [] => []
  | t :: ts => T.mapAt x f t :: T.mapAtL x f ts
end
mutual
/-- .. the first one only. -/
def T.upd (x : Int) (f : T → T) : T → Option T
  | .mk id kind text kids => if id = x then some (f (.mk id kind text kids)) else (T.updL x f kids).map fun ks => .mk id kind text ks
def T.updL (x : Int) (f : T → T) : List T → Option (List T)
  | [] => none
  | t :: ts => match T.upd x f t with
    | some t' => some (t' :: ts)
    | none => (T.updL x f ts).map (t :: ·)
end
mutual
/-- A tree without what has a number. -/
def T.cut (x : Int) : T → T
  | .mk id kind text kids => .mk id kind text (T.cutL x kids)
def T.cutL (x : Int) : List T → List T
  | [] => []
  | t :: ts => if t.id = x then T.cutL x ts else T.cut x t :: T.cutL x ts
end
mutual
theorem T.mapAt_none (x : Int) (f : T → T) : ∀ t : T, x ∉ t.ids → t.mapAt x f = t
  | .mk id kind text kids, h => by
    simp only [T.ids, List.mem_cons, not_or] at h
    simp only [T.mapAt, if_neg (Ne.symm h.1), T.mapAtL_none x f kids h.2]
theorem T.mapAtL_none (x : Int) (f : T → T) : ∀ ts : List T, x ∉ T.idsL ts → T.mapAtL x f ts = ts
  | [], _ => rfl
  | t :: ts, h => by
    simp only [T.idsL, List.mem_append, not_or] at h
    simp only [T.mapAtL, T.mapAt_none x f t h.1, T.mapAtL_none x f ts h.2]
end
mutual
theorem T.upd_none (x : Int) (f : T → T) : ∀ t : T, x ∉ t.ids → t.upd x f = none
  | .mk id kind text kids, h => by
    simp only [T.ids, List.mem_cons, not_or] at h
    simp only [T.upd, if_neg (Ne.symm h.1), T.updL_none x f kids h.2, Option.map_none]
theorem T.updL_none (x : Int) (f : T → T) : ∀ ts : List T, x ∉ T.idsL ts → T.updL x f ts = none
  | [], _ => rfl
  | t :: ts, h => by
    simp only [T.idsL, List.mem_append, not_or] at h
    simp only [T.updL, T.upd_none x f t h.1, T.updL_none x f ts h.2, Option.map_none]
end
mutual
theorem T.upd_map (x : Int) (f : T → T) : ∀ t : T, x ∈ t.ids → t.ids.Nodup → t.upd x f = some (t.mapAt x f)
  | .mk id kind text kids, h, hn => by
    simp only [T.ids, List.mem_cons, List.nodup_cons] at h hn
    by_cases hid : id = x
    · simp only [T.upd, T.mapAt, if_pos hid]
    · have h : x ∈ T.idsL kids := by
        rcases h with h | h
        · exact absurd h.symm hid
        · exact h
      simp only [T.upd, T.mapAt, if_neg hid, T.updL_map x f kids h hn.2, Option.map_some]
theorem T.updL_map (x : Int) (f : T → T) : ∀ ts : List T, x ∈ T.idsL ts → (T.idsL ts).Nodup → T.updL x f ts = some (T.mapAtL x f ts)
  | [], h, _ => by simp [T.idsL] at h
  | t :: ts, h, hn => by
    simp only [T.idsL, List.mem_append, List.nodup_append] at h hn
    by_cases hx : x ∈ t.ids
    · have hx2 : x ∉ T.idsL ts := fun h2 => hn.2.2 x hx x h2 rfl
      simp only [T.updL, T.mapAtL, T.upd_map x f t hx hn.1, T.mapAtL_none x f ts hx2]
    · have h : x ∈ T.idsL ts := by
        rcases h with h | h
        · exact absurd h hx
        · exact h
      simp only [T.updL, T.mapAtL, T.upd_none x f t hx, T.mapAt_none x f t hx, T.updL_map x f ts h hn.2.1, Option.map_some]
end
/- Labelled trees edited are trees edited. -/
mutual
theorem LT.upd_erase (x : Int) (f : LT → LT) (g : T → T) (hf : ∀ n : LT, (f n).erase = g n.erase) : ∀ l : LT, l.Wf → (l.upd x f).map LT.erase = l.erase.upd x g
  | .mk id kind text h kids, hw => by
    simp only [LT.Wf] at hw
    simp only [LT.upd, LT.erase, T.upd]
    by_cases hid : id = x
    · rw [if_pos hid, if_pos hid, Option.map_some, hf]; rfl
    · rw [if_neg hid, if_neg hid]
      have hk := LT.updL_erase x f g hf kids hw.2
      rcases h with _ | ⟨b, c⟩
      · rw [hw.1 rfl]; rfl
      · simp only
        rw [← hk]
        cases LT.updL x f kids with
        | none => rfl
        | some ks => rfl
theorem LT.updL_erase (x : Int) (f : LT → LT) (g : T → T) (hf : ∀ n : LT, (f n).erase = g n.erase) : ∀ ls : List LT, LT.WfL ls → (LT.updL x f ls).map LT.eraseL = T.updL x g (LT.eraseL ls)
  | [], _ => rfl
  | l :: ls, hw => by
    simp only [LT.WfL] at hw
    have h1 := LT.upd_erase x f g hf l hw.1
    have h2 := LT.updL_erase x f g hf ls hw.2
    simp only [LT.updL, LT.eraseL, T.updL]
    rw [← h1]
    cases LT.upd x f l with
    | some l' => rfl
    | none =>
      simp only [Option.map_none]
      rw [← h2]
      cases LT.updL x f ls with
      | none => rfl
      | some ks => rfl
end
mutual
theorem LT.upd_wf (x : Int) (f : LT → LT) (hf : ∀ n : LT, n.Wf → (f n).Wf) : ∀ (l l' : LT), l.Wf → l.upd x f = some l' → l'.Wf
  | .mk id kind text h kids, l', hw, e => by
    simp only [LT.upd] at e
    by_cases hid : id = x
    · rw [if_pos hid, Option.some.injEq] at e
      exact e ▸ hf _ hw
    · rw [if_neg hid] at e
      simp only [LT.Wf] at hw
      rcases h with _ | ⟨b, c⟩
      · cases e
      · simp only [Option.map_eq_some_iff] at e
        obtain ⟨ks, h1, rfl⟩ := e
        simp only [LT.Wf]
        exact ⟨by simp, LT.updL_wf x f hf kids ks hw.2 h1⟩
theorem LT.updL_wf (x : Int) (f : LT → LT) (hf : ∀ n : LT, n.Wf → (f n).Wf) : ∀ (ls ls' : List LT), LT.WfL ls → LT.updL x f ls = some ls' → LT.WfL ls'
  | [], _, _, e => by simp [LT.updL] at e
  | l :: ls, ls', hw, e => by
    simp only [LT.WfL] at hw
    simp only [LT.updL] at e
    cases h1 : LT.upd x f l with
    | some l1 =>
      rw [h1, Option.some.injEq] at e
      subst e
      exact ⟨LT.upd_wf x f hf l l1 hw.1 h1, hw.2⟩
    | none =>
      rw [h1] at e
      simp only [Option.map_eq_some_iff] at e
      obtain ⟨ks, h2, rfl⟩ := e
      exact ⟨hw.1, LT.updL_wf x f hf ls ks hw.2 h2⟩
end
/- Cutting. -/
mutual
theorem T.cut_none (x : Int) : ∀ t : T, x ∉ t.ids → t.cut x = t
  | .mk id kind text kids, h => by
    simp only [T.ids, List.mem_cons, not_or] at h
    simp only [T.cut, T.cutL_none x kids h.2]
theorem T.cutL_none (x : Int) : ∀ ts : List T, x ∉ T.idsL ts → T.cutL x ts = ts
  | [], _ => rfl
  | t :: ts, h => by
    simp only [T.idsL, List.mem_append, not_or] at h
    have : ¬ t.id = x := fun e => h.1 (e ▸ t.id_mem)
    simp only [T.cutL, if_neg this, T.cut_none x t h.1, T.cutL_none x ts h.2]
end
def cutKidT (x : Int) : T → T
  | .mk id kind text kids => .mk id kind text (kids.eraseIdx (placeGo x 0 kids).toNat)
theorem placeGo_at (x : Int) (k : T) (b : List T) (hk : k.id = x) : ∀ (a : List T) (i : Nat), x ∉ a.map T.id → placeGo x i (a ++ k :: b) = ((i + a.length : Nat) : Int)
  | [], i, _ => by simp only [List.nil_append, placeGo, if_pos hk]; rfl
  | t :: a, i, h => by
    simp only [List.map_cons, List.mem_cons, not_or] at h
    simp only [List.cons_append, placeGo, if_neg (Ne.symm h.1)]
    rw [placeGo_at x k b hk a (i + 1) h.2]
    congr 1
    simp only [List.length_cons]; omega
theorem idsL_kid {ts : List T} {x : Int} (h : x ∈ ts.map T.id) : x ∈ T.idsL ts := (kidIds_sub ts).subset h
theorem T.idsL_append (a b : List T) : T.idsL (a ++ b) = T.idsL a ++ T.idsL b := by
  induction a with
  | nil => rfl
  | cons t a ih => simp [T.idsL, ih]
theorem T.cutL_append (x : Int) (a b : List T) : T.cutL x (a ++ b) = T.cutL x a ++ T.cutL x b := by
  induction a with
  | nil => rfl
  | cons t a ih =>
    simp only [List.cons_append, T.cutL]
    split <;> simp [ih]
theorem cutL_kids (x : Int) (kids : List T) (hn : (T.idsL kids).Nodup) (hx : x ∈ kids.map T.id) : T.cutL x kids = kids.eraseIdx (placeGo x 0 kids).toNat := by
  obtain ⟨k, hk, hkx⟩ := List.mem_map.1 hx
  obtain ⟨a, b, rfl⟩ := List.append_of_mem hk
  rw [T.idsL_append] at hn
  simp only [T.idsL, List.nodup_append, List.mem_append] at hn
  have hkk : x ∈ k.ids := hkx ▸ k.id_mem
  have ha : x ∉ T.idsL a := fun h => hn.2.2 x h x (.inl hkk) rfl
  have hb : x ∉ T.idsL b := fun h => hn.2.1.2.2 x hkk x h rfl
  rw [T.cutL_append]
  simp only [T.cutL, if_pos hkx]
  rw [T.cutL_none x a ha, T.cutL_none x b hb, placeGo_at x k b hkx a 0 (fun h => ha (idsL_kid h))]
  rw [Nat.zero_add, Int.toNat_natCast, List.eraseIdx_append_of_length_le (Nat.le_refl _), Nat.sub_self]
  rfl
mutual
theorem fT_kid : ∀ (t : T) (p x : Int) (s : T), fT t p = some s → x ∈ s.kids.map T.id → x ∈ T.idsL t.kids
  | .mk id kind text kids, p, x, s, h, hx => by
    simp only [fT] at h
    simp only [T.kids]
    split at h
    · rw [Option.some.injEq] at h
      subst h
      exact idsL_kid hx
    · exact fL_kid kids p x s h hx
theorem fL_kid : ∀ (ts : List T) (p x : Int) (s : T), fL ts p = some s → x ∈ s.kids.map T.id → x ∈ T.idsL ts
  | [], _, _, _, h, _ => by simp [fL] at h
  | t :: ts, p, x, s, h, hx => by
    simp only [fL] at h
    simp only [T.idsL, List.mem_append]
    cases h1 : fT t p with
    | some s' =>
      rw [h1, Option.some.injEq] at h
      subst h
      have := fT_kid t p x s' h1 hx
      cases t with
      | mk a b c d => exact .inl (by simp only [T.ids, List.mem_cons]; exact .inr this)
    | none =>
      rw [h1] at h
      exact .inr (fL_kid ts p x s h hx)
end
mutual
theorem T.cut_map (x p : Int) : ∀ (t : T) (s : T), t.ids.Nodup → fT t p = some s → x ∈ s.kids.map T.id → t.cut x = t.mapAt p (cutKidT x)
  | .mk id kind text kids, s, hn, hf, hx => by
    simp only [T.ids, List.nodup_cons] at hn
    simp only [fT] at hf
    simp only [T.cut, T.mapAt]
    by_cases hid : id = p
    · rw [if_pos hid, Option.some.injEq] at hf
      subst hf
      rw [if_pos hid, cutL_kids x kids hn.2 hx]; rfl
    · rw [if_neg hid] at hf
      rw [if_neg hid, T.cutL_map x p kids s hn.2 hf hx]
theorem T.cutL_map (x p : Int) : ∀ (ts : List T) (s : T), (T.idsL ts).Nodup → fL ts p = some s → x ∈ s.kids.map T.id → T.cutL x ts = T.mapAtL p (cutKidT x) ts
  | [], _, _, hf, _ => by simp [fL] at hf
  | t :: ts, s, hn, hf, hx => by
    simp only [fL] at hf
    simp only [T.idsL, List.nodup_append] at hn
    simp only [T.cutL, T.mapAtL]
    cases h1 : fT t p with
    | some s' =>
      rw [h1, Option.some.injEq] at hf
      subst hf
      have hk := fT_kid t p x s' h1 hx
      have hpi : p ∈ t.ids := by
        refine Decidable.byContradiction fun h => ?_
        rw [(fT_none t p).2 h] at h1; cases h1
      have hxt : x ∈ t.ids := by
        cases t with
        | mk a b c d => simp only [T.ids, List.mem_cons]; exact .inr hk
      have hne : ¬ t.id = x := fun e => by
        cases t with
        | mk a b c d =>
        simp only [T.ids, List.nodup_cons] at hn
        exact hn.1.1 (show a ∈ T.idsL d from (show a = x from e) ▸ hk)
      have hx2 : x ∉ T.idsL ts := fun h => hn.2.2 x hxt x h rfl
      have hp2 : p ∉ T.idsL ts := fun h => hn.2.2 p hpi p h rfl
      rw [if_neg hne, T.cutL_none x ts hx2, T.mapAtL_none p _ ts hp2, T.cut_map x p t s' hn.1 h1 hx]
    | none =>
      rw [h1] at hf
      have hk := fL_kid ts p x s hf hx
      have hxt : x ∉ t.ids := fun h => hn.2.2 x h x hk rfl
      have hpt := (fT_none t p).1 h1
      have hne : ¬ t.id = x := fun e => hxt (e ▸ t.id_mem)
      rw [if_neg hne, T.cut_none x t hxt, T.mapAt_none p _ t hpt, T.cutL_map x p ts s hn.2.1 hf hx]
end
/- Sizes, and that all stays small. -/
theorem T.mapAtL_eq (x : Int) (f : T → T) (ts : List T) : T.mapAtL x f ts = ts.map (T.mapAt x f) := by
  induction ts with
  | nil => rfl
  | cons t ts ih => simp [T.mapAtL, ih]
mutual
theorem T.mapAt_small (x : Int) (f : T → T) (N : Nat) (hf : ∀ s : T, s.Small → s.id = x → s.size ≤ N → (f s).Small) : ∀ t : T, t.Small → t.size ≤ N → (t.mapAt x f).Small
  | .mk id kind text kids, h, hN => by
    have h' := h
    cases h with
    | mk g1 g2 g3 g4 g5 =>
    simp only [T.mapAt]
    split
    · rename_i hid
      exact hf _ h' hid hN
    · simp only [T.size] at hN
      exact .mk g1 g2 g3 (by rw [T.mapAtL_eq, List.length_map]; exact g4) (T.mapAtL_small x f N hf kids g5 (by omega))
theorem T.mapAtL_small (x : Int) (f : T → T) (N : Nat) (hf : ∀ s : T, s.Small → s.id = x → s.size ≤ N → (f s).Small) : ∀ ts : List T, (∀ t ∈ ts, t.Small) → T.sizeL ts ≤ N → ∀ t ∈ T.mapAtL x f ts, t.Small
  | [], _, _, t, h => by simp [T.mapAtL] at h
  | t :: ts, hs, hN, y, h => by
    simp only [T.sizeL] at hN
    have h0 := T.mapAt_small x f N hf t (hs t (by simp)) (by omega)
    simp only [T.mapAtL, List.mem_cons] at h
    rcases h with rfl | h
    · exact h0
    · exact T.mapAtL_small x f N hf ts (fun z hz => hs z (by simp [hz])) (by omega) y h
end
theorem T.cutL_len (x : Int) (ts : List T) : (T.cutL x ts).length ≤ ts.length := by
  induction ts with
  | nil => simp [T.cutL]
  | cons t ts ih =>
    simp only [T.cutL]
    split
    · simp only [List.length_cons]; omega
    · simp only [List.length_cons]; omega
mutual
theorem T.cut_small (x : Int) : ∀ t : T, t.Small → (t.cut x).Small ∧ (t.cut x).size ≤ t.size
  | .mk id kind text kids, h => by
    cases h with
    | mk g1 g2 g3 g4 g5 =>
    obtain ⟨h1, h2⟩ := T.cutL_small x kids g5
    simp only [T.cut, T.size]
    exact ⟨.mk g1 g2 g3 (by have := T.cutL_len x kids; omega) h1, by omega⟩
theorem T.cutL_small (x : Int) : ∀ ts : List T, (∀ t ∈ ts, t.Small) → (∀ t ∈ T.cutL x ts, t.Small) ∧ T.sizeL (T.cutL x ts) ≤ T.sizeL ts
  | [], _ => by simp [T.cutL]
  | t :: ts, hs => by
    obtain ⟨h1, h2⟩ := T.cut_small x t (hs t (by simp))
    obtain ⟨h3, h4⟩ := T.cutL_small x ts (fun z hz => hs z (by simp [hz]))
    simp only [T.cutL]
    split
    · exact ⟨h3, by simp only [T.sizeL]; omega⟩
    · refine ⟨fun y hy => ?_, by simp only [T.sizeL]; omega⟩
      rcases List.mem_cons.1 hy with rfl | hy
      · exact h1
      · exact h3 y hy
end
def putKidT (n : Nat) (y : T) : T → T
  | .mk id kind text kids => .mk id kind text (kids.take n ++ y :: kids.drop n)
def setT (k : List UInt8) (s : List UInt8) : T → T
  | .mk id _ _ kids => .mk id k s kids
theorem T.sizeL_put (n : Nat) (y : T) (ts : List T) : T.sizeL (ts.take n ++ y :: ts.drop n) = T.sizeL ts + y.size := by
  have : T.sizeL ts = T.sizeL (ts.take n) + T.sizeL (ts.drop n) := by rw [← T.sizeL_append, List.take_append_drop]
  rw [T.sizeL_append, this]
  simp only [T.sizeL]; omega
theorem putKidT_size (n : Nat) (y s : T) : (putKidT n y s).size = s.size + y.size := by
  cases s with
  | mk id kind text kids => simp only [putKidT, T.size, T.sizeL_put]; omega
theorem putKidT_small (n : Nat) (y s : T) (hs : s.Small) (hy : y.Small) (hz : s.size ≤ 1000000) : (putKidT n y s).Small := by
  have hlen : ∀ ts : List T, ts.length ≤ T.sizeL ts := fun ts => by
    induction ts with
    | nil => simp
    | cons t ts ih =>
      have : 1 ≤ t.size := by cases t; simp only [T.size]; omega
      simp only [T.sizeL, List.length_cons]; omega
  cases hs with
  | @mk id kind text kids g1 g2 g3 g4 g5 =>
  have := hlen kids
  simp only [T.size] at hz
  refine .mk g1 g2 g3 (by simp only [List.length_append, List.length_cons, List.length_take, List.length_drop]; omega) fun t ht => ?_
  rcases List.mem_append.1 ht with h | h
  · exact g5 t (List.mem_of_mem_take h)
  · rcases List.mem_cons.1 h with rfl | h
    · exact hy
    · exact g5 t (List.mem_of_mem_drop h)
theorem setT_size (k s : List UInt8) (t : T) : (setT k s t).size = t.size := by cases t; rfl
theorem setT_small (k s : List UInt8) (t : T) (ht : t.Small) (hk : k.length ≤ 1048576) (hs : s.length ≤ 1048576) : (setT k s t).Small := by
  cases ht with
  | mk g1 g2 g3 g4 g5 => exact .mk g1 hk hs g4 g5

/-- A step. -/
structure Stp where
  kind : Int
  id : Int
  at_ : Int
  node : T
  text : List UInt8
def Stp.cells (s : Stp) : List V := [.int .i64 s.kind, .int .i64 s.id, .int .i64 s.at_] ++ s.node.cells ++ [.str s.text]
def noneT : T → Bool
  | .mk id kind text kids => decide (id = 0) && decide (kind = []) && decide (text = []) && decide (kids.length = 0)
def bareT (s : Stp) : Bool :=
  if s.kind = 1 then decide (s.text = []) else if s.kind = 2 then noneT s.node && decide (s.text = []) && decide (s.at_ = 0) else noneT s.node && decide (s.at_ = 0)
/-- A tree behind a step, be it ok or not. -/
def editT (t : T) (s : Stp) : Option T := match fT t s.id with
  | none => none
  | some x => if bareT s = false then none else
    if s.kind = 1 then (if 0 ≤ s.at_ ∧ s.at_ ≤ x.kids.length ∧ okT s.node = true then some (t.mapAt s.id (putKidT s.at_.toNat s.node)) else none)
    else if s.kind = 2 then (if s.id = t.id then none else some (t.cut s.id))
    else if s.kind = 3 then some (t.mapAt s.id (setT x.kind s.text))
    else if s.kind = 4 then some (t.mapAt s.id (setT s.text x.text))
    else none
def doT (t : T) (s : Stp) : Option T := match editT t s with
  | none => none
  | some y => if okT y = true then some y else none
/-- What a step makes of a tree; false if it cannot be done. -/
def stepT (t : T) (s : Stp) : T × Bool := if okT t = true then (match doT t s with | some y => (y, true) | none => (t, false)) else (TZ, false)
end Go.Cod

namespace Go.Cod
open Go Go.Proofs
set_option maxRecDepth 10000

mutual
/-- Where something may be put at a place. -/
def T.PutOk (x : Int) (n : Nat) : T → Prop
  | .mk id _ _ kids => if id = x then n ≤ kids.length else T.PutOkL x n kids
def T.PutOkL (x : Int) (n : Nat) : List T → Prop
  | [] => True
  | t :: ts => T.PutOk x n t ∧ T.PutOkL x n ts
end
theorem T.PutOkL_mem {x : Int} {n : Nat} {ts : List T} (h : T.PutOkL x n ts) : ∀ t ∈ ts, T.PutOk x n t := by
  induction ts with
  | nil => simp
  | cons t ts ih =>
    intro y hy
    rcases List.mem_cons.1 hy with rfl | hy
    · exact h.1
    · exact ih h.2 y hy
theorem T.mapAtL_len (x : Int) (f : T → T) (ts : List T) : (T.mapAtL x f ts).length = ts.length := by rw [T.mapAtL_eq, List.length_map]
theorem T.mapAtL_rows (x : Int) (f : T → T) (ts : List T) (i : Nat) (h : i < ts.length) : T.rows ((T.mapAtL x f ts).take (i + 1)) = T.rows ((T.mapAtL x f ts).take i) ++ [(ts[i].mapAt x f).cells] := by
  rw [T.mapAtL_eq, T.rows_eq, T.rows_eq, List.take_succ_eq_append_getElem (by simpa using h), List.map_append]
  simp
theorem T.rows_put (n : Nat) (y : T) (ts : List T) : T.rows (ts.take n ++ y :: ts.drop n) = (T.rows ts).take n ++ y.cells :: (T.rows ts).drop n := by
  simp only [T.rows_eq, List.map_append, List.map_cons, List.map_take, List.map_drop]
set_option maxHeartbeats 4000000 in
theorem l4Put_at (t : T) (ht : t.Small) (x : Int) (n : Nat) (y : T) (hid : t.id = x) (hn : n ≤ t.kids.length) :
    Pure Try.prog 69 [.agg t.cells, .int .i64 x, .int .i64 n, .agg y.cells] (· = .agg (putKidT n y t).cells) := by
  cases ht with
  | @mk id kind text kids g1 g2 g3 g4 g5 =>
  cases y with
  | mk yi yk yx yks =>
  simp only [T.id] at hid
  simp only [T.kids] at hn
  subst hid
  have hlr := Go.Cod.rows_len kids
  have hw := T.rows_wid kids
  have hput := T.rows_put n (.mk yi yk yx yks) kids
  refine pure_of_awp good Try.func69 rfl (by kernel_rfl) (by decide) ?_
  conv => whnf
  rw [eqB_refl]
  conv => whnf
  refine ⟨hw, by omega, by show n ≤ (T.rows kids).length; omega, ?_⟩
  conv => whnf
  have hA : (T.rows kids).take (n : Int).toNat = (T.rows kids).take n := rfl
  have hB : (((T.rows kids).take (T.rows kids).length).drop (n : Int).toNat) = (T.rows kids).drop n := by rw [List.take_length]; rfl
  have hAl : ((T.rows kids).take n).length = n := by rw [List.length_take]; omega
  have hBl : ((T.rows kids).drop n).length = kids.length - n := by rw [List.length_drop]; omega
  have hBw : ∀ r ∈ (T.rows kids).drop n, r.length = 4 := fun r hr => hw r (List.mem_of_mem_drop hr)
  rw [← hA] at hput hAl
  rw [← hB] at hput hBl hBw
  refine ⟨fun m hm => hw m (List.mem_of_mem_take hm), by show ((T.rows kids).take (n : Int).toNat).length * 64 ≤ _; omega, ?_⟩
  generalize (T.rows kids).take (n : Int).toNat = A at *
  cases A with
  | nil =>
    refine .inl ⟨rfl, ?_⟩
    conv => whnf
    refine ⟨fun m hm => by rw [List.mem_singleton.1 hm]; rfl, ?_⟩
    conv => whnf
    refine ⟨by show 1 * 64 ≤ _; omega, .inr ⟨(by intro e; cases e), ?_⟩⟩
    conv => whnf
    refine ⟨hw, by omega, by show n ≤ (T.rows kids).length; omega, ?_⟩
    conv => whnf
    refine ⟨hBw, ?_⟩
    conv => whnf
    refine ⟨by show (1 + (((T.rows kids).take (T.rows kids).length).drop (n : Int).toNat).length) * 64 ≤ _; omega, ?_⟩
    conv => whnf
    simp only [putKidT, T.cells]
    rw [hput]
    rfl
  | cons a A =>
    refine .inr ⟨by simp, ?_⟩
    conv => whnf
    refine ⟨fun m hm => by rw [List.mem_singleton.1 hm]; rfl, ?_⟩
    conv => whnf
    refine ⟨by show ((a :: A).length + 1) * 64 ≤ _; omega, ?_⟩
    conv => whnf
    refine ⟨hw, by omega, by show n ≤ (T.rows kids).length; omega, ?_⟩
    conv => whnf
    refine ⟨hBw, ?_⟩
    conv => whnf
    refine ⟨by
      simp only [List.length_append, List.length_map, List.length_drop, List.length_cons, List.length_nil, List.length_take] at hAl hBl ⊢
      show (A.length + 1 + (0 + 1) + _) * 64 ≤ _
      omega, ?_⟩
    conv => whnf
    simp only [putKidT, T.cells]
    rw [hput, show ∀ (c : List V) (B : List (List V)), a :: A ++ c :: B = (a :: A ++ [c]) ++ B by simp]
    rfl
theorem l4Put_in1 (t : T) (ht : t.Small) (x : Int) (n : Nat) (y : T) (hid : ¬ t.id = x) (hT : ∀ t' ∈ t.kids, Pure Try.prog 69 [.agg t'.cells, .int .i64 x, .int .i64 n, .agg y.cells] (· = .agg (t'.mapAt x (putKidT n y)).cells)) :
    Pure Try.prog 69 [.agg t.cells, .int .i64 x, .int .i64 n, .agg y.cells] (· = .agg (t.mapAt x (putKidT n y)).cells) := by
  cases ht with
  | @mk id kind text kids g1 g2 g3 g4 g5 =>
  simp only [T.kids] at hT
  simp only [T.id] at hid
  simp only [T.mapAt, if_neg hid]
  have hlr := Go.Cod.rows_len kids
  have hrow := T.mapAtL_rows x (putKidT n y) kids
  have hlen := T.mapAtL_len x (putKidT n y) kids
  generalize T.mapAtL x (putKidT n y) kids = ks at *
  generalize hf : T.mapAt x (putKidT n y) = f at *
  cases y with
  | mk yi yk yx yks =>
  refine pure_of_awp good Try.func69 rfl (by kernel_rfl) (by decide) ?_
  conv => whnf
  rw [eqB_f hid]
  conv => whnf
  refine loop_drop (fun m fr st => ∃ i : Nat, m + i = kids.length ∧
      ((i = 0 ∧ Holds fr [(1, .int .i64 x), (2, .int .i64 n), (4, .ptr 0 0 0), (7, .ptr 1 0 0), (8, .ptr 2 0 0), (10, .nils), (11, .int .i64 0)] ∧ st = [⟨[[.int .i64 id, .str kind, .str text, .sl (T.rows kids)]], 4, true, true, true, .cell⟩, ⟨[[.int .i64 yi, .str yk, .str yx, .sl (T.rows yks)]], 4, true, true, true, .cell⟩, ⟨[zrow], 4, true, true, true, .cell⟩]) ∨
       (0 < i ∧ Holds fr [(1, .int .i64 x), (2, .int .i64 n), (4, .ptr 0 0 0), (7, .ptr 1 0 0), (8, .ptr 2 0 0), (10, .own 3), (11, .int .i64 i)] ∧ st = [⟨[[.int .i64 id, .str kind, .str text, .sl (T.rows kids)]], 4, true, true, true, .cell⟩, ⟨[[.int .i64 yi, .str yk, .str yx, .sl (T.rows yks)]], 4, true, true, true, .cell⟩, ⟨[zrow], 4, true, true, true, .cell⟩, ⟨T.rows (ks.take i), 4, true, true, false, .cell⟩]))) kids.length none
    ⟨0, rfl, .inl ⟨rfl, ⟨rfl, rfl, rfl, rfl, rfl, rfl, rfl, trivial⟩, rfl⟩⟩ ?_
  rintro m fr st ⟨i, hi, ⟨rfl, hh, rfl⟩ | ⟨hi0, hh, rfl⟩⟩
  · obtain ⟨fr, rfl⟩ := hh.split
    clear hh
    conv => whnf
    by_cases hlt : 0 < kids.length
    · rw [hlr, ltB_t (by omega)]
      have hc := hT kids[0] (List.getElem_mem _)
      have htk := hrow 0 hlt
      have hg := Go.Cod.rows_get kids 0 hlt
      generalize kids[0] = t at hc htk hg
      generalize f t = ft at hc htk
      cases t with
      | mk id' kind' text' kids' =>
      cases ft with
      | mk fi fk fx fks =>
      conv => whnf
      refine ⟨by omega, T.rows kids, _, 4, rfl, hg, rfl, rfl, ?_⟩
      conv => whnf
      refine ⟨_, .inl hc, ?_⟩
      conv => whnf
      refine ⟨fun m hm => by rw [List.mem_singleton.1 hm]; rfl, ?_⟩
      conv => whnf
      refine ⟨by show 1 * 64 ≤ _; omega, .inr ⟨(by intro e; cases e), ?_⟩⟩
      conv => whnf
      refine ⟨m - 1, by omega, some [0, 1, 2, 4], ?_⟩
      conv => whnf
      refine ⟨1, by omega, .inr ⟨by omega, ⟨rfl, rfl, rfl, rfl, rfl, rfl, rfl, trivial⟩, ?_⟩⟩
      rw [htk]
      rfl
    · rw [hlr, ltB_f (by omega)]
      conv => whnf
      have : kids = [] := List.eq_nil_of_length_eq_zero (by omega)
      subst this
      have : ks = [] := List.eq_nil_of_length_eq_zero hlen
      subst this
      rfl
  · obtain ⟨fr, rfl⟩ := hh.split
    clear hh
    conv => whnf
    by_cases hlt : i < kids.length
    · rw [hlr, ltB_t (by omega)]
      have hc := hT kids[i] (List.getElem_mem _)
      have htk := hrow i hlt
      have hg := Go.Cod.rows_get kids i hlt
      generalize kids[i] = t at hc htk hg
      generalize f t = ft at hc htk
      cases t with
      | mk id' kind' text' kids' =>
      cases ft with
      | mk fi fk fx fks =>
      conv => whnf
      refine ⟨by omega, T.rows kids, _, 4, rfl, hg, rfl, rfl, ?_⟩
      conv => whnf
      refine ⟨_, .inl hc, ?_⟩
      conv => whnf
      refine ⟨fun m hm => by rw [List.mem_singleton.1 hm]; rfl, ?_⟩
      conv => whnf
      refine ⟨by
        show ((T.rows (ks.take i)).length + 1) * 64 ≤ _
        rw [Go.Cod.rows_len, List.length_take]; omega, ?_⟩
      conv => whnf
      refine ⟨m - 1, by omega, some [0, 1, 2, 5], ?_⟩
      conv => whnf
      refine ⟨i + 1, by omega, .inr ⟨by omega, ⟨rfl, rfl, rfl, rfl, rfl, rfl, ?_, trivial⟩, ?_⟩⟩
      · show V.int .i64 (IntKind.i64.wrap (i + 1)) = _
        rw [wrap64 (by omega) (by omega)]; simp
      · rw [htk]
        rfl
    · rw [hlr, ltB_f (by omega)]
      conv => whnf
      rw [List.take_of_length_le (by omega)]
      rfl
theorem l4Put_pure (t : T) (ht : t.Small) (x : Int) (n : Nat) (y : T) (hp : t.PutOk x n) : Pure Try.prog 69 [.agg t.cells, .int .i64 x, .int .i64 n, .agg y.cells] (· = .agg (t.mapAt x (putKidT n y)).cells) := by
  induction ht with
  | @mk id kind text kids g1 g2 g3 g4 g5 ih =>
    simp only [T.PutOk] at hp
    by_cases hid : id = x
    · rw [if_pos hid] at hp
      have := l4Put_at (.mk id kind text kids) (.mk g1 g2 g3 g4 g5) x n y hid hp
      simp only [T.mapAt, if_pos hid]
      exact this
    · rw [if_neg hid] at hp
      exact l4Put_in1 _ (.mk g1 g2 g3 g4 g5) x n y hid fun t' h => ih t' h (T.PutOkL_mem hp t' h)
theorem l4Set_at (t : T) (ht : t.Small) (x : Int) (k w : List UInt8) (hid : t.id = x) : Pure Try.prog 71 [.agg t.cells, .int .i64 x, .str k, .str w] (· = .agg (setT k w t).cells) := by
  cases ht with
  | @mk id kind text kids g1 g2 g3 g4 g5 =>
  simp only [T.id] at hid
  subst hid
  refine pure_of_awp good Try.func71 rfl (by kernel_rfl) (by decide) ?_
  conv => whnf
  rw [eqB_refl]
  conv => whnf
  rfl
theorem l4Set_in1 (t : T) (ht : t.Small) (x : Int) (k w : List UInt8) (hid : ¬ t.id = x) (hT : ∀ t' ∈ t.kids, Pure Try.prog 71 [.agg t'.cells, .int .i64 x, .str k, .str w] (· = .agg (t'.mapAt x (setT k w)).cells)) :
    Pure Try.prog 71 [.agg t.cells, .int .i64 x, .str k, .str w] (· = .agg (t.mapAt x (setT k w)).cells) := by
  cases ht with
  | @mk id kind text kids g1 g2 g3 g4 g5 =>
  simp only [T.kids] at hT
  simp only [T.id] at hid
  simp only [T.mapAt, if_neg hid]
  have hlr := Go.Cod.rows_len kids
  have hrow := T.mapAtL_rows x (setT k w) kids
  have hlen := T.mapAtL_len x (setT k w) kids
  generalize T.mapAtL x (setT k w) kids = ks at *
  generalize hf : T.mapAt x (setT k w) = f at *
  refine pure_of_awp good Try.func71 rfl (by kernel_rfl) (by decide) ?_
  conv => whnf
  rw [eqB_f hid]
  conv => whnf
  refine loop_drop (fun m fr st => ∃ i : Nat, m + i = kids.length ∧
      ((i = 0 ∧ Holds fr [(1, .int .i64 x), (2, .str k), (3, .str w), (4, .ptr 0 0 0), (8, .ptr 1 0 0), (9, .nils), (10, .int .i64 0)] ∧ st = [⟨[[.int .i64 id, .str kind, .str text, .sl (T.rows kids)]], 4, true, true, true, .cell⟩, ⟨[zrow], 4, true, true, true, .cell⟩]) ∨
       (0 < i ∧ Holds fr [(1, .int .i64 x), (2, .str k), (3, .str w), (4, .ptr 0 0 0), (8, .ptr 1 0 0), (9, .own 2), (10, .int .i64 i)] ∧ st = [⟨[[.int .i64 id, .str kind, .str text, .sl (T.rows kids)]], 4, true, true, true, .cell⟩, ⟨[zrow], 4, true, true, true, .cell⟩, ⟨T.rows (ks.take i), 4, true, true, false, .cell⟩]))) kids.length none
    ⟨0, rfl, .inl ⟨rfl, ⟨rfl, rfl, rfl, rfl, rfl, rfl, rfl, trivial⟩, rfl⟩⟩ ?_
  rintro m fr st ⟨i, hi, ⟨rfl, hh, rfl⟩ | ⟨hi0, hh, rfl⟩⟩
  · obtain ⟨fr, rfl⟩ := hh.split
    clear hh
    conv => whnf
    by_cases hlt : 0 < kids.length
    · rw [hlr, ltB_t (by omega)]
      have hc := hT kids[0] (List.getElem_mem _)
      have htk := hrow 0 hlt
      have hg := Go.Cod.rows_get kids 0 hlt
      generalize kids[0] = t at hc htk hg
      generalize f t = ft at hc htk
      cases t with
      | mk id' kind' text' kids' =>
      cases ft with
      | mk fi fk fx fks =>
      conv => whnf
      refine ⟨by omega, T.rows kids, _, 4, rfl, hg, rfl, rfl, ?_⟩
      conv => whnf
      refine .inl (hc.mono ?_)
      rintro r rfl
      conv => whnf
      refine ⟨fun m hm => by rw [List.mem_singleton.1 hm]; rfl, ?_⟩
      conv => whnf
      refine ⟨by show 1 * 64 ≤ _; omega, .inr ⟨(by intro e; cases e), ?_⟩⟩
      conv => whnf
      refine ⟨m - 1, by omega, some [0, 1, 3], ?_⟩
      conv => whnf
      refine ⟨1, by omega, .inr ⟨by omega, ⟨rfl, rfl, rfl, rfl, rfl, rfl, rfl, trivial⟩, ?_⟩⟩
      rw [htk]
      rfl
    · rw [hlr, ltB_f (by omega)]
      conv => whnf
      have : kids = [] := List.eq_nil_of_length_eq_zero (by omega)
      subst this
      have : ks = [] := List.eq_nil_of_length_eq_zero hlen
      subst this
      rfl
  · obtain ⟨fr, rfl⟩ := hh.split
    clear hh
    conv => whnf
    by_cases hlt : i < kids.length
    · rw [hlr, ltB_t (by omega)]
      have hc := hT kids[i] (List.getElem_mem _)
      have htk := hrow i hlt
      have hg := Go.Cod.rows_get kids i hlt
      generalize kids[i] = t at hc htk hg
      generalize f t = ft at hc htk
      cases t with
      | mk id' kind' text' kids' =>
      cases ft with
      | mk fi fk fx fks =>
      conv => whnf
      refine ⟨by omega, T.rows kids, _, 4, rfl, hg, rfl, rfl, ?_⟩
      conv => whnf
      refine .inl (hc.mono ?_)
      rintro r rfl
      conv => whnf
      refine ⟨fun m hm => by rw [List.mem_singleton.1 hm]; rfl, ?_⟩
      conv => whnf
      refine ⟨by
        show ((T.rows (ks.take i)).length + 1) * 64 ≤ _
        rw [Go.Cod.rows_len, List.length_take]; omega, ?_⟩
      conv => whnf
      refine ⟨m - 1, by omega, some [0, 1, 4], ?_⟩
      conv => whnf
      refine ⟨i + 1, by omega, .inr ⟨by omega, ⟨rfl, rfl, rfl, rfl, rfl, rfl, ?_, trivial⟩, ?_⟩⟩
      · show V.int .i64 (IntKind.i64.wrap (i + 1)) = _
        rw [wrap64 (by omega) (by omega)]; simp
      · rw [htk]
        rfl
    · rw [hlr, ltB_f (by omega)]
      conv => whnf
      rw [List.take_of_length_le (by omega)]
      rfl
theorem l4Set_pure (t : T) (ht : t.Small) (x : Int) (k w : List UInt8) : Pure Try.prog 71 [.agg t.cells, .int .i64 x, .str k, .str w] (· = .agg (t.mapAt x (setT k w)).cells) := by
  induction ht with
  | @mk id kind text kids g1 g2 g3 g4 g5 ih =>
    by_cases hid : id = x
    · have := l4Set_at (.mk id kind text kids) (.mk g1 g2 g3 g4 g5) x k w hid
      simp only [T.mapAt, if_pos hid]
      exact this
    · exact l4Set_in1 _ (.mk g1 g2 g3 g4 g5) x k w hid ih
end Go.Cod

namespace Go.Cod
open Go Go.Proofs
set_option maxRecDepth 10000

theorem rows_snocT (l : List T) (t : T) : T.rows (l ++ [t]) = T.rows l ++ [t.cells] := by rw [T.rows_eq, T.rows_eq]; simp
theorem cutL_take (x : Int) (ts : List T) (i : Nat) (h : i < ts.length) : T.cutL x (ts.take (i + 1)) = if ts[i].id = x then T.cutL x (ts.take i) else T.cutL x (ts.take i) ++ [ts[i].cut x] := by
  rw [List.take_succ_eq_append_getElem h, T.cutL_append]
  simp only [T.cutL]
  split <;> simp
theorem l4Cut_pure1 (t : T) (ht : t.Small) (x : Int) (hT : ∀ t' ∈ t.kids, Pure Try.prog 70 [.agg t'.cells, .int .i64 x] (· = .agg (t'.cut x).cells)) :
    Pure Try.prog 70 [.agg t.cells, .int .i64 x] (· = .agg (t.cut x).cells) := by
  cases ht with
  | @mk id kind text kids g1 g2 g3 g4 g5 =>
  simp only [T.kids] at hT
  have hlr := Go.Cod.rows_len kids
  refine pure_of_awp good Try.func70 rfl (by kernel_rfl) (by decide) ?_
  conv => whnf
  refine loop_drop (fun m fr st => ∃ i : Nat, m + i = kids.length ∧
      ((T.cutL x (kids.take i) = [] ∧ Holds fr [(1, .int .i64 x), (2, .ptr 0 0 0), (4, .ptr 1 0 0), (5, .nils), (6, .int .i64 i)] ∧ st = [⟨[[.int .i64 id, .str kind, .str text, .sl (T.rows kids)]], 4, true, true, true, .cell⟩, ⟨[zrow], 4, true, true, true, .cell⟩]) ∨
       (T.cutL x (kids.take i) ≠ [] ∧ Holds fr [(1, .int .i64 x), (2, .ptr 0 0 0), (4, .ptr 1 0 0), (5, .own 2), (6, .int .i64 i)] ∧ st = [⟨[[.int .i64 id, .str kind, .str text, .sl (T.rows kids)]], 4, true, true, true, .cell⟩, ⟨[zrow], 4, true, true, true, .cell⟩, ⟨T.rows (T.cutL x (kids.take i)), 4, true, true, false, .cell⟩]))) kids.length none
    ⟨0, rfl, .inl ⟨rfl, ⟨rfl, rfl, rfl, rfl, rfl, trivial⟩, rfl⟩⟩ ?_
  rintro m fr st ⟨i, hi, ⟨he, hh, rfl⟩ | ⟨he, hh, rfl⟩⟩
  · obtain ⟨fr, rfl⟩ := hh.split
    clear hh
    conv => whnf
    by_cases hlt : i < kids.length
    · rw [hlr, ltB_t (by omega)]
      have hc := hT kids[i] (List.getElem_mem _)
      have htk := cutL_take x kids i hlt
      have hg := Go.Cod.rows_get kids i hlt
      have hle := T.cutL_len x (kids.take i)
      rw [List.length_take] at hle
      have w1 : V.int .i64 (IntKind.i64.wrap (i + 1)) = .int .i64 ((i + 1 : Nat) : Int) := by rw [wrap64 (by omega) (by omega)]; simp
      generalize kids[i] = t at hc htk hg
      generalize hct : T.cut x t = ft at hc htk
      cases t with
      | mk id' kind' text' kids' =>
      conv => whnf
      refine ⟨by omega, T.rows kids, _, 4, rfl, hg, rfl, rfl, ?_⟩
      conv => whnf
      by_cases hx : id' = x
      · rw [eqB_t hx]
        conv => whnf
        have htk : T.cutL x (kids.take (i + 1)) = T.cutL x (kids.take i) := by rw [htk, if_pos (show (T.mk id' kind' text' kids').id = x from hx)]
        refine ⟨m - 1, by omega, none, ?_⟩
        conv => whnf
        refine ⟨i + 1, by omega, .inl ⟨by rw [htk]; exact he, ⟨rfl, rfl, rfl, rfl, w1, trivial⟩, rfl⟩⟩
      · rw [eqB_f hx]
        conv => whnf
        have htk : T.cutL x (kids.take (i + 1)) = T.cutL x (kids.take i) ++ [ft] := by rw [htk, if_neg (show ¬ (T.mk id' kind' text' kids').id = x from hx)]
        cases ft with
        | mk fi fk fx fks =>
        refine ⟨by omega, T.rows kids, _, 4, rfl, hg, rfl, rfl, ?_⟩
        conv => whnf
        refine .inl (hc.mono ?_)
        rintro r rfl
        conv => whnf
        refine ⟨fun m hm => by rw [List.mem_singleton.1 hm]; rfl, ?_⟩
        conv => whnf
        refine ⟨by show 1 * 64 ≤ _; omega, .inr ⟨(by intro e; cases e), ?_⟩⟩
        conv => whnf
        refine ⟨m - 1, by omega, some [0, 1, 3], ?_⟩
        conv => whnf
        refine ⟨i + 1, by omega, .inr ⟨by rw [htk]; simp, ⟨rfl, rfl, rfl, rfl, w1, trivial⟩, ?_⟩⟩
        rw [htk, he]
        rfl
    · rw [hlr, ltB_f (by omega)]
      conv => whnf
      rw [List.take_of_length_le (by omega)] at he
      simp only [T.cut, T.cells]; rw [he]
      rfl
  · obtain ⟨fr, rfl⟩ := hh.split
    clear hh
    conv => whnf
    by_cases hlt : i < kids.length
    · rw [hlr, ltB_t (by omega)]
      have hc := hT kids[i] (List.getElem_mem _)
      have htk := cutL_take x kids i hlt
      have hg := Go.Cod.rows_get kids i hlt
      have hle := T.cutL_len x (kids.take i)
      rw [List.length_take] at hle
      have w1 : V.int .i64 (IntKind.i64.wrap (i + 1)) = .int .i64 ((i + 1 : Nat) : Int) := by rw [wrap64 (by omega) (by omega)]; simp
      generalize kids[i] = t at hc htk hg
      generalize hct : T.cut x t = ft at hc htk
      cases t with
      | mk id' kind' text' kids' =>
      conv => whnf
      refine ⟨by omega, T.rows kids, _, 4, rfl, hg, rfl, rfl, ?_⟩
      conv => whnf
      by_cases hx : id' = x
      · rw [eqB_t hx]
        conv => whnf
        have htk : T.cutL x (kids.take (i + 1)) = T.cutL x (kids.take i) := by rw [htk, if_pos (show (T.mk id' kind' text' kids').id = x from hx)]
        refine ⟨m - 1, by omega, none, ?_⟩
        conv => whnf
        refine ⟨i + 1, by omega, .inr ⟨by rw [htk]; exact he, ⟨rfl, rfl, rfl, rfl, w1, trivial⟩, by rw [htk]; rfl⟩⟩
      · rw [eqB_f hx]
        conv => whnf
        have htk : T.cutL x (kids.take (i + 1)) = T.cutL x (kids.take i) ++ [ft] := by rw [htk, if_neg (show ¬ (T.mk id' kind' text' kids').id = x from hx)]
        cases ft with
        | mk fi fk fx fks =>
        refine ⟨by omega, T.rows kids, _, 4, rfl, hg, rfl, rfl, ?_⟩
        conv => whnf
        refine .inl (hc.mono ?_)
        rintro r rfl
        conv => whnf
        refine ⟨fun m hm => by rw [List.mem_singleton.1 hm]; rfl, ?_⟩
        conv => whnf
        refine ⟨by
          show ((T.rows (T.cutL x (kids.take i))).length + 1) * 64 ≤ _
          rw [Go.Cod.rows_len]; omega, ?_⟩
        conv => whnf
        refine ⟨m - 1, by omega, some [0, 1, 4], ?_⟩
        conv => whnf
        refine ⟨i + 1, by omega, .inr ⟨by rw [htk]; simp, ⟨rfl, rfl, rfl, rfl, w1, trivial⟩, ?_⟩⟩
        rw [htk, rows_snocT]
        rfl
    · rw [hlr, ltB_f (by omega)]
      conv => whnf
      rw [List.take_of_length_le (by omega)]
      
      rfl
theorem l4Cut_pure (t : T) (ht : t.Small) (x : Int) : Pure Try.prog 70 [.agg t.cells, .int .i64 x] (· = .agg (t.cut x).cells) := by
  induction ht with
  | @mk id kind text kids g1 g2 g3 g4 g5 ih => exact l4Cut_pure1 _ (.mk g1 g2 g3 g4 g5) x ih
end Go.Cod

namespace Go.Cod
open Go Go.Proofs
set_option maxRecDepth 10000

theorem bareT_none {kind sid at_ : Int} {node : T} {text : List UInt8} {b : Bool} (hb : noneT node = b) : bareT ⟨kind, sid, at_, node, text⟩ = if kind = 1 then decide (text = []) else if kind = 2 then b && decide (text = []) && decide (at_ = 0) else b && decide (at_ = 0) := by
  unfold bareT
  simp only [hb]
set_option maxHeartbeats 4000000 in
theorem l4Bare_pure (s : Stp) : Pure Try.prog 68 [.agg s.cells] (· = .bool (bareT s)) := by
  cases s with
  | mk kind sid at_ node text =>
  cases node with
  | mk nid nk nx nks =>
  have hl : ((T.rows nks).length : Int) = (nks.length : Int) := by rw [Go.Cod.rows_len]
  refine pure_of_awp good Try.func68 rfl (by kernel_rfl) (by decide) ?_
  conv => whnf
  by_cases h1 : nid = 0
  rotate_left
  rw [eqB_f h1]
  rw [bareT_none (b := false) (by simp only [noneT]; simp [h1])]
  rotate_right
  rw [eqB_t h1]
  conv => whnf
  by_cases h2 : nk = []
  rotate_left
  rw [eqS_f h2]
  rw [bareT_none (b := false) (by simp only [noneT]; simp [h2])]
  rotate_right
  rw [eqS_t h2]
  conv => whnf
  by_cases h3 : nx = []
  rotate_left
  rw [eqS_f h3]
  rw [bareT_none (b := false) (by simp only [noneT]; simp [h3])]
  rotate_right
  rw [eqS_t h3]
  conv => whnf
  by_cases h4 : (T.rows nks).length = 0
  rotate_left
  rw [eqB_f (show ((T.rows nks).length : Int) ≠ 0 by omega)]
  rw [bareT_none (b := false) (by simp only [noneT]; simp [h1, h2, h3]; intro e; subst e; exact h4 rfl)]
  rotate_right
  rw [eqB_t (show ((T.rows nks).length : Int) = 0 by omega)]
  rw [bareT_none (b := true) (by simp only [noneT]; simp [h1, h2, h3]; exact List.eq_nil_of_length_eq_zero (by omega))]
  all_goals
    conv => whnf
    by_cases k1 : kind = 1
    · rw [eqB_t k1, if_pos k1]
      conv => whnf
      exact congrArg V.bool (eqS_def _ _)
    · rw [eqB_f k1, if_neg k1]
      conv => whnf
      by_cases k2 : kind = 2
      · rw [eqB_t k2, if_pos k2]
        conv => whnf
        first
          | rfl
          | (by_cases k3 : text = []
             · rw [eqS_t k3]
               conv => whnf
               refine congrArg V.bool ((eqB_def _ _).trans ?_)
               simp [k3]
             · rw [eqS_f k3]
               conv => whnf
               simp [k3])
      · rw [eqB_f k2, if_neg k2]
        conv => whnf
        first
          | rfl
          | (refine congrArg V.bool ((eqB_def _ _).trans ?_)
             simp)
end Go.Cod

namespace Go.Cod
open Go Go.Proofs
set_option maxRecDepth 10000

mutual
theorem T.mapAt_size1 (x : Int) (f : T → T) (m : Nat) (hf : ∀ s : T, (f s).size ≤ s.size + m) : ∀ t : T, t.ids.Nodup → (t.mapAt x f).size ≤ t.size + m
  | .mk id kind text kids, hn => by
    simp only [T.ids, List.nodup_cons] at hn
    simp only [T.mapAt]
    split
    · exact hf _
    · have := T.mapAtL_size1 x f m hf kids hn.2
      simp only [T.size]; omega
theorem T.mapAtL_size1 (x : Int) (f : T → T) (m : Nat) (hf : ∀ s : T, (f s).size ≤ s.size + m) : ∀ ts : List T, (T.idsL ts).Nodup → T.sizeL (T.mapAtL x f ts) ≤ T.sizeL ts + m
  | [], _ => by simp [T.mapAtL, T.sizeL]
  | t :: ts, hn => by
    simp only [T.idsL, List.nodup_append] at hn
    simp only [T.mapAtL, T.sizeL]
    by_cases hx : x ∈ t.ids
    · rw [T.mapAtL_none x f ts fun h => hn.2.2 x hx x h rfl]
      have := T.mapAt_size1 x f m hf t hn.1
      omega
    · rw [T.mapAt_none x f t hx]
      have := T.mapAtL_size1 x f m hf ts hn.2.1
      omega
end
mutual
theorem putOk_none (x : Int) (n : Nat) : ∀ t : T, x ∉ t.ids → t.PutOk x n
  | .mk id kind text kids, h => by
    simp only [T.ids, List.mem_cons, not_or] at h
    simp only [T.PutOk, if_neg (Ne.symm h.1)]
    exact putOkL_none x n kids h.2
theorem putOkL_none (x : Int) (n : Nat) : ∀ ts : List T, x ∉ T.idsL ts → T.PutOkL x n ts
  | [], _ => trivial
  | t :: ts, h => by
    simp only [T.idsL, List.mem_append, not_or] at h
    exact ⟨putOk_none x n t h.1, putOkL_none x n ts h.2⟩
end
mutual
theorem putOk_found (x : Int) (n : Nat) : ∀ (t s : T), t.ids.Nodup → fT t x = some s → n ≤ s.kids.length → t.PutOk x n
  | .mk id kind text kids, s, hn, hf, hl => by
    simp only [T.ids, List.nodup_cons] at hn
    simp only [fT] at hf
    simp only [T.PutOk]
    split
    · rename_i h
      rw [if_pos h, Option.some.injEq] at hf
      subst hf; exact hl
    · rename_i h
      rw [if_neg h] at hf
      exact putOkL_found x n kids s hn.2 hf hl
theorem putOkL_found (x : Int) (n : Nat) : ∀ (ts : List T) (s : T), (T.idsL ts).Nodup → fL ts x = some s → n ≤ s.kids.length → T.PutOkL x n ts
  | [], _, _, hf, _ => by simp [fL] at hf
  | t :: ts, s, hn, hf, hl => by
    simp only [T.idsL, List.nodup_append] at hn
    simp only [fL] at hf
    cases h1 : fT t x with
    | some s' =>
      rw [h1, Option.some.injEq] at hf
      subst hf
      have hx : x ∈ t.ids := by
        refine Decidable.byContradiction fun h => ?_
        rw [(fT_none t x).2 h] at h1; cases h1
      exact ⟨putOk_found x n t s' hn.1 h1 hl, putOkL_none x n ts fun h => hn.2.2 x hx x h rfl⟩
    | none =>
      rw [h1] at hf
      exact ⟨putOk_none x n t ((fT_none t x).1 h1), putOkL_found x n ts s hn.2.1 hf hl⟩
end
def okO (y : T) : Option T := if okT y = true then some y else none
def doR (t : T) : Option T → V
  | some y => .tup [.agg y.cells, .bool true]
  | none => .tup [.agg t.cells, .bool false]
theorem okT_size {t : T} (h : okT t = true) : t.size ≤ 20 := by
  have := ((okT_iff' t).1 h).2.2
  rwa [T.ids_size] at this
theorem doT_none {t : T} {s : Stp} (h : editT t s = none) : doT t s = none := by unfold doT; rw [h]
theorem doT_some {t y : T} {s : Stp} (h : editT t s = some y) : doT t s = okO y := by unfold doT okO; rw [h]
set_option maxHeartbeats 4000000 in
theorem l4Do_pure (t : T) (s : Stp) (ht : t.Small) (hz : t.size ≤ 1000000) (hn : t.ids.Nodup) (hs : s.node.Small) (hsz : s.node.size ≤ 1048577) (htx : s.text.length ≤ 1048576) :
    Pure Try.prog 43 [.agg t.cells, .agg s.cells] (· = doR t (doT t s)) := by
  have f1 := l2Find_pure t ht s.id
  have f2 := l4Bare_pure s
  have f3 := specTreeOk_pure s.node hs (by rw [T.ids_size]; exact hsz)
  have f4 : ∀ x : T, fT t s.id = some x → s.at_.toNat ≤ x.kids.length → Pure Try.prog 69 [.agg t.cells, .int .i64 s.id, .int .i64 s.at_.toNat, .agg s.node.cells] (· = .agg (t.mapAt s.id (putKidT s.at_.toNat s.node)).cells) := fun x h1 h2 => l4Put_pure t ht s.id s.at_.toNat s.node (putOk_found s.id s.at_.toNat t x hn h1 h2)
  have f5 := l4Cut_pure t ht s.id
  have f6 := l4Set_pure t ht s.id
  have f7 : ∀ y : T, y.Small → y.size ≤ 1048577 → Pure Try.prog 12 [.agg y.cells] (· = .bool (okT y)) := fun y h1 h2 => specTreeOk_pure y h1 (by rw [T.ids_size]; exact h2)
  have z1 : ∀ x, okT s.node = true → (t.mapAt s.id (putKidT x s.node)).Small ∧ (t.mapAt s.id (putKidT x s.node)).size ≤ 1048577 := fun x h => by
    have hk := okT_size h
    refine ⟨T.mapAt_small _ _ 1000000 (fun y h1 _ h2 => putKidT_small x s.node y h1 hs h2) t ht hz, ?_⟩
    have := T.mapAt_size1 s.id (putKidT x s.node) 20 (fun y => by rw [putKidT_size]; omega) t hn
    omega
  have z2 := T.cut_small s.id t ht
  have z3 : ∀ k w : List UInt8, k.length ≤ 1048576 → w.length ≤ 1048576 → (t.mapAt s.id (setT k w)).Small ∧ (t.mapAt s.id (setT k w)).size ≤ 1048577 := fun k w h1 h2 => by
    refine ⟨T.mapAt_small _ _ 1000000 (fun y h _ _ => setT_small k w y h h1 h2) t ht hz, ?_⟩
    have := T.mapAt_size1 s.id (setT k w) 0 (fun y => by rw [setT_size]; omega) t hn
    omega
  have hsm := fun x => fT_small t s.id ht x
  have hed : editT t s = match fT t s.id with
    | none => none
    | some x => if bareT s = false then none else
      if s.kind = 1 then (if 0 ≤ s.at_ ∧ s.at_ ≤ x.kids.length ∧ okT s.node = true then some (t.mapAt s.id (putKidT s.at_.toNat s.node)) else none)
      else if s.kind = 2 then (if s.id = t.id then none else some (t.cut s.id))
      else if s.kind = 3 then some (t.mapAt s.id (setT x.kind s.text))
      else if s.kind = 4 then some (t.mapAt s.id (setT s.text x.text))
      else none := rfl
  have d0 : editT t s = none → doT t s = none := doT_none
  have d1 : ∀ y, editT t s = some y → doT t s = okO y := fun y => doT_some
  generalize doT t s = d at *
  generalize editT t s = e at *
  generalize fT t s.id = f at *
  generalize bareT s = b at *
  cases s with
  | mk kind sid at_ node text =>
  simp only at f1 f3 f4 f5 f6 z1 z2 z3 hed hs hsz htx hsm
  generalize T.cut sid t = tc at *
  generalize hset : (fun k w => T.mapAt sid (setT k w) t) = ts at *
  have hset : ∀ k w, T.mapAt sid (setT k w) t = ts k w := fun k w => by rw [← hset]
  simp only [hset] at f6 z3 hed
  generalize hput : T.mapAt sid (putKidT at_.toNat node) t = tp at *
  have zp : okT node = true → tp.Small ∧ tp.size ≤ 1048577 := fun h => hput ▸ z1 at_.toNat h
  clear hset hput z1
  generalize okT node = okn at *
  have hend : ∀ y : T, e = some y → y.Small → y.size ≤ 1048577 → Pure Try.prog 12 [.agg y.cells] (· = .bool (okT y)) ∧ d = okO y := fun y h1 h2 h3 => ⟨f7 y h2 h3, d1 y h1⟩
  clear f7 d1
  have hok : ∀ y : T, e = some y → d = okO y → doR t d = if okT y = true then .tup [.agg y.cells, .bool true] else .tup [.agg t.cells, .bool false] := fun y _ h => by
    rw [h]; unfold okO
    split <;> rfl
  simp only [Stp.cells] at f2 ⊢
  have hbig : ∀ y : T, y.Small → y.size ≤ 1048577 → e = some y → d = okO y ∧ Pure Try.prog 12 [.agg y.cells] (· = .bool (okT y)) := fun y h1 h2 h3 => ⟨(hend y h3 h1 h2).2, (hend y h3 h1 h2).1⟩
  clear hend
  cases t with
  | mk tid tk tx tks =>
  cases node with
  | mk nid nk nx nks =>
  refine pure_of_awp good Try.func43 rfl (by kernel_rfl) (by decide) ?_
  conv => whnf
  refine .inl (f1.mono ?_)
  rintro r rfl
  cases f with
  | none =>
    conv => whnf
    rw [d0 hed]
    rfl
  | some x =>
    cases x with
    | mk xid xk xx xks =>
    conv => whnf
    refine .inl (f2.mono ?_)
    rintro r rfl
    cases b with
    | false =>
      conv => whnf
      rw [d0 hed]
      rfl
    | true =>
      simp only [Bool.true_eq_false, if_false] at hed
      conv => whnf
      by_cases k1 : kind = 1
      · rw [if_pos k1] at hed
        rw [eqB_t k1]
        conv => whnf
        refine .inl ((l1In_pure _ _ _).mono ?_)
        rintro r rfl
        by_cases hr : 0 ≤ at_ ∧ at_ ≤ (xks.length : Int)
        · rw [show (decide ((0 : Int) ≤ at_ ∧ at_ ≤ ((T.rows xks).length : Int))) = true by rw [Go.Cod.rows_len]; simpa using hr]
          conv => whnf
          refine .inl (f3.mono ?_)
          rintro r rfl
          cases okn with
          | false =>
            conv => whnf
            rw [d0 (by rw [hed, if_neg (by simp)])]
            rfl
          | true =>
            obtain ⟨n, rfl⟩ : ∃ n : Nat, at_ = n := ⟨at_.toNat, by omega⟩
            have hed : e = some tp := by rw [hed]; exact if_pos ⟨hr.1, hr.2, rfl⟩
            have f4 := f4 _ rfl (by simp only [T.kids]; omega)
            obtain ⟨q1, q2⟩ := zp rfl
            obtain ⟨q3, q4⟩ := hbig tp q1 q2 hed
            have hok := hok tp hed q3
            generalize okT tp = okp at *
            cases tp with
            | mk pid pk px pks =>
            conv => whnf
            refine .inl (f4.mono ?_)
            rintro r rfl
            conv => whnf
            refine .inl (q4.mono ?_)
            rintro r rfl
            rw [hok]
            cases okp <;> (conv => whnf) <;> rfl
        · rw [show (decide ((0 : Int) ≤ at_ ∧ at_ ≤ ((T.rows xks).length : Int))) = false by rw [Go.Cod.rows_len]; simpa using hr]
          conv => whnf
          rw [d0 (by rw [hed]; exact if_neg (fun h => hr ⟨h.1, h.2.1⟩))]
          rfl
      rw [if_neg k1] at hed
      rw [eqB_f k1]
      conv => whnf
      by_cases k2 : kind = 2
      · rw [if_pos k2] at hed
        rw [eqB_t k2]
        conv => whnf
        by_cases hi : sid = tid
        · rw [eqB_t hi]
          conv => whnf
          rw [d0 (by rw [hed]; exact if_pos hi)]
          rfl
        · rw [eqB_f hi]
          have hed : e = some tc := by rw [hed]; exact if_neg hi
          obtain ⟨q3, q4⟩ := hbig tc z2.1 (by have := z2.2; simp only [T.size] at this hz ⊢; omega) hed
          have hok := hok tc hed q3
          generalize okT tc = okp at *
          cases tc with
          | mk pid pk px pks =>
          conv => whnf
          refine .inl (f5.mono ?_)
          rintro r rfl
          conv => whnf
          refine .inl (q4.mono ?_)
          rintro r rfl
          rw [hok]
          cases okp <;> (conv => whnf) <;> rfl
      rw [if_neg k2] at hed
      rw [eqB_f k2]
      conv => whnf
      have hx := hsm _ rfl
      have hxk : xk.length ≤ 1048576 ∧ xx.length ≤ 1048576 := by
        cases hx with
        | mk g1 g2 g3 g4 g5 => exact ⟨g2, g3⟩
      by_cases k3 : kind = 3
      · rw [if_pos k3] at hed
        rw [eqB_t k3]
        have f6 := f6 xk text
        obtain ⟨q1, q2⟩ := z3 xk text hxk.1 htx
        have hed : e = some (ts xk text) := hed
        obtain ⟨q3, q4⟩ := hbig _ q1 q2 hed
        have hok := hok _ hed q3
        generalize ts xk text = tp at *
        generalize okT tp = okp at *
        cases tp with
        | mk pid pk px pks =>
        conv => whnf
        refine .inl (f6.mono ?_)
        rintro r rfl
        conv => whnf
        refine .inl (q4.mono ?_)
        rintro r rfl
        rw [hok]
        cases okp <;> (conv => whnf) <;> rfl
      rw [if_neg k3] at hed
      rw [eqB_f k3]
      conv => whnf
      by_cases k4 : kind = 4
      · rw [if_pos k4] at hed
        rw [eqB_t k4]
        have f6 := f6 text xx
        obtain ⟨q1, q2⟩ := z3 text xx htx hxk.2
        have hed : e = some (ts text xx) := hed
        obtain ⟨q3, q4⟩ := hbig _ q1 q2 hed
        have hok := hok _ hed q3
        generalize ts text xx = tp at *
        generalize okT tp = okp at *
        cases tp with
        | mk pid pk px pks =>
        conv => whnf
        refine .inl (f6.mono ?_)
        rintro r rfl
        conv => whnf
        refine .inl (q4.mono ?_)
        rintro r rfl
        rw [hok]
        cases okp <;> (conv => whnf) <;> rfl
      rw [if_neg k4] at hed
      rw [eqB_f k4]
      conv => whnf
      rw [d0 hed]
      rfl
end Go.Cod

namespace Go.Cod
open Go Go.Proofs
set_option maxRecDepth 10000

theorem okO_some {y z : T} (h : okO y = some z) : y = z ∧ okT y = true := by
  unfold okO at h
  split at h
  · rename_i h1
    exact ⟨Option.some.inj h, h1⟩
  · cases h
theorem doT_ok {t : T} {s : Stp} {y : T} (h : doT t s = some y) : editT t s = some y ∧ okT y = true := by
  unfold doT at h
  cases he : editT t s with
  | none => rw [he] at h; cases h
  | some z =>
    rw [he] at h
    obtain ⟨rfl, h2⟩ := okO_some h
    exact ⟨rfl, h2⟩
theorem editT_small {t : T} {s : Stp} {y : T} (ht : t.Small) (hz : t.size ≤ 1000000) (hs : s.node.Small) (htx : s.text.length ≤ 1048576) (h : editT t s = some y) : y.Small := by
  have hsm := fun x => fT_small t s.id ht x
  unfold editT at h
  cases hf : fT t s.id with
  | none => rw [hf] at h; cases h
  | some x =>
    rw [hf] at h
    have hx := hsm x hf
    have hxk : x.kind.length ≤ 1048576 ∧ x.text.length ≤ 1048576 := by
      cases hx with
      | mk g1 g2 g3 g4 g5 => exact ⟨g2, g3⟩
    simp only at h
    split at h
    · cases h
    split at h
    · split at h
      · cases h
        exact T.mapAt_small _ _ 1000000 (fun y h1 _ h2 => putKidT_small _ s.node y h1 hs h2) t ht hz
      · cases h
    split at h
    · split at h
      · cases h
      · cases h
        exact (T.cut_small s.id t ht).1
    split at h
    · cases h
      exact T.mapAt_small _ _ 1000000 (fun y h1 _ _ => setT_small _ _ y h1 hxk.1 htx) t ht hz
    split at h
    · cases h
      exact T.mapAt_small _ _ 1000000 (fun y h1 _ _ => setT_small _ _ y h1 htx hxk.2) t ht hz
    · cases h
theorem stepT_small {t : T} {s : Stp} (ht : t.Small) (hz : t.size ≤ 1048577) (hs : s.node.Small) (htx : s.text.length ≤ 1048576) : (stepT t s).1.Small ∧ (stepT t s).1.size ≤ 20 := by
  unfold stepT
  split
  · rename_i hok
    have h20 := okT_size hok
    cases hd : doT t s with
    | none => exact ⟨ht, h20⟩
    | some y =>
      obtain ⟨h1, h2⟩ := doT_ok hd
      exact ⟨editT_small ht (by omega) hs htx h1, okT_size h2⟩
  · exact ⟨TZ_small, by simp [TZ, T.size, T.sizeL]⟩
theorem specStepDo_pure (t : T) (s : Stp) (ht : t.Small) (hz : t.size ≤ 1048577) (hs : s.node.Small) (hsz : s.node.size ≤ 1048577) (htx : s.text.length ≤ 1048576) :
    Pure Try.prog 17 [.agg t.cells, .agg s.cells] (· = .tup [.agg (stepT t s).1.cells, .bool (stepT t s).2]) := by
  have f1 := specTreeOk_pure t ht (by rw [T.ids_size]; exact hz)
  have f2 : okT t = true → Pure Try.prog 43 [.agg t.cells, .agg s.cells] (· = doR t (doT t s)) := fun h => l4Do_pure t s ht (by have := okT_size h; omega) ((okT_iff' t).1 h).2.1 hs hsz htx
  have hst : stepT t s = if okT t = true then (match doT t s with | some y => (y, true) | none => (t, false)) else (TZ, false) := rfl
  have hsm := stepT_small ht hz hs htx
  have f3 := l2Copy_pure (stepT t s).1 hsm.1
  clear hsm
  generalize stepT t s = r at *
  generalize okT t = okt at *
  generalize doT t s = d at *
  simp only [Stp.cells] at f2 ⊢
  cases s with
  | mk kind sid at_ node text =>
  cases t with
  | mk tid tk tx tks =>
  cases node with
  | mk nid nk nx nks =>
  refine pure_of_awp good Try.func17 rfl (by kernel_rfl) (by decide) ?_
  conv => whnf
  refine .inl (f1.mono ?_)
  rintro r' rfl
  cases okt with
  | false =>
    conv => whnf
    rw [hst]; rfl
  | true =>
    conv => whnf
    refine .inl ((f2 rfl).mono ?_)
    rintro r' rfl
    rw [if_pos rfl] at hst
    cases d with
    | none =>
      simp only at hst
      subst hst
      conv => whnf
      refine .inl (f3.mono ?_)
      rintro r' rfl
      conv => whnf
      rfl
    | some y =>
      simp only at hst
      subst hst
      cases y with
      | mk yid yk yx yks =>
      conv => whnf
      refine .inl (f3.mono ?_)
      rintro r' rfl
      conv => whnf
      rfl
end Go.Cod

namespace Go.Cod
open Go Go.Proofs
set_option maxRecDepth 10000

/-- slices.Insert into nothing. -/
theorem insert_nil (es : List (List V)) (row : List V) (hr : row.length = 4) :
    Full Try.prog noY 100 [.nils, .int .i64 0, .own 1] [poolO es, ⟨[row], 4, true, true, false, .cell⟩] fun o st' => ∃ b' c' d, d.box = false ∧ (∀ e ∈ es, labOf e ≠ b') ∧ o = .ret (.dref b' 1 c') ∧ st' = [poolO (es ++ [ent b' c' 4 [row]]), d] := by
  refine (Full.givenEnd (Full.absorb (R := fun o st' => ∃ d, d.box = false ∧ o = .ret (.own 2) ∧ st' = [poolO es, d, ⟨[row], 4, true, true, false, .cell⟩]) (R' := fun o st' => ∃ b' c' d, d.box = false ∧ o = .ret (.dref b' 1 c') ∧ st' = [poolO (es ++ [ent b' c' 4 [row]]), d]) ?_ ?_)).mono ?_
  · refine full_of_awp good Try.func100 rfl (by kernel_rfl) (by decide) ?_
    conv => whnf
    refine ⟨by simp, by omega, by show (0 : Nat) ≤ 0; omega, ?_⟩
    conv => whnf
    rw [eqB_f (by simp)]
    conv => whnf
    rw [eqB_t (by rfl)]
    conv => whnf
    refine ⟨fun m hm => by rw [List.mem_singleton.1 hm]; exact hr, ?_⟩
    conv => whnf
    refine ⟨by show 1 * 64 ≤ _; omega, .inr ⟨(by intro e; cases e), ?_⟩⟩
    conv => whnf
    refine ⟨[2], true, ?_⟩
    conv => whnf
    exact ⟨_, rfl, rfl, rfl⟩
  · rintro o st' ⟨d, hd, rfl, rfl⟩
    refine ⟨_, [poolO es, d], 0, es, [row], 4, rfl, rfl, rfl, by simp, ?_, fun b c => ⟨rfl, b, c, d, hd, rfl, rfl⟩⟩
    intro p hp
    simp only [List.mem_cons, List.not_mem_nil, or_false] at hp
    rcases hp with rfl | rfl
    · rfl
    · exact hd
  · rintro o st' ⟨⟨b', c', d, hd, rfl, rfl⟩, hl⟩
    have hn := hl.nodup (k := 0) rfl
    refine ⟨b', c', d, hd, fun e he hb => ?_, rfl, rfl⟩
    rw [List.map_append, List.nodup_append] at hn
    exact hn.2.2 _ (List.mem_map_of_mem he) b' (by simp [ent, labOf]) hb
end Go.Cod

namespace Go.Cod
open Go Go.Proofs
set_option maxRecDepth 10000

/-- The block of what is in a thing behind an insertion: its own, or another one. -/
def hdr (inp : Bool) (p : Nat × Nat) (h : Option (Nat × Nat)) : Nat × Nat := match inp, h with
  | true, some q => q
  | _, _ => p
theorem insert_to (es : List (List V)) (b n c i : Nat) (rows : List (List V)) (row : List V) (hm : ent b c 4 rows ∈ es) (hn : rows.length = n) (hi : i ≤ n) (hmax : n ≤ 1048576) (hrw : ∀ r ∈ rows, r.length = 4) (hr : row.length = 4) :
    Full Try.prog noY 100 [.dref b n c, .int .i64 (i : Int), .own 1] [poolO es, ⟨[row], 4, true, true, false, .cell⟩] (InsR b n c i row rows es) :=
  Full.room 0 (insert_nil es row hr).1 fun hrm => insert_full es b n c i rows row hm hn hi (hn ▸ hrm b c 4 rows hm) hmax hrw hr
theorem insert_any (nh : Option (Nat × Nat)) (nks : List LT) (hwf : nh = none → nks = []) (es : List (List V)) (hm : ∀ e ∈ rootE nh nks, e ∈ es) (row : List V) (hr : row.length = 4) (i : Nat) (hi : i ≤ nks.length) (hmax : nks.length ≤ 1048576) :
    Full Try.prog noY 100 [hdV nh nks.length, .int .i64 (i : Int), .own 1] [poolO es, ⟨[row], 4, true, true, false, .cell⟩] fun o st' => ∃ (inp : Bool) (p : Nat × Nat) (es2 : List (List V)) (d : O), d.box = false ∧
      o = .ret (.dref (hdr inp p nh).1 (nks.length + 1) (hdr inp p nh).2) ∧ st' = [poolO es2, d] ∧ ent (hdr inp p nh).1 (hdr inp p nh).2 4 ((LT.rows nks).take i ++ row :: (LT.rows nks).drop i) ∈ es2 ∧
      (∀ e ∈ es, (∀ q, nh = some q → labOf e ≠ q.1) → e ∈ es2) ∧ ∀ e ∈ es, labOf e ≠ p.1 := by
  rcases nh with _ | ⟨b, c⟩
  · have := hwf rfl
    subst this
    obtain rfl : i = 0 := by simpa using hi
    refine (insert_nil es row hr).mono ?_
    rintro o st' ⟨b', c', d, hd, hf, rfl, rfl⟩
    exact ⟨false, (b', c'), _, d, hd, rfl, rfl, by simp [hdr, LT.rows], fun e he _ => List.mem_append_left _ he, hf⟩
  · obtain ⟨z, hz⟩ := fresh_lab (es.map labOf)
    refine (insert_to es b nks.length c i (LT.rows nks) row (hm _ (by simp [rootE])) (LT.rows_len nks) hi hmax (rows_wid nks) hr).mono ?_
    rintro o st' ⟨b', c', es', d, hd, rfl, rfl, ⟨rfl, rfl, rfl⟩ | ⟨hf, rfl⟩⟩
    · exact ⟨true, (z, 0), _, d, hd, rfl, rfl, putEnt_mem (rows := LT.rows nks) (hm (ent _ _ 4 (LT.rows nks)) (by simp [rootE, hdr])), fun e he hl => putEnt_other he (hl _ rfl), fun e he h => absurd (hz _ (List.mem_map_of_mem he)) (by rw [h]; simp)⟩
    · exact ⟨false, (b', c'), _, d, hd, rfl, rfl, by simp [hdr], fun e he _ => List.mem_append_left _ he, hf⟩
/-- A thing with one more in it. -/
def putKid (n : Nat) (y : LT) (inp : Bool) (p : Nat × Nat) : LT → LT
  | .mk id kind text h kids => .mk id kind text (some (hdr inp p h)) (kids.take n ++ y :: kids.drop n)
theorem putKid_erase (n : Nat) (y : LT) (inp : Bool) (p : Nat × Nat) (m : LT) : (putKid n y inp p m).erase = putKidT n y.erase m.erase := by
  cases m with
  | mk id kind text h kids => simp only [putKid, LT.erase, putKidT, LT.eraseL_eq, List.map_append, List.map_cons, List.map_take, List.map_drop]
theorem putKid_wf (n : Nat) (y : LT) (hy : y.Wf) (inp : Bool) (p : Nat × Nat) (m : LT) (hm : m.Wf) : (putKid n y inp p m).Wf := by
  cases m with
  | mk id kind text h kids =>
    simp only [LT.Wf] at hm
    simp only [putKid, LT.Wf]
    refine ⟨by simp, (LT.WfL_iff _).2 fun l hl => ?_⟩
    have hk := (LT.WfL_iff _).1 hm.2
    rcases List.mem_append.1 hl with h | h
    · exact hk l (List.mem_of_mem_take h)
    · rcases List.mem_cons.1 h with rfl | h
      · exact hy
      · exact hk l (List.mem_of_mem_drop h)
theorem putKid_labs (n : Nat) (y : LT) (hy : y.labs.Nodup) (inp : Bool) (p : Nat × Nat) (hp : p.1 ∉ y.labs) (m : LT) (hm : m.labs.Nodup) (hd : ∀ a ∈ y.labs ++ [p.1], a ∉ m.labs) :
    (putKid n y inp p m).labs.Nodup ∧ ∀ a ∈ (putKid n y inp p m).labs, a ∈ m.labs ∨ a ∈ y.labs ++ [p.1] := by
  cases m with
  | mk id kind text h kids =>
    have hkid : LT.labsL kids = LT.labsL (kids.take n) ++ LT.labsL (kids.drop n) := by rw [← LT.labsL_append, List.take_append_drop]
    have hsub : ∀ a ∈ LT.labsL kids, a ∈ (LT.mk id kind text h kids).labs := fun a ha => by simp only [LT.labs]; exact List.mem_append_left _ ha
    have hq : (hdr inp p h).1 ∉ LT.labsL kids ∧ (hdr inp p h).1 ∉ y.labs ∧ ((hdr inp p h).1 ∈ (LT.mk id kind text h kids).labs ∨ (hdr inp p h).1 = p.1) := by
      have hpl : p.1 ∉ LT.labsL kids ∧ p.1 ∉ y.labs ∧ (p.1 ∈ (LT.mk id kind text h kids).labs ∨ p.1 = p.1) := ⟨fun hh => hd p.1 (by simp) (hsub _ hh), hp, .inr rfl⟩
      rcases h with _ | ⟨b, c⟩
      · cases inp <;> exact hpl
      · cases inp
        · exact hpl
        · simp only [LT.labs, List.nodup_append, List.mem_singleton] at hm
          refine ⟨fun hh => hm.2.2 _ hh _ rfl rfl, fun hh => hd b (List.mem_append_left _ hh) (by simp [LT.labs]), .inl (by simp [LT.labs, hdr])⟩
    simp only [putKid, LT.labs, LT.labsL_append, LT.labsL]
    have hkn : (LT.labsL kids).Nodup := by simp only [LT.labs, List.nodup_append] at hm; exact hm.1
    have hyk : ∀ a ∈ y.labs, a ∉ LT.labsL kids := fun a ha hh => hd a (List.mem_append_left _ ha) (hsub a hh)
    rw [hkid] at hkn hyk hq
    simp only [List.nodup_append, List.mem_append, List.mem_singleton] at hkn hyk hq ⊢
    refine ⟨⟨⟨hkn.1, ⟨hy, hkn.2.1, fun a ha b hb e => ?_⟩, fun a ha b hb e => ?_⟩, by simp, fun a ha b hb e => ?_⟩, fun a ha => ?_⟩
    · subst e; exact hyk a ha (.inr hb)
    · subst e
      rcases hb with hb | hb
      · exact hyk a hb (.inl ha)
      · exact hkn.2.2 a ha a hb rfl
    · subst e; subst hb
      rcases ha with ha | ha | ha
      · exact hq.1 (.inl ha)
      · exact hq.2.1 ha
      · exact hq.1 (.inr ha)
    · rcases ha with (ha | ha | ha) | ha
      · exact .inl (.inl (hkid ▸ List.mem_append_left _ ha))
      · exact .inr (.inl ha)
      · exact .inl (.inl (hkid ▸ List.mem_append_right _ ha))
      · subst ha
        rcases hq.2.2 with h1 | h1
        · simp only [LT.labs, List.mem_append] at h1; exact .inl h1
        · exact .inr (.inr h1)
mutual
theorem LT.upd_labs (x : Int) (f : LT → LT) (F : List Nat) (hf : ∀ n : LT, n.labs.Nodup → (∀ a ∈ F, a ∉ n.labs) → (f n).labs.Nodup ∧ ∀ a ∈ (f n).labs, a ∈ n.labs ∨ a ∈ F) :
    ∀ (l l' : LT), l.upd x f = some l' → l.labs.Nodup → (∀ a ∈ F, a ∉ l.labs) → l'.labs.Nodup ∧ ∀ a ∈ l'.labs, a ∈ l.labs ∨ a ∈ F
  | .mk id kind text h kids, l', e, hn, hF => by
    simp only [LT.upd] at e
    by_cases hid : id = x
    · rw [if_pos hid, Option.some.injEq] at e
      exact e ▸ hf _ hn hF
    · rw [if_neg hid] at e
      rcases h with _ | ⟨b, c⟩
      · cases e
      · simp only [Option.map_eq_some_iff] at e
        obtain ⟨ks, h1, rfl⟩ := e
        simp only [LT.labs, List.nodup_append, List.mem_append, List.mem_singleton, not_or] at hn hF ⊢
        obtain ⟨h2, h3⟩ := LT.updL_labs x f F hf kids ks h1 hn.1 fun a ha => (hF a ha).1
        refine ⟨⟨h2, by simp, fun a ha b' hb e => ?_⟩, fun a ha => ?_⟩
        · subst e; subst hb
          rcases h3 a ha with h | h
          · exact hn.2.2 a h a rfl rfl
          · exact (hF a h).2 rfl
        · rcases ha with ha | ha
          · rcases h3 a ha with h | h
            · exact .inl (.inl h)
            · exact .inr h
          · exact .inl (.inr ha)
theorem LT.updL_labs (x : Int) (f : LT → LT) (F : List Nat) (hf : ∀ n : LT, n.labs.Nodup → (∀ a ∈ F, a ∉ n.labs) → (f n).labs.Nodup ∧ ∀ a ∈ (f n).labs, a ∈ n.labs ∨ a ∈ F) :
    ∀ (ls ls' : List LT), LT.updL x f ls = some ls' → (LT.labsL ls).Nodup → (∀ a ∈ F, a ∉ LT.labsL ls) → (LT.labsL ls').Nodup ∧ ∀ a ∈ LT.labsL ls', a ∈ LT.labsL ls ∨ a ∈ F
  | [], _, e, _, _ => by simp [LT.updL] at e
  | l :: ls, ls', e, hn, hF => by
    simp only [LT.updL] at e
    simp only [LT.labsL, List.nodup_append, List.mem_append, not_or] at hn hF
    cases h1 : LT.upd x f l with
    | some l1 =>
      rw [h1, Option.some.injEq] at e
      subst e
      obtain ⟨h2, h3⟩ := LT.upd_labs x f F hf l l1 h1 hn.1 fun a ha => (hF a ha).1
      simp only [LT.labsL, List.nodup_append, List.mem_append]
      refine ⟨⟨h2, hn.2.1, fun a ha b hb e => ?_⟩, fun a ha => ?_⟩
      · subst e
        rcases h3 a ha with h | h
        · exact hn.2.2 a h a hb rfl
        · exact (hF a h).2 hb
      · rcases ha with ha | ha
        · rcases h3 a ha with h | h
          · exact .inl (.inl h)
          · exact .inr h
        · exact .inl (.inr ha)
    | none =>
      rw [h1] at e
      simp only [Option.map_eq_some_iff] at e
      obtain ⟨ks, h2, rfl⟩ := e
      obtain ⟨h3, h4⟩ := LT.updL_labs x f F hf ls ks h2 hn.2.1 fun a ha => (hF a ha).2
      simp only [LT.labsL, List.nodup_append, List.mem_append]
      refine ⟨⟨hn.1, h3, fun a ha b hb e => ?_⟩, fun a ha => ?_⟩
      · subst e
        rcases h4 a hb with h | h
        · exact hn.2.2 a ha a h rfl
        · exact (hF a h).1 ha
      · rcases ha with ha | ha
        · exact .inl (.inl ha)
        · rcases h4 a ha with h | h
          · exact .inl (.inr h)
          · exact .inr h
end
/-- What a deed leaves of a tree in a box. -/
def DoR (l : LT) (r : Option T) (o : Out) (st' : St) : Prop := match r with
  | none => o = .ret (.bool false) ∧ ∃ es', st' = [poolO es', boxO l]
  | some y => ∃ l' es', l'.erase = y ∧ l'.Wf ∧ (l'.ents.map labOf).Nodup ∧ o = .ret (.bool true) ∧ st' = [poolO es', boxO l'] ∧ ∀ e ∈ l'.ents, e ∈ es'
/-- What putting comes to. -/
def putT (t : T) (x at_ : Int) (y : T) : Option T := match fT t x with
  | none => none
  | some s => if 0 ≤ at_ ∧ at_ ≤ s.kids.length then t.upd x (putKidT at_.toNat y) else none
end Go.Cod

namespace Go.Cod
open Go Go.Proofs
set_option maxRecDepth 10000

theorem put_done (l l' ly : LT) (x : Int) (n : Nat) (inp : Bool) (p : Nat × Nat) (hw : l.Wf) (hyw : ly.Wf) (hu : l.upd x (putKid n ly inp p) = some l') (hn : (l.ents.map labOf).Nodup) (es : List (List V)) (hin : ∀ e ∈ l.ents, e ∈ es)
    (hl : ((es ++ ly.ents).map labOf).Nodup) (hp : ∀ e ∈ es ++ ly.ents, labOf e ≠ p.1) : l'.Wf ∧ (l'.ents.map labOf).Nodup ∧ T.upd x (putKidT n ly.erase) l.erase = some l'.erase := by
  refine ⟨LT.upd_wf x _ (fun m hm => putKid_wf n ly hyw inp p m hm) l l' hw hu, ?_, ?_⟩
  · obtain ⟨n1, n2, n3⟩ := nodup_app hl
    have hpy : p.1 ∉ ly.labs := fun h => by
      rw [← LT.labs_ents] at h
      obtain ⟨e, h1, h2⟩ := List.mem_map.1 h
      exact hp e (List.mem_append_right _ h1) h2
    rw [LT.labs_ents] at hn ⊢
    rw [LT.labs_ents] at n2
    refine (LT.upd_labs x _ (ly.labs ++ [p.1]) (fun m h1 h2 => putKid_labs n ly n2 inp p hpy m h1 h2) l l' hu hn fun a ha hal => ?_).1
    rw [← LT.labs_ents] at hal
    obtain ⟨e, h1, rfl⟩ := List.mem_map.1 hal
    rcases List.mem_append.1 ha with ha | ha
    · rw [← LT.labs_ents] at ha
      exact n3 e (hin e h1) ha
    · exact hp e (List.mem_append_left _ (hin e h1)) (List.mem_singleton.1 ha)
  · rw [← LT.upd_erase x _ _ (fun m => putKid_erase n ly inp p m) l hw, hu]; rfl
theorem put_ents (id : Int) (kind text : List UInt8) (h : Option (Nat × Nat)) (kids : List LT) (n : Nat) (ly : LT) (inp : Bool) (p : Nat × Nat) (es es1 es2 : List (List V)) (hin : ∀ e ∈ (LT.mk id kind text h kids).ents, e ∈ es) (hn : ((LT.mk id kind text h kids).ents.map labOf).Nodup)
    (hes1 : es1 = es ++ ly.ents) (hln : (es1.map labOf).Nodup) (q1 : ent (hdr inp p h).1 (hdr inp p h).2 4 ((LT.rows kids).take n ++ ly.cells :: (LT.rows kids).drop n) ∈ es2) (q2 : ∀ e ∈ es1, (∀ q, h = some q → labOf e ≠ q.1) → e ∈ es2) :
    ∀ e ∈ (putKid n ly inp p (.mk id kind text h kids)).ents, e ∈ es2 := by
  subst hes1
  simp only [LT.ents] at hin hn
  obtain ⟨m1, m2, m3⟩ := nodup_app hn
  obtain ⟨k1, k2, k3⟩ := nodup_app hln
  have hk : ∀ e ∈ LT.entsL kids, e ∈ es2 := fun e he => by
    refine q2 e (List.mem_append_left _ (hin e (List.mem_append_left _ he))) fun q hq hl => m3 e he ?_
    subst hq
    rw [hl]; simp [rootE, ent, labOf]
  have hy : ∀ e ∈ ly.ents, e ∈ es2 := fun e he => by
    refine q2 e (List.mem_append_right _ he) fun q hq hl => ?_
    subst hq
    refine k3 (ent q.1 q.2 4 (LT.rows kids)) (hin _ (List.mem_append_right _ (by simp [rootE]))) ?_
    rw [labOf_ent, ← hl]
    exact List.mem_map_of_mem he
  intro e he
  simp only [putKid, LT.ents, rootE] at he
  rw [LT.entsL_append] at he
  simp only [LT.entsL, List.mem_append, List.mem_singleton] at he
  have hkid : LT.entsL kids = LT.entsL (kids.take n) ++ LT.entsL (kids.drop n) := by rw [← LT.entsL_append, List.take_append_drop]
  rw [hkid] at hk
  rcases he with (he | he | he) | he
  · exact hk e (List.mem_append_left _ he)
  · exact hy e he
  · exact hk e (List.mem_append_right _ he)
  · subst he
    rw [show LT.rows (kids.take n ++ ly :: kids.drop n) = (LT.rows kids).take n ++ ly.cells :: (LT.rows kids).drop n by simp only [LT.rows, List.map_append, List.map_cons, List.map_take, List.map_drop]]
    exact q1
theorem put_len (n : Nat) (y : LT) (kids : List LT) : (kids.take n ++ y :: kids.drop n).length = kids.length + 1 := by
  rw [List.length_append, List.length_cons, List.length_take, List.length_drop]; omega
set_option maxHeartbeats 8000000 in
theorem putDo_root (id : Int) (kind text : List UInt8) (h : Option (Nat × Nat)) (kids : List LT) (hw : (LT.mk id kind text h kids).Wf) (at_ : Int) (y : T) (hy : y.Small) (es : List (List V)) (hin : ∀ e ∈ (LT.mk id kind text h kids).ents, e ∈ es) (hn : ((LT.mk id kind text h kids).ents.map labOf).Nodup) (hz : LT.sizeL kids ≤ 1000000) :
    Full Try.prog noY 97 [.agg ([.int .i64 id, .int .i64 at_] ++ y.cells), .ptr 1 0 0] [poolO es, boxO (.mk id kind text h kids)] (DoR (.mk id kind text h kids) (putT (LT.mk id kind text h kids).erase id at_ y)) := by
  have hc := treeIn_root (.mk id kind text h kids) hw id es hin (by simp only [LT.kids]; omega)
  have hcp := (treeCopy_acc y hy es).givenEnd
  have hsr : (LT.mk id kind text h kids).seekR id = .ptr 1 0 0 := by simp only [LT.seekR, if_true]
  rw [hsr] at hc
  have hput : putT (LT.mk id kind text h kids).erase id at_ y = if 0 ≤ at_ ∧ at_ ≤ kids.length then (LT.mk id kind text h kids).erase.upd id (putKidT at_.toNat y) else none := by
    unfold putT
    simp only [LT.erase, fT, if_true, T.kids, LT.eraseL_len]
  generalize putT (LT.mk id kind text h kids).erase id at_ y = ot at *
  have hlen := LT.len_sizeL kids
  have hia := fun es1 h1 row hr i hi => insert_any h kids (by simp only [LT.Wf] at hw; exact hw.1) es1 h1 row hr i hi (by omega)
  have hupd : ∀ f, (LT.mk id kind text h kids).upd id f = some (f (.mk id kind text h kids)) := fun f => by simp only [LT.upd, if_true]
  cases y with
  | mk yi yk yx yks =>
  refine full_of_awp good Try.func97 rfl (by kernel_rfl) (by decide) ?_
  rcases h with _ | ⟨b, c⟩
  all_goals
    conv => whnf
    refine ⟨[0, 1], true, ?_⟩
    conv => whnf
    refine hc.mono ?_
    rintro o st' ⟨rfl, rfl⟩
    conv => whnf
    by_cases a0 : at_ < 0
    · rw [ltB_t a0]
      conv => whnf
      refine ⟨[], true, ?_⟩
      conv => whnf
      rw [if_neg (by omega)] at hput
      subst hput
      exact ⟨rfl, es, rfl⟩
    rw [ltB_f (by omega)]
    conv => whnf
    by_cases a1 : (kids.length : Int) < at_
    · first | rw [ltB_t a1] | rw [ltB_t (show ((([] : List (List V)).length : Nat) : Int) < at_ by have := hw.1 rfl; subst this; exact a1)]
      conv => whnf
      refine ⟨[], true, ?_⟩
      conv => whnf
      rw [if_neg (by omega)] at hput
      subst hput
      exact ⟨rfl, es, rfl⟩
    first | rw [ltB_f (by omega)] | rw [ltB_f (show at_ ≤ ((([] : List (List V)).length : Nat) : Int) by have := hw.1 rfl; subst this; simp at a1; simpa using a1)]
    conv => whnf
    rw [if_pos (by omega)] at hput
    obtain ⟨n, rfl⟩ : ∃ n : Nat, at_ = n := ⟨at_.toNat, by omega⟩
    refine .inr (.inl ⟨[0], true, ?_⟩)
    conv => whnf
    refine hcp.mono ?_
    rintro o st' ⟨⟨ly, y1, y2, rfl, rfl⟩, hl⟩
    have hln := hl.nodup (k := 0) rfl
    have hia := hia (es ++ ly.ents) (fun e he => List.mem_append_left _ (hin e (by simp only [LT.ents]; exact List.mem_append_right _ he))) ly.cells ly.cells_len n (by omega)
    have hfin := fun l' inp p hu hp => put_done _ l' ly id n inp p hw y2 hu hn es hin hln hp
    have hlye : ∀ e ∈ ly.ents, e ∈ es ++ ly.ents := fun e he => List.mem_append_right _ he
    obtain ⟨es1, hes1⟩ : ∃ es1, es1 = es ++ ly.ents := ⟨_, rfl⟩
    rw [← hes1] at hia hlye hfin ⊢
    have hst1 : ∀ e ∈ es, e ∈ es1 := fun e he => hes1 ▸ List.mem_append_left _ he
    have hents := fun inp p es2 => put_ents id kind text _ kids n ly inp p es es1 es2 hin hn hes1 (by rw [hes1]; exact hln)
    have hlen2 := put_len n ly kids
    cases ly with
    | mk lid lk lx lh lks =>
    rcases lh with _ | ⟨lb, lc⟩
    all_goals
      conv => whnf
      repeat (refine And.intro (by
                (conv => whnf)
                rfl) ?_
              conv => whnf)
      refine ⟨[0, 3], true, ?_⟩
      conv => whnf
      refine hia.mono ?_
      rintro o st' ⟨inp, p, es2, ⟨de, dw, dl, dx, db, dk⟩, hdb, rfl, rfl, q1, q2, q3⟩
      obtain rfl : db = false := hdb
      conv => whnf
      refine ⟨[], true, ?_⟩
      conv => whnf
      have h3 := hfin _ inp p (hupd _) q3
      have h5 := h3.2.2
      rw [y1] at h5
      have hot := hput.trans h5
      subst hot
      refine ⟨_, es2, rfl, h3.1, h3.2.1, rfl, ?_, hents inp p es2 q1 q2⟩
      simp only [boxO, putKid, LT.cells, hdV, hlen2]
      rfl
end Go.Cod

namespace Go.Cod
open Go Go.Proofs
set_option maxRecDepth 10000

def LT.lkids : LT → List LT
  | .mk _ _ _ _ kids => kids
theorem inj_nodup {α β : Type} {f : α → β} : ∀ {l : List α}, (l.map f).Nodup → ∀ a ∈ l, ∀ b ∈ l, f a = f b → a = b
  | [], _, a, ha, _, _, _ => by simp at ha
  | x :: l, h, a, ha, b, hb, e => by
    simp only [List.map_cons, List.nodup_cons] at h
    rcases List.mem_cons.1 ha with h1 | h1
    · rcases List.mem_cons.1 hb with h2 | h2
      · rw [h1, h2]
      · exact absurd (by rw [← h1, e]; exact List.mem_map_of_mem h2) h.1
    · rcases List.mem_cons.1 hb with h2 | h2
      · exact absurd (by rw [← h2, ← e]; exact List.mem_map_of_mem h1) h.1
      · exact inj_nodup h.2 a h1 b h2 e
theorem ent_one {es : List (List V)} (hn : (es.map labOf).Nodup) {b c c' s : Nat} {r r' : List (List V)} (h : ent b c s r ∈ es) (h' : ent b c' s r' ∈ es) : c' = c ∧ r' = r := by
  have : ent b c' s r' = ent b c s r := inj_nodup hn _ h' _ h (by rw [labOf_ent, labOf_ent])
  exact ⟨congrArg capOf this, congrArg rowsOf this⟩
theorem put_deep_end (l ly : LT) (x : Int) (n : Nat) (inp : Bool) (p : Nat × Nat) (hw : l.Wf) (hyw : ly.Wf) (es es1 es2 es3 : List (List V)) (hin : ∀ e ∈ l.ents, e ∈ es) (hn : (l.ents.map labOf).Nodup) (hes1 : es1 = es ++ ly.ents) (hln : (es1.map labOf).Nodup)
    (b' i' c' : Nat) (hsr : l.seekR x = .dptr b' 4 i' 0) (ks : List LT) (nid : Int) (nk nx : List UInt8) (nh : Option (Nat × Nat)) (nks : List LT) (m : ent b' c' 4 (LT.rows ks) ∈ l.ents) (g : ks[i']? = some (.mk nid nk nx nh nks)) (hnk : nh = none → nks = [])
    (hnin : ∀ e ∈ (LT.mk nid nk nx nh nks).ents, e ∈ l.ents) (hnb : b' ∉ (LT.mk nid nk nx nh nks).ents.map labOf)
    (q1 : ent (hdr inp p nh).1 (hdr inp p nh).2 4 ((LT.rows nks).take n ++ ly.cells :: (LT.rows nks).drop n) ∈ es2) (q2 : ∀ e ∈ es1, (∀ q, nh = some q → labOf e ≠ q.1) → e ∈ es2) (q3 : ∀ e ∈ es1, labOf e ≠ p.1)
    (hes3 : es3 = putEnt b' ((LT.rows ks).set i' [.int .i64 nid, .str nk, .str nx, .dref (hdr inp p nh).1 (nks.length + 1) (hdr inp p nh).2]) es2) :
    ∃ l' : LT, T.upd x (putKidT n ly.erase) l.erase = some l'.erase ∧ l'.cells = l.cells ∧ l'.Wf ∧ (l'.ents.map labOf).Nodup ∧ ∀ e ∈ l'.ents, e ∈ es3 := by
  rcases LT.seekR_cases l x (putKid n ly inp p) hw hn with ⟨_, h6, _⟩ | ⟨h6, _⟩ | ⟨b2, i2, l', s2, h6, hu, hcl, hs2, hD2⟩
  · rw [hsr] at h6; cases h6
  · rw [hsr] at h6; cases h6
  rw [hsr] at h6
  cases h6
  have hlnn := hln
  rw [hes1] at hlnn
  obtain ⟨r1, r2, r3⟩ := put_done l l' ly x n inp p hw hyw hu hn es hin hlnn (by rw [← hes1]; exact q3)
  refine ⟨l', r3, hcl, r1, r2, ?_⟩
  obtain ⟨c2, ks2, node2, m2, g2, her2, hid2, hnw2, hnd2, hnin2, hnb2, hall⟩ := hD2
  obtain ⟨rfl, hrk⟩ := ent_one hn m m2
  have hr : (LT.rows ks)[i']? = some (LT.mk nid nk nx nh nks).cells := by simp only [LT.rows, List.getElem?_map, g, Option.map_some]
  have hr2 : (LT.rows ks2)[i']? = some node2.cells := by simp only [LT.rows, List.getElem?_map, g2, Option.map_some]
  rw [hrk, hr] at hr2
  cases node2 with
  | mk mid mk mx mh mks =>
  simp only [LT.cells, Option.some.injEq, List.cons.injEq, V.int.injEq, V.str.injEq, true_and, and_true] at hr2
  obtain ⟨rfl, rfl, rfl, hh⟩ := hr2
  have hm2k : mh = nh ∧ mks.length = nks.length ∧ LT.rows mks = LT.rows nks := by
    simp only [LT.Wf] at hnw2
    rcases nh with _ | ⟨nb, nc⟩
    · rcases mh with _ | ⟨mb, mc⟩
      · rw [hnw2.1 rfl, hnk rfl]; exact ⟨rfl, rfl, rfl⟩
      · cases hh
    · rcases mh with _ | ⟨mb, mc⟩
      · cases hh
      · simp only [hdV, V.dref.injEq] at hh
        obtain ⟨rfl, h2, rfl⟩ := hh
        refine ⟨rfl, h2.symm, (ent_one (b := nb) (c := nc) (c' := nc) (s := 4) hn (hnin _ ?_) (hnin2 _ ?_)).2⟩
        · simp only [LT.ents, rootE]; simp
        · simp only [LT.ents, rootE]; simp
  obtain ⟨hmh, hlk, hrows⟩ := hm2k
  subst hmh
  have hmes := hin _ m
  have hm1 : ent b' c2 4 (LT.rows ks) ∈ es1 := hes1 ▸ List.mem_append_left _ hmes
  have hroot : ∀ q, mh = some q → q.1 ∈ (LT.mk nid nk nx mh mks).ents.map labOf := fun q hq => by
    subst hq
    simp only [LT.ents, rootE, List.map_append, List.mem_append]
    exact .inr (by simp [ent, labOf])
  have hm2 : ent b' c2 4 (LT.rows ks) ∈ es2 := q2 _ hm1 fun q hq hb => hnb2 (by
    rw [labOf_ent] at hb; rw [hb]; exact hroot q hq)
  have hly : b' ∉ ly.ents.map labOf := fun hm => (nodup_app hlnn).2.2 _ hmes (by rw [labOf_ent]; exact hm)
  have hbp : b' ≠ p.1 := fun h => q3 _ hm1 (by rw [labOf_ent]; exact h)
  have hlab : b' ∉ (putKid n ly inp p (.mk nid nk nx mh mks)).ents.map labOf := fun hm => by
    rw [LT.labs_ents] at hm hnb2 hnd2 hly
    have hpy : p.1 ∉ ly.labs := fun h => by
      rw [← LT.labs_ents] at h
      obtain ⟨e, h1, h2⟩ := List.mem_map.1 h
      exact q3 e (hes1 ▸ List.mem_append_right _ h1) h2
    have hlyn := (nodup_app hlnn).2.1
    rw [LT.labs_ents] at hlyn
    have := (putKid_labs n ly hlyn inp p hpy _ hnd2 fun a ha hal => by
      rw [← LT.labs_ents] at hal
      obtain ⟨e, h1, h2⟩ := List.mem_map.1 hal
      have he1 := hin e (hnin2 e h1)
      rcases List.mem_append.1 ha with ha | ha
      · rw [← LT.labs_ents] at ha
        exact (nodup_app hlnn).2.2 e he1 (h2 ▸ ha)
      · exact q3 e (hes1 ▸ List.mem_append_left _ he1) (by rw [h2]; simpa using ha)).2 b' hm
    rcases this with h | h
    · exact hnb2 h
    · rcases List.mem_append.1 h with h | h
      · exact hly h
      · exact hbp (by simpa using h)
  have hput := put_ents nid nk nx mh mks n ly inp p es es1 es2 (fun e he => hin e (hnin2 e he)) hnd2 hes1 hln (by rw [hrows]; exact q1) q2
  refine hall es3 (fun e he => ?_) (fun e he k1 k2 => ?_) ?_
  · exact hes3 ▸ putEnt_other (hput e he) fun h => hlab (h ▸ List.mem_map_of_mem he)
  · refine hes3 ▸ putEnt_other (q2 e (hes1 ▸ List.mem_append_left _ (hin e he)) fun q hq h => k1 (by rw [h]; exact hroot q hq)) k2
  · rw [hrk]
    have : (putKid n ly inp p (.mk nid nk nx mh mks)).cells = [.int .i64 nid, .str nk, .str nx, .dref (hdr inp p mh).1 (nks.length + 1) (hdr inp p mh).2] := by
      simp only [putKid, LT.cells, hdV, put_len, hlk]
    rw [this]
    exact hes3 ▸ putEnt_mem hm2
set_option maxHeartbeats 8000000 in
theorem putDo_deep (l : LT) (hw : l.Wf) (x at_ : Int) (y : T) (hy : y.Small) (es : List (List V)) (hin : ∀ e ∈ l.ents, e ∈ es) (hn : (l.ents.map labOf).Nodup) (hz : LT.sizeL l.kids ≤ 1000000)
    (b' i' : Nat) (hsr : l.seekR x = .dptr b' 4 i' 0) (sx : T) (hsx : fT l.erase x = some sx) (l0 : LT) (hD : Deep x _root_.id sx l.ents l0.ents b' i') (hlen : sx.kids.length ≤ 1000000) :
    Full Try.prog noY 97 [.agg ([.int .i64 x, .int .i64 at_] ++ y.cells), .ptr 1 0 0] [poolO es, boxO l] (DoR l (putT l.erase x at_ y)) := by
  have hc := treeIn_root l hw x es hin (by omega)
  have hcp := (treeCopy_acc y hy es).givenEnd
  have hcs := fun f => LT.seekR_cases l x f hw hn
  rw [hsr] at hc hcs
  have hput : putT l.erase x at_ y = if 0 ≤ at_ ∧ at_ ≤ sx.kids.length then l.erase.upd x (putKidT at_.toNat y) else none := by
    unfold putT
    rw [hsx]
  generalize putT l.erase x at_ y = ot at *
  obtain ⟨c', ks, node, m, g, her, hid, hnw, hnd, hnin, hnb, _⟩ := hD
  have hr : (LT.rows ks)[i']? = some node.cells := by simp only [LT.rows, List.getElem?_map, g, Option.map_some]
  have hsk : sx.kids.length = node.lkids.length := by rw [← her]; cases node with | mk a b c d e => simp only [LT.erase, T.kids, LT.eraseL_len, LT.lkids]
  have hmes := hin _ m
  cases y with
  | mk yi yk yx yks =>
  cases l with
  | mk id kind text h kids =>
  cases node with
  | mk nid nk nx nh nks =>
  simp only [LT.lkids] at hsk
  have hnk : nh = none → nks = [] := by simp only [LT.Wf] at hnw; exact hnw.1
  have hia := fun es1 h1 row hr i hi => insert_any nh nks (by simp only [LT.Wf] at hnw; exact hnw.1) es1 h1 row hr i hi (by omega)
  refine full_of_awp good Try.func97 rfl (by kernel_rfl) (by decide) ?_
  rcases h with _ | ⟨b, c⟩
  · exfalso
    simp only [LT.ents, rootE] at m
    simp only [LT.Wf] at hw
    have := hw.1 trivial
    subst this
    simp [LT.entsL] at m
  rcases nh with _ | ⟨nb, nc⟩
  all_goals
    conv => whnf
    refine ⟨[0, 1], true, ?_⟩
    conv => whnf
    refine hc.mono ?_
    rintro o st' ⟨rfl, rfl⟩
    conv => whnf
    by_cases a0 : at_ < 0
    · rw [ltB_t a0]
      conv => whnf
      refine ⟨[], true, ?_⟩
      conv => whnf
      rw [if_neg (by omega)] at hput
      subst hput
      exact ⟨rfl, es, rfl⟩
    rw [ltB_f (by omega)]
    conv => whnf
    refine ⟨0, c', LT.rows ks, _, hmes, hr, ?_⟩
    conv => whnf
    by_cases a1 : (nks.length : Int) < at_
    · first | rw [ltB_t a1] | rw [ltB_t (show ((([] : List (List V)).length : Nat) : Int) < at_ by have := hnk rfl; subst this; exact a1)]
      conv => whnf
      refine ⟨[], true, ?_⟩
      conv => whnf
      rw [if_neg (by omega)] at hput
      subst hput
      exact ⟨rfl, es, rfl⟩
    first | rw [ltB_f (by omega)] | rw [ltB_f (show at_ ≤ ((([] : List (List V)).length : Nat) : Int) by have := hnk rfl; subst this; simp at a1; simpa using a1)]
    conv => whnf
    refine ⟨0, c', LT.rows ks, _, hmes, hr, ?_⟩
    conv => whnf
    rw [if_pos (by omega)] at hput
    obtain ⟨n, rfl⟩ : ∃ n : Nat, at_ = n := ⟨at_.toNat, by omega⟩
    refine .inr (.inl ⟨[0], true, ?_⟩)
    conv => whnf
    refine hcp.mono ?_
    rintro o st' ⟨⟨ly, y1, y2, rfl, rfl⟩, hl⟩
    have hln := hl.nodup (k := 0) rfl
    have hia := hia (es ++ ly.ents) (fun e he => List.mem_append_left _ (hin e (hnin e (by simp only [LT.ents]; exact List.mem_append_right _ he)))) ly.cells ly.cells_len n (by omega)
    obtain ⟨es1, hes1⟩ : ∃ es1, es1 = es ++ ly.ents := ⟨_, rfl⟩
    have hend := fun inp p es2 es3 q1 q2 q3 => put_deep_end _ ly x n inp p hw y2 es es1 es2 es3 hin hn hes1 (by rw [hes1]; exact hln) b' i' c' hsr ks nid nk nx _ nks m g hnk hnin hnb q1 q2 q3
    rw [← hes1] at hia ⊢
    have hst1 : ∀ e ∈ es, e ∈ es1 := fun e he => hes1 ▸ List.mem_append_left _ he
    have hm1 := hst1 _ hmes
    cases ly with
    | mk lid lk lx lh lks =>
    rcases lh with _ | ⟨lb, lc⟩
    all_goals
      conv => whnf
      repeat (refine And.intro (by
                (conv => whnf)
                first
                  | exact ⟨0, c', LT.rows ks, _, hm1, hr, rfl⟩
                  | rfl) ?_
              conv => whnf)
      refine ⟨[0, 3], true, ?_⟩
      conv => whnf
      refine hia.mono ?_
      rintro o st' ⟨inp, p, es2, ⟨de, dw, dl, dx, db, dk⟩, hdb, rfl, rfl, q1, q2, q3⟩
      obtain rfl : db = false := hdb
      conv => whnf
      have hm2 : ent b' c' 4 (LT.rows ks) ∈ es2 := q2 _ hm1 fun q hq hb => by
        first
          | (cases hq; done)
          | (cases hq
             rw [labOf_ent] at hb
             exact hnb (by rw [hb]; simp only [LT.ents, rootE, List.map_append, List.mem_append]; exact .inr (by simp [ent, labOf])))
      have hE := hend inp p es2 _ q1 q2 q3 rfl
      generalize hes3 : putEnt b' _ es2 = es3 at hE
      refine ⟨0, c', LT.rows ks, _, es3, hm2, hr, by rw [← hes3]; rfl, ?_⟩
      conv => whnf
      refine ⟨[], true, ?_⟩
      conv => whnf
      obtain ⟨l', h5, hcl, r1, r2, r4⟩ := hE
      rw [y1] at h5
      have hot := hput.trans h5
      subst hot
      refine ⟨l', es3, rfl, r1, r2, rfl, ?_, r4⟩
      simp only [boxO, hcl]
      rfl
end Go.Cod

namespace Go.Cod
open Go Go.Proofs
set_option maxRecDepth 10000

set_option maxHeartbeats 8000000 in
theorem putDo_none (l : LT) (hw : l.Wf) (x at_ : Int) (y : T) (es : List (List V)) (hin : ∀ e ∈ l.ents, e ∈ es) (hz : LT.sizeL l.kids ≤ 1000000) (hsr : l.seekR x = .raw (.pointer none)) (hno : fT l.erase x = none) :
    Full Try.prog noY 97 [.agg ([.int .i64 x, .int .i64 at_] ++ y.cells), .ptr 1 0 0] [poolO es, boxO l] (DoR l (putT l.erase x at_ y)) := by
  have hc := treeIn_root l hw x es hin (by omega)
  rw [hsr] at hc
  have hput : putT l.erase x at_ y = none := by unfold putT; rw [hno]
  rw [hput]
  cases y with
  | mk yi yk yx yks =>
  cases l with
  | mk id kind text h kids =>
  refine full_of_awp good Try.func97 rfl (by kernel_rfl) (by decide) ?_
  rcases h with _ | ⟨b, c⟩
  all_goals
    conv => whnf
    refine ⟨[0, 1], true, ?_⟩
    conv => whnf
    refine hc.mono ?_
    rintro o st' ⟨rfl, rfl⟩
    conv => whnf
    refine ⟨[], true, ?_⟩
    conv => whnf
    exact ⟨rfl, es, rfl⟩
theorem fT_kids_len {t : T} {x : Int} {s : T} (h : fT t x = some s) : s.kids.length ≤ t.size := by
  have h1 := fT_size t x s h
  have h2 : ∀ ts : List T, ts.length ≤ T.sizeL ts := fun ts => by
    induction ts with
    | nil => simp
    | cons t ts ih =>
      have : 1 ≤ t.size := by cases t; simp only [T.size]; omega
      simp only [T.sizeL, List.length_cons]; omega
  have h3 := T.kids_size s
  have := h2 s.kids
  omega
theorem putDo (l : LT) (hw : l.Wf) (x at_ : Int) (y : T) (hy : y.Small) (es : List (List V)) (hin : ∀ e ∈ l.ents, e ∈ es) (hn : (l.ents.map labOf).Nodup) (hz : l.erase.size ≤ 1000000) :
    Full Try.prog noY 97 [.agg ([.int .i64 x, .int .i64 at_] ++ y.cells), .ptr 1 0 0] [poolO es, boxO l] (DoR l (putT l.erase x at_ y)) := by
  have hk : LT.sizeL l.kids ≤ 1000000 := by
    rw [LT.kids_size]
    have := T.kids_size l.erase
    omega
  rcases LT.seekR_cases l x _root_.id hw hn with ⟨h0, hsr, _⟩ | ⟨hsr, _, hno⟩ | ⟨b', i', l0, sx, hsr, _, _, hsx, hD⟩
  · cases l with
    | mk id kind text h kids =>
    obtain rfl : id = x := h0
    exact putDo_root id kind text h kids hw at_ y hy es hin hn hk
  · exact putDo_none l hw x at_ y es hin hk hsr hno
  · exact putDo_deep l hw x at_ y hy es hin hn hk b' i' hsr sx hsx l0 hD (by have := fT_kids_len hsx; omega)
/- The other deeds, in the same form. -/
theorem EditR.toDo {es : List (List V)} {l : LT} {x : Int} {f : LT → LT} {g : T → T} (he : ∀ n : LT, (f n).erase = g n.erase) (hf : ∀ n : LT, n.Wf → (f n).Wf) (hl : ∀ n : LT, n.labs.Nodup → (f n).labs.Nodup ∧ ∀ a ∈ (f n).labs, a ∈ n.labs) (hw : l.Wf) (hn : (l.ents.map labOf).Nodup) {o : Out} {st' : St}
    (h : EditR es l (l.upd x f) o st') : DoR l (T.upd x g l.erase) o st' := by
  rw [← LT.upd_erase x f g he l hw]
  cases hu : l.upd x f with
  | none =>
    rw [hu] at h
    exact ⟨h.1, es, h.2⟩
  | some l' =>
    rw [hu] at h
    obtain ⟨h1, es', h2, h3⟩ := h
    rw [LT.labs_ents] at hn
    have hn' := (LT.upd_labs x f [] (fun n h1 _ => ⟨(hl n h1).1, fun a ha => .inl ((hl n h1).2 a ha)⟩) l l' hu hn (by simp)).1
    exact ⟨l', es', rfl, LT.upd_wf x f hf l l' hw hu, by rw [LT.labs_ents]; exact hn', h1, h2, h3⟩
def setTextT (s : List UInt8) : T → T
  | .mk id kind _ kids => .mk id kind s kids
def setKindT (s : List UInt8) : T → T
  | .mk id _ text kids => .mk id s text kids
theorem labsL_sub {us vs : List LT} (h : us.Sublist vs) : (LT.labsL us).Sublist (LT.labsL vs) := by
  induction h with
  | slnil => exact .slnil
  | cons a h ih => exact ih.trans (List.sublist_append_right _ _)
  | cons_cons a h ih => exact (List.Sublist.refl _).append ih
theorem cutKid_erase (x : Int) (n : LT) : (cutKid x n).erase = cutKidT x n.erase := by
  cases n with
  | mk id kind text h kids =>
    simp only [cutKid, LT.erase, cutKidT, LT.eraseL_eq, List.eraseIdx_eq_take_drop_succ, List.map_append, List.map_take, List.map_drop]
theorem cutKid_wf (x : Int) (n : LT) (h : n.Wf) : (cutKid x n).Wf := by
  cases n with
  | mk id kind text hd kids =>
    simp only [LT.Wf] at h
    simp only [cutKid, LT.Wf]
    refine ⟨fun e => by rw [h.1 e]; simp, (LT.WfL_iff _).2 fun l hl => (LT.WfL_iff _).1 h.2 l (List.mem_of_mem_eraseIdx hl)⟩
theorem cutKid_labs (x : Int) (n : LT) (h : n.labs.Nodup) : (cutKid x n).labs.Nodup ∧ ∀ a ∈ (cutKid x n).labs, a ∈ n.labs := by
  cases n with
  | mk id kind text hd kids =>
    have hs : (cutKid x (.mk id kind text hd kids)).labs.Sublist (LT.mk id kind text hd kids).labs := by
      simp only [cutKid, LT.labs]
      exact (labsL_sub (List.eraseIdx_sublist _ _)).append (List.Sublist.refl _)
    exact ⟨h.sublist hs, fun a ha => hs.subset ha⟩
theorem textDo' (l : LT) (hw : l.Wf) (x : Int) (s : List UInt8) (es : List (List V)) (hin : ∀ e ∈ l.ents, e ∈ es) (hn : (l.ents.map labOf).Nodup) (hz : l.erase.size ≤ 1000000) :
    Full Try.prog noY 112 [.agg [.int .i64 x, .str s], .ptr 1 0 0] [poolO es, boxO l] (DoR l (T.upd x (setTextT s) l.erase)) :=
  (textDo l hw x s es hin hn (by rw [LT.kids_size]; have := T.kids_size l.erase; omega)).mono fun o st' h => EditR.toDo (fun n => by cases n; rfl) (fun n h => by cases n; exact h) (fun n h => by cases n; exact ⟨h, fun a ha => ha⟩) hw hn h
theorem kindDo' (l : LT) (hw : l.Wf) (x : Int) (s : List UInt8) (es : List (List V)) (hin : ∀ e ∈ l.ents, e ∈ es) (hn : (l.ents.map labOf).Nodup) (hz : l.erase.size ≤ 1000000) :
    Full Try.prog noY 114 [.agg [.int .i64 x, .str s], .ptr 1 0 0] [poolO es, boxO l] (DoR l (T.upd x (setKindT s) l.erase)) :=
  (kindDo l hw x s es hin hn (by rw [LT.kids_size]; have := T.kids_size l.erase; omega)).mono fun o st' h => EditR.toDo (fun n => by cases n; rfl) (fun n h => by cases n; exact h) (fun n h => by cases n; exact ⟨h, fun a ha => ha⟩) hw hn h
def cutTT (t : T) (x : Int) : Option T := if 1 ≤ treeOver t x then t.upd (treeOver t x) (cutKidT x) else none
theorem cutDo' (l : LT) (hw : l.Wf) (hs : l.erase.Small) (x : Int) (es : List (List V)) (hin : ∀ e ∈ l.ents, e ∈ es) (hn : (l.ents.map labOf).Nodup) (hz : l.erase.size ≤ 1000000) :
    Full Try.prog noY 105 [.agg [.int .i64 x], .ptr 1 0 0] [poolO es, boxO l] (DoR l (cutTT l.erase x)) := by
  refine (cutDo l hw hs x es hin hn (by rw [LT.kids_size]; have := T.kids_size l.erase; omega)).mono fun o st' h => ?_
  unfold cutT at h
  unfold cutTT
  split
  · rename_i h1
    rw [if_pos h1] at h
    exact EditR.toDo (cutKid_erase x) (cutKid_wf x) (cutKid_labs x) hw hn h
  · rename_i h1
    rw [if_neg h1] at h
    exact ⟨h.1, es, h.2⟩
end Go.Cod

namespace Go.Cod
open Go Go.Proofs
set_option maxRecDepth 10000

/-- Whether a step has no place and no tree. -/
def nothingT (s : Stp) : Bool := decide (s.at_ = 0) && noneT s.node
set_option maxHeartbeats 4000000 in
theorem stepPutsNothing_pure (s : Stp) : Pure Try.prog 67 [.agg s.cells] (· = .bool (nothingT s)) := by
  cases s with
  | mk kind sid at_ node text =>
  cases node with
  | mk nid nk nx nks =>
  have hl : ((T.rows nks).length : Int) = (nks.length : Int) := by rw [Go.Cod.rows_len]
  show Pure Try.prog _ [.agg [.int .i64 kind, .int .i64 sid, .int .i64 at_, .int .i64 nid, .str nk, .str nx, .sl (T.rows nks), .str text]] _
  refine pure_of_awp good Try.func67 rfl (by kernel_rfl) (by decide) ?_
  conv => whnf
  by_cases h0 : at_ = 0
  rotate_left
  · rw [eqB_f h0]
    conv => whnf
    simp [nothingT, h0]
  rw [eqB_t h0]
  conv => whnf
  by_cases h1 : nid = 0
  rotate_left
  · rw [eqB_f h1]
    conv => whnf
    simp [nothingT, noneT, h1]
  rw [eqB_t h1]
  conv => whnf
  by_cases h2 : nk = []
  rotate_left
  · rw [eqS_f h2]
    conv => whnf
    simp [nothingT, noneT, h2]
  rw [eqS_t h2]
  conv => whnf
  by_cases h3 : nx = []
  rotate_left
  · rw [eqS_f h3]
    conv => whnf
    simp [nothingT, noneT, h3]
  rw [eqS_t h3]
  conv => whnf
  by_cases h4 : nks.length = 0
  · rw [eqB_t (show ((T.rows nks).length : Int) = 0 by omega)]
    conv => whnf
    simp only [nothingT, noneT, h0, h1, h2, h3, h4, decide_true, Bool.and_self]
  · rw [eqB_f (show ((T.rows nks).length : Int) ≠ 0 by omega)]
    conv => whnf
    simp only [nothingT, noneT, h0, h1, h2, h3, h4, decide_true, decide_false, Bool.and_self, Bool.and_false]
end Go.Cod

namespace Go.Cod
open Go Go.Proofs
set_option maxRecDepth 10000

/-- The deed of a step, as a value. -/
def deedV (s : Stp) : V := if s.kind = 1 then .iface 107 (.agg ([.int .i64 s.id, .int .i64 s.at_] ++ s.node.cells)) else if s.kind = 2 then .iface 109 (.agg [.int .i64 s.id]) else if s.kind = 3 then .iface 112 (.agg [.int .i64 s.id, .str s.text])
  else if s.kind = 4 then .iface 114 (.agg [.int .i64 s.id, .str s.text]) else .raw .nilIface
def deedOk (s : Stp) : Bool := if s.kind = 1 then decide (s.text = []) && okT s.node else if s.kind = 2 then decide (s.text = []) && nothingT s else if s.kind = 3 then nothingT s else if s.kind = 4 then nothingT s else false
set_option maxHeartbeats 4000000 in
theorem stepDeedOf_pure (s : Stp) (hs : s.node.Small) : Pure Try.prog 40 [.agg s.cells] (· = .tup [deedV s, .bool (deedOk s)]) := by
  have f1 := implTreeOk s.node hs
  have f2 := stepPutsNothing_pure s
  have hv : deedV s = if s.kind = 1 then .iface 107 (.agg ([.int .i64 s.id, .int .i64 s.at_] ++ s.node.cells)) else if s.kind = 2 then .iface 109 (.agg [.int .i64 s.id]) else if s.kind = 3 then .iface 112 (.agg [.int .i64 s.id, .str s.text])
    else if s.kind = 4 then .iface 114 (.agg [.int .i64 s.id, .str s.text]) else .raw .nilIface := rfl
  have hk : deedOk s = if s.kind = 1 then decide (s.text = []) && okT s.node else if s.kind = 2 then decide (s.text = []) && nothingT s else if s.kind = 3 then nothingT s else if s.kind = 4 then nothingT s else false := rfl
  generalize deedV s = dv at *
  generalize deedOk s = dk at *
  generalize nothingT s = nt at *
  generalize okT s.node = ok at *
  simp only [Stp.cells] at f2 ⊢
  cases s with
  | mk kind sid at_ node text =>
  cases node with
  | mk nid nk nx nks =>
  simp only at hv hk f1 f2
  refine pure_of_awp good Try.func40 rfl (by kernel_rfl) (by decide) ?_
  conv => whnf
  by_cases k1 : kind = 1
  · rw [if_pos k1] at hv hk
    rw [eqB_t k1]
    conv => whnf
    by_cases h1 : text = []
    · rw [eqS_t h1]
      conv => whnf
      refine ⟨_, .inl f1, ?_⟩
      conv => whnf
      rw [hv, hk, h1]
      cases ok <;> rfl
    · rw [eqS_f h1]
      conv => whnf
      rw [hv, hk, show decide (text = []) = false by simpa using h1]
      rfl
  rw [if_neg k1] at hv hk
  rw [eqB_f k1]
  conv => whnf
  by_cases k2 : kind = 2
  · rw [if_pos k2] at hv hk
    rw [eqB_t k2]
    conv => whnf
    by_cases h1 : text = []
    · rw [eqS_t h1]
      conv => whnf
      refine ⟨_, .inl f2, ?_⟩
      conv => whnf
      rw [hv, hk, h1]
      cases nt <;> rfl
    · rw [eqS_f h1]
      conv => whnf
      rw [hv, hk, show decide (text = []) = false by simpa using h1]
      rfl
  rw [if_neg k2] at hv hk
  rw [eqB_f k2]
  conv => whnf
  by_cases k3 : kind = 3
  · rw [if_pos k3] at hv hk
    rw [eqB_t k3]
    conv => whnf
    refine ⟨_, .inl f2, ?_⟩
    conv => whnf
    rw [hv, hk]
    rfl
  rw [if_neg k3] at hv hk
  rw [eqB_f k3]
  conv => whnf
  by_cases k4 : kind = 4
  · rw [if_pos k4] at hv hk
    rw [eqB_t k4]
    conv => whnf
    refine ⟨_, .inl f2, ?_⟩
    conv => whnf
    rw [hv, hk]
    rfl
  rw [if_neg k4] at hv hk
  rw [eqB_f k4]
  conv => whnf
  rw [hv, hk]
  rfl
/-- What a change of a copy leaves. -/
def ChR (t : T) (d : Option T) (o : Out) (st' : St) : Prop := ∃ (l : LT) (es : List (List V)), l.erase = d.getD t ∧ l.Wf ∧ (∀ e ∈ l.ents, e ∈ es) ∧ (l.ents.map labOf).Nodup ∧ o = .ret (.tup [.agg l.cells, .bool d.isSome]) ∧ st' = [poolO es]
set_option maxHeartbeats 8000000 in
theorem changed_put (t : T) (ht : t.Small) (x at_ : Int) (z : T) (r : Option T) (hr : ∀ y, r = some y → y.Small) (hd : ∀ (l : LT) (es : List (List V)), l.erase = t → l.Wf → (∀ e ∈ l.ents, e ∈ es) → (l.ents.map labOf).Nodup → Full Try.prog noY 97 [.agg ([.int .i64 x, .int .i64 at_] ++ z.cells), .ptr 1 0 0] [poolO es, boxO l] (DoR l r)) :
    Full Try.prog noY 42 [.agg t.cells, .meth "loop.example/codicil/impl.do" (.iface 107 (.agg ([.int .i64 x, .int .i64 at_] ++ z.cells)))] [poolO []] (ChR t (r.bind okO)) := by
  have hcp := (treeCopy_acc t ht []).givenEnd
  have hcp2 := fun es => (treeCopy_acc t ht es).givenEnd
  generalize hrd : r.bind okO = d
  cases z with
  | mk zi zk zx zks =>
  cases t with
  | mk id kind text kids =>
  refine full_of_awp good Try.func42 rfl (by kernel_rfl) (by decide) ?_
  conv => whnf
  refine .inr (.inl ⟨[0], true, ?_⟩)
  conv => whnf
  refine hcp.mono ?_
  rintro o st' ⟨⟨l, l1, l2, rfl, rfl⟩, hl⟩
  have hn := hl.nodup (k := 0) rfl
  rw [List.nil_append] at hn ⊢
  have hd := hd l l.ents l1 l2 (fun _ h => h) hn
  obtain ⟨es, hes⟩ : ∃ es, es = l.ents := ⟨_, rfl⟩
  rw [← hes] at hd ⊢
  cases l with
  | mk lid lk lx lh lks =>
  rcases lh with _ | ⟨lb, lc⟩
  all_goals
    conv => whnf
    refine ⟨_, rfl, ?_⟩
    conv => whnf
    refine ⟨[0, 3], true, ?_⟩
    conv => whnf
    refine hd.mono ?_
    intro o st' h
    cases r with
    | none =>
      obtain ⟨rfl, es', rfl⟩ := h
      conv => whnf
      refine .inr (.inl ⟨[0], true, ?_⟩)
      conv => whnf
      refine (hcp2 es').mono ?_
      rintro o st' ⟨⟨l, l1, l2, rfl, rfl⟩, hl⟩
      have hn := hl.nodup (k := 0) rfl
      obtain ⟨es2, hes2⟩ : ∃ es2, es2 = es' ++ l.ents := ⟨_, rfl⟩
      have hin : ∀ e ∈ l.ents, e ∈ es2 := fun e he => hes2 ▸ List.mem_append_right _ he
      rw [← hes2] at hn ⊢
      have hnl : (l.ents.map labOf).Nodup := by rw [hes2] at hn; exact (nodup_app hn).2.1
      subst hrd
      cases l with
      | mk gid gk gx gh gks =>
      rcases gh with _ | ⟨gb, gc⟩
      all_goals
        conv => whnf
        refine ⟨[], true, ?_⟩
        conv => whnf
        exact ⟨_, es2, l1, l2, hin, hnl, rfl, rfl⟩
    | some y =>
      obtain ⟨l', es', h1, h2, h3, rfl, rfl, h4⟩ := h
      have hok := implTreeOk y (hr y rfl)
      have hv := l'.viewA h2 h4
      rw [h1] at hv
      have hrd : d = okO y := hrd.symm
      unfold okO at hrd
      generalize okT y = oky at *
      have hcells : (.agg y.cells : V).flat = (.agg y.cells : V).flat := rfl
      cases l' with
      | mk mid mk mx mh mks =>
      cases y with
      | mk yi yk yx yks =>
      rcases mh with _ | ⟨mb, mc⟩
      all_goals
        conv => whnf
        refine .inr (.inr ⟨es', [.agg (T.mk yi yk yx yks).cells], fun e he => ⟨0, he⟩, viewL1 hv, rfl, hok.mono ?_⟩)
        rintro r rfl
        refine ⟨rfl, ?_⟩
        cases oky with
        | true =>
          conv => whnf
          refine ⟨[], true, ?_⟩
          conv => whnf
          rw [if_pos rfl] at hrd
          subst hrd
          exact ⟨_, es', h1, h2, h4, h3, rfl, rfl⟩
        | false =>
          conv => whnf
          refine .inr (.inl ⟨[0], true, ?_⟩)
          conv => whnf
          refine (hcp2 es').mono ?_
          rintro o st' ⟨⟨l, l1, l2, rfl, rfl⟩, hl⟩
          have hn := hl.nodup (k := 0) rfl
          obtain ⟨es2, hes2⟩ : ∃ es2, es2 = es' ++ l.ents := ⟨_, rfl⟩
          have hin : ∀ e ∈ l.ents, e ∈ es2 := fun e he => hes2 ▸ List.mem_append_right _ he
          rw [← hes2] at hn ⊢
          have hnl : (l.ents.map labOf).Nodup := by rw [hes2] at hn; exact (nodup_app hn).2.1
          rw [if_neg (by simp)] at hrd
          subst hrd
          cases l with
          | mk gid gk gx gh gks =>
          rcases gh with _ | ⟨gb, gc⟩
          all_goals
            conv => whnf
            refine ⟨[], true, ?_⟩
            conv => whnf
            exact ⟨_, es2, l1, l2, hin, hnl, rfl, rfl⟩
set_option maxHeartbeats 8000000 in
theorem changed_cut (t : T) (ht : t.Small) (x : Int) (r : Option T) (hr : ∀ y, r = some y → y.Small) (hd : ∀ (l : LT) (es : List (List V)), l.erase = t → l.Wf → (∀ e ∈ l.ents, e ∈ es) → (l.ents.map labOf).Nodup → Full Try.prog noY 105 [.agg [.int .i64 x], .ptr 1 0 0] [poolO es, boxO l] (DoR l r)) :
    Full Try.prog noY 42 [.agg t.cells, .meth "loop.example/codicil/impl.do" (.iface 109 (.agg [.int .i64 x]))] [poolO []] (ChR t (r.bind okO)) := by
  have hcp := (treeCopy_acc t ht []).givenEnd
  have hcp2 := fun es => (treeCopy_acc t ht es).givenEnd
  generalize hrd : r.bind okO = d
  cases t with
  | mk id kind text kids =>
  refine full_of_awp good Try.func42 rfl (by kernel_rfl) (by decide) ?_
  conv => whnf
  refine .inr (.inl ⟨[0], true, ?_⟩)
  conv => whnf
  refine hcp.mono ?_
  rintro o st' ⟨⟨l, l1, l2, rfl, rfl⟩, hl⟩
  have hn := hl.nodup (k := 0) rfl
  rw [List.nil_append] at hn ⊢
  have hd := hd l l.ents l1 l2 (fun _ h => h) hn
  obtain ⟨es, hes⟩ : ∃ es, es = l.ents := ⟨_, rfl⟩
  rw [← hes] at hd ⊢
  cases l with
  | mk lid lk lx lh lks =>
  rcases lh with _ | ⟨lb, lc⟩
  all_goals
    conv => whnf
    refine ⟨_, rfl, ?_⟩
    conv => whnf
    refine ⟨[0, 3], true, ?_⟩
    conv => whnf
    refine hd.mono ?_
    intro o st' h
    cases r with
    | none =>
      obtain ⟨rfl, es', rfl⟩ := h
      conv => whnf
      refine .inr (.inl ⟨[0], true, ?_⟩)
      conv => whnf
      refine (hcp2 es').mono ?_
      rintro o st' ⟨⟨l, l1, l2, rfl, rfl⟩, hl⟩
      have hn := hl.nodup (k := 0) rfl
      obtain ⟨es2, hes2⟩ : ∃ es2, es2 = es' ++ l.ents := ⟨_, rfl⟩
      have hin : ∀ e ∈ l.ents, e ∈ es2 := fun e he => hes2 ▸ List.mem_append_right _ he
      rw [← hes2] at hn ⊢
      have hnl : (l.ents.map labOf).Nodup := by rw [hes2] at hn; exact (nodup_app hn).2.1
      subst hrd
      cases l with
      | mk gid gk gx gh gks =>
      rcases gh with _ | ⟨gb, gc⟩
      all_goals
        conv => whnf
        refine ⟨[], true, ?_⟩
        conv => whnf
        exact ⟨_, es2, l1, l2, hin, hnl, rfl, rfl⟩
    | some y =>
      obtain ⟨l', es', h1, h2, h3, rfl, rfl, h4⟩ := h
      have hok := implTreeOk y (hr y rfl)
      have hv := l'.viewA h2 h4
      rw [h1] at hv
      have hrd : d = okO y := hrd.symm
      unfold okO at hrd
      generalize okT y = oky at *
      have hcells : (.agg y.cells : V).flat = (.agg y.cells : V).flat := rfl
      cases l' with
      | mk mid mk mx mh mks =>
      cases y with
      | mk yi yk yx yks =>
      rcases mh with _ | ⟨mb, mc⟩
      all_goals
        conv => whnf
        refine .inr (.inr ⟨es', [.agg (T.mk yi yk yx yks).cells], fun e he => ⟨0, he⟩, viewL1 hv, rfl, hok.mono ?_⟩)
        rintro r rfl
        refine ⟨rfl, ?_⟩
        cases oky with
        | true =>
          conv => whnf
          refine ⟨[], true, ?_⟩
          conv => whnf
          rw [if_pos rfl] at hrd
          subst hrd
          exact ⟨_, es', h1, h2, h4, h3, rfl, rfl⟩
        | false =>
          conv => whnf
          refine .inr (.inl ⟨[0], true, ?_⟩)
          conv => whnf
          refine (hcp2 es').mono ?_
          rintro o st' ⟨⟨l, l1, l2, rfl, rfl⟩, hl⟩
          have hn := hl.nodup (k := 0) rfl
          obtain ⟨es2, hes2⟩ : ∃ es2, es2 = es' ++ l.ents := ⟨_, rfl⟩
          have hin : ∀ e ∈ l.ents, e ∈ es2 := fun e he => hes2 ▸ List.mem_append_right _ he
          rw [← hes2] at hn ⊢
          have hnl : (l.ents.map labOf).Nodup := by rw [hes2] at hn; exact (nodup_app hn).2.1
          rw [if_neg (by simp)] at hrd
          subst hrd
          cases l with
          | mk gid gk gx gh gks =>
          rcases gh with _ | ⟨gb, gc⟩
          all_goals
            conv => whnf
            refine ⟨[], true, ?_⟩
            conv => whnf
            exact ⟨_, es2, l1, l2, hin, hnl, rfl, rfl⟩
set_option maxHeartbeats 8000000 in
theorem changed_text (t : T) (ht : t.Small) (x : Int) (w : List UInt8) (r : Option T) (hr : ∀ y, r = some y → y.Small) (hd : ∀ (l : LT) (es : List (List V)), l.erase = t → l.Wf → (∀ e ∈ l.ents, e ∈ es) → (l.ents.map labOf).Nodup → Full Try.prog noY 112 [.agg [.int .i64 x, .str w], .ptr 1 0 0] [poolO es, boxO l] (DoR l r)) :
    Full Try.prog noY 42 [.agg t.cells, .meth "loop.example/codicil/impl.do" (.iface 112 (.agg [.int .i64 x, .str w]))] [poolO []] (ChR t (r.bind okO)) := by
  have hcp := (treeCopy_acc t ht []).givenEnd
  have hcp2 := fun es => (treeCopy_acc t ht es).givenEnd
  generalize hrd : r.bind okO = d
  cases t with
  | mk id kind text kids =>
  refine full_of_awp good Try.func42 rfl (by kernel_rfl) (by decide) ?_
  conv => whnf
  refine .inr (.inl ⟨[0], true, ?_⟩)
  conv => whnf
  refine hcp.mono ?_
  rintro o st' ⟨⟨l, l1, l2, rfl, rfl⟩, hl⟩
  have hn := hl.nodup (k := 0) rfl
  rw [List.nil_append] at hn ⊢
  have hd := hd l l.ents l1 l2 (fun _ h => h) hn
  obtain ⟨es, hes⟩ : ∃ es, es = l.ents := ⟨_, rfl⟩
  rw [← hes] at hd ⊢
  cases l with
  | mk lid lk lx lh lks =>
  rcases lh with _ | ⟨lb, lc⟩
  all_goals
    conv => whnf
    refine ⟨_, rfl, ?_⟩
    conv => whnf
    refine ⟨[0, 3], true, ?_⟩
    conv => whnf
    refine hd.mono ?_
    intro o st' h
    cases r with
    | none =>
      obtain ⟨rfl, es', rfl⟩ := h
      conv => whnf
      refine .inr (.inl ⟨[0], true, ?_⟩)
      conv => whnf
      refine (hcp2 es').mono ?_
      rintro o st' ⟨⟨l, l1, l2, rfl, rfl⟩, hl⟩
      have hn := hl.nodup (k := 0) rfl
      obtain ⟨es2, hes2⟩ : ∃ es2, es2 = es' ++ l.ents := ⟨_, rfl⟩
      have hin : ∀ e ∈ l.ents, e ∈ es2 := fun e he => hes2 ▸ List.mem_append_right _ he
      rw [← hes2] at hn ⊢
      have hnl : (l.ents.map labOf).Nodup := by rw [hes2] at hn; exact (nodup_app hn).2.1
      subst hrd
      cases l with
      | mk gid gk gx gh gks =>
      rcases gh with _ | ⟨gb, gc⟩
      all_goals
        conv => whnf
        refine ⟨[], true, ?_⟩
        conv => whnf
        exact ⟨_, es2, l1, l2, hin, hnl, rfl, rfl⟩
    | some y =>
      obtain ⟨l', es', h1, h2, h3, rfl, rfl, h4⟩ := h
      have hok := implTreeOk y (hr y rfl)
      have hv := l'.viewA h2 h4
      rw [h1] at hv
      have hrd : d = okO y := hrd.symm
      unfold okO at hrd
      generalize okT y = oky at *
      have hcells : (.agg y.cells : V).flat = (.agg y.cells : V).flat := rfl
      cases l' with
      | mk mid mk mx mh mks =>
      cases y with
      | mk yi yk yx yks =>
      rcases mh with _ | ⟨mb, mc⟩
      all_goals
        conv => whnf
        refine .inr (.inr ⟨es', [.agg (T.mk yi yk yx yks).cells], fun e he => ⟨0, he⟩, viewL1 hv, rfl, hok.mono ?_⟩)
        rintro r rfl
        refine ⟨rfl, ?_⟩
        cases oky with
        | true =>
          conv => whnf
          refine ⟨[], true, ?_⟩
          conv => whnf
          rw [if_pos rfl] at hrd
          subst hrd
          exact ⟨_, es', h1, h2, h4, h3, rfl, rfl⟩
        | false =>
          conv => whnf
          refine .inr (.inl ⟨[0], true, ?_⟩)
          conv => whnf
          refine (hcp2 es').mono ?_
          rintro o st' ⟨⟨l, l1, l2, rfl, rfl⟩, hl⟩
          have hn := hl.nodup (k := 0) rfl
          obtain ⟨es2, hes2⟩ : ∃ es2, es2 = es' ++ l.ents := ⟨_, rfl⟩
          have hin : ∀ e ∈ l.ents, e ∈ es2 := fun e he => hes2 ▸ List.mem_append_right _ he
          rw [← hes2] at hn ⊢
          have hnl : (l.ents.map labOf).Nodup := by rw [hes2] at hn; exact (nodup_app hn).2.1
          rw [if_neg (by simp)] at hrd
          subst hrd
          cases l with
          | mk gid gk gx gh gks =>
          rcases gh with _ | ⟨gb, gc⟩
          all_goals
            conv => whnf
            refine ⟨[], true, ?_⟩
            conv => whnf
            exact ⟨_, es2, l1, l2, hin, hnl, rfl, rfl⟩
set_option maxHeartbeats 8000000 in
theorem changed_kind (t : T) (ht : t.Small) (x : Int) (w : List UInt8) (r : Option T) (hr : ∀ y, r = some y → y.Small) (hd : ∀ (l : LT) (es : List (List V)), l.erase = t → l.Wf → (∀ e ∈ l.ents, e ∈ es) → (l.ents.map labOf).Nodup → Full Try.prog noY 114 [.agg [.int .i64 x, .str w], .ptr 1 0 0] [poolO es, boxO l] (DoR l r)) :
    Full Try.prog noY 42 [.agg t.cells, .meth "loop.example/codicil/impl.do" (.iface 114 (.agg [.int .i64 x, .str w]))] [poolO []] (ChR t (r.bind okO)) := by
  have hcp := (treeCopy_acc t ht []).givenEnd
  have hcp2 := fun es => (treeCopy_acc t ht es).givenEnd
  generalize hrd : r.bind okO = d
  cases t with
  | mk id kind text kids =>
  refine full_of_awp good Try.func42 rfl (by kernel_rfl) (by decide) ?_
  conv => whnf
  refine .inr (.inl ⟨[0], true, ?_⟩)
  conv => whnf
  refine hcp.mono ?_
  rintro o st' ⟨⟨l, l1, l2, rfl, rfl⟩, hl⟩
  have hn := hl.nodup (k := 0) rfl
  rw [List.nil_append] at hn ⊢
  have hd := hd l l.ents l1 l2 (fun _ h => h) hn
  obtain ⟨es, hes⟩ : ∃ es, es = l.ents := ⟨_, rfl⟩
  rw [← hes] at hd ⊢
  cases l with
  | mk lid lk lx lh lks =>
  rcases lh with _ | ⟨lb, lc⟩
  all_goals
    conv => whnf
    refine ⟨_, rfl, ?_⟩
    conv => whnf
    refine ⟨[0, 3], true, ?_⟩
    conv => whnf
    refine hd.mono ?_
    intro o st' h
    cases r with
    | none =>
      obtain ⟨rfl, es', rfl⟩ := h
      conv => whnf
      refine .inr (.inl ⟨[0], true, ?_⟩)
      conv => whnf
      refine (hcp2 es').mono ?_
      rintro o st' ⟨⟨l, l1, l2, rfl, rfl⟩, hl⟩
      have hn := hl.nodup (k := 0) rfl
      obtain ⟨es2, hes2⟩ : ∃ es2, es2 = es' ++ l.ents := ⟨_, rfl⟩
      have hin : ∀ e ∈ l.ents, e ∈ es2 := fun e he => hes2 ▸ List.mem_append_right _ he
      rw [← hes2] at hn ⊢
      have hnl : (l.ents.map labOf).Nodup := by rw [hes2] at hn; exact (nodup_app hn).2.1
      subst hrd
      cases l with
      | mk gid gk gx gh gks =>
      rcases gh with _ | ⟨gb, gc⟩
      all_goals
        conv => whnf
        refine ⟨[], true, ?_⟩
        conv => whnf
        exact ⟨_, es2, l1, l2, hin, hnl, rfl, rfl⟩
    | some y =>
      obtain ⟨l', es', h1, h2, h3, rfl, rfl, h4⟩ := h
      have hok := implTreeOk y (hr y rfl)
      have hv := l'.viewA h2 h4
      rw [h1] at hv
      have hrd : d = okO y := hrd.symm
      unfold okO at hrd
      generalize okT y = oky at *
      have hcells : (.agg y.cells : V).flat = (.agg y.cells : V).flat := rfl
      cases l' with
      | mk mid mk mx mh mks =>
      cases y with
      | mk yi yk yx yks =>
      rcases mh with _ | ⟨mb, mc⟩
      all_goals
        conv => whnf
        refine .inr (.inr ⟨es', [.agg (T.mk yi yk yx yks).cells], fun e he => ⟨0, he⟩, viewL1 hv, rfl, hok.mono ?_⟩)
        rintro r rfl
        refine ⟨rfl, ?_⟩
        cases oky with
        | true =>
          conv => whnf
          refine ⟨[], true, ?_⟩
          conv => whnf
          rw [if_pos rfl] at hrd
          subst hrd
          exact ⟨_, es', h1, h2, h4, h3, rfl, rfl⟩
        | false =>
          conv => whnf
          refine .inr (.inl ⟨[0], true, ?_⟩)
          conv => whnf
          refine (hcp2 es').mono ?_
          rintro o st' ⟨⟨l, l1, l2, rfl, rfl⟩, hl⟩
          have hn := hl.nodup (k := 0) rfl
          obtain ⟨es2, hes2⟩ : ∃ es2, es2 = es' ++ l.ents := ⟨_, rfl⟩
          have hin : ∀ e ∈ l.ents, e ∈ es2 := fun e he => hes2 ▸ List.mem_append_right _ he
          rw [← hes2] at hn ⊢
          have hnl : (l.ents.map labOf).Nodup := by rw [hes2] at hn; exact (nodup_app hn).2.1
          rw [if_neg (by simp)] at hrd
          subst hrd
          cases l with
          | mk gid gk gx gh gks =>
          rcases gh with _ | ⟨gb, gc⟩
          all_goals
            conv => whnf
            refine ⟨[], true, ?_⟩
            conv => whnf
            exact ⟨_, es2, l1, l2, hin, hnl, rfl, rfl⟩
end Go.Cod

namespace Go.Cod
open Go Go.Proofs
set_option maxRecDepth 10000

mutual
theorem T.mapAt_found (x : Int) (f g : T → T) : ∀ (t s : T), t.ids.Nodup → fT t x = some s → f s = g s → t.mapAt x f = t.mapAt x g
  | .mk id kind text kids, s, hn, hf, h => by
    simp only [T.ids, List.nodup_cons] at hn
    simp only [fT] at hf
    simp only [T.mapAt]
    by_cases hid : id = x
    · rw [if_pos hid, Option.some.injEq] at hf
      subst hf
      rw [if_pos hid, if_pos hid, h]
    · rw [if_neg hid] at hf
      rw [if_neg hid, if_neg hid, T.mapAtL_found x f g kids s hn.2 hf h]
theorem T.mapAtL_found (x : Int) (f g : T → T) : ∀ (ts : List T) (s : T), (T.idsL ts).Nodup → fL ts x = some s → f s = g s → T.mapAtL x f ts = T.mapAtL x g ts
  | [], _, _, hf, _ => by simp [fL] at hf
  | t :: ts, s, hn, hf, h => by
    simp only [T.idsL, List.nodup_append] at hn
    simp only [fL] at hf
    simp only [T.mapAtL]
    cases h1 : fT t x with
    | some s' =>
      rw [h1, Option.some.injEq] at hf
      subst hf
      have hx : x ∈ t.ids := by
        refine Decidable.byContradiction fun h => ?_
        rw [(fT_none t x).2 h] at h1; cases h1
      have hx2 : x ∉ T.idsL ts := fun h => hn.2.2 x hx x h rfl
      rw [T.mapAt_found x f g t s' hn.1 h1 h, T.mapAtL_none x f ts hx2, T.mapAtL_none x g ts hx2]
    | none =>
      rw [h1] at hf
      have hx := (fT_none t x).1 h1
      rw [T.mapAt_none x f t hx, T.mapAt_none x g t hx, T.mapAtL_found x f g ts s hn.2.1 hf h]
end
theorem fT_mem {t : T} {x : Int} {s : T} (h : fT t x = some s) : x ∈ t.ids := by
  refine Decidable.byContradiction fun h1 => ?_
  rw [(fT_none t x).2 h1] at h; cases h
theorem doT_bind (t : T) (s : Stp) : doT t s = (editT t s).bind okO := by
  unfold doT
  cases editT t s <;> rfl
/-- What the deed of a step makes of a tree. -/
def deedT (t : T) (s : Stp) : Option T := if s.kind = 1 then putT t s.id s.at_ s.node else if s.kind = 2 then cutTT t s.id else if s.kind = 3 then t.upd s.id (setTextT s.text) else t.upd s.id (setKindT s.text)
theorem deed_edit {t : T} (hok : okT t = true) (s : Stp) (hd : deedOk s = true) : deedT t s = editT t s := by
  have hn := ((okT_iff' t).1 hok).2.1
  unfold deedOk nothingT at hd
  unfold deedT editT
  by_cases k1 : s.kind = 1
  · rw [if_pos k1] at hd ⊢
    simp only [Bool.and_eq_true, decide_eq_true_eq] at hd
    have hb : bareT s = true := by unfold bareT; rw [if_pos k1]; simpa using hd.1
    unfold putT
    cases hf : fT t s.id with
    | none => rfl
    | some x =>
      simp only [hb, Bool.true_eq_false, if_false, if_pos k1]
      by_cases hr : 0 ≤ s.at_ ∧ s.at_ ≤ x.kids.length
      · rw [if_pos hr, if_pos ⟨hr.1, hr.2, hd.2⟩, T.upd_map _ _ t (fT_mem hf) hn]
      · rw [if_neg hr, if_neg fun h => hr ⟨h.1, h.2.1⟩]
  rw [if_neg k1] at hd ⊢
  by_cases k2 : s.kind = 2
  · rw [if_pos k2] at hd ⊢
    simp only [Bool.and_eq_true, decide_eq_true_eq] at hd
    have hb : bareT s = true := by unfold bareT; rw [if_neg k1, if_pos k2]; simp [hd.1, hd.2.1, hd.2.2]
    unfold cutTT
    rcases treeOver_cases t s.id with ⟨h1, h2⟩ | ⟨_, h1, h2⟩ | ⟨h1, p, h2, h3, h4⟩
    · rw [h1, if_neg (by omega)]
      have hx : s.id ∉ t.ids := by
        rcases h2 with h2 | h2
        · rw [hok] at h2; cases h2
        · unfold idsOf at h2; rw [if_pos hok] at h2; exact h2
      rw [(fT_none t s.id).2 hx]
    · rw [h1, if_neg (by omega)]
      cases hf : fT t s.id with
      | none => rfl
      | some x => simp only [hb, Bool.true_eq_false, if_false, if_neg k1, if_pos k2, if_pos h2.symm]
    · have hp := (findT_spec h2).2.1
      have hx : s.id ∈ p.kids.map T.id := List.count_pos_iff.1 (by omega)
      have hxk := fT_kid t _ s.id p hp hx
      have hxt : s.id ∈ t.ids ∧ s.id ≠ t.id := by
        cases t with
        | mk a b c d =>
        simp only [T.ids, List.nodup_cons] at hn
        exact ⟨by simp only [T.ids, List.mem_cons]; exact .inr hxk, fun e => hn.1 (show a ∈ T.idsL d from (show s.id = a from e) ▸ hxk)⟩
      rw [if_pos h1, T.upd_map _ _ t (fT_mem hp) hn, ← T.cut_map s.id _ t p hn hp hx]
      cases hf : fT t s.id with
      | none => exact absurd hxt.1 ((fT_none t s.id).1 hf)
      | some x => simp only [hb, Bool.true_eq_false, if_false, if_neg k1, if_pos k2, if_neg hxt.2]
  rw [if_neg k2] at hd ⊢
  have hb : s.kind = 3 ∨ s.kind = 4 → bareT s = true := fun h => by
    unfold bareT
    rw [if_neg k1, if_neg k2]
    rcases h with h | h
    · rw [if_pos h] at hd
      simp only [Bool.and_eq_true, decide_eq_true_eq] at hd
      simp [hd.1, hd.2]
    · rw [if_neg (by omega), if_pos h] at hd
      simp only [Bool.and_eq_true, decide_eq_true_eq] at hd
      simp [hd.1, hd.2]
  by_cases k3 : s.kind = 3
  · rw [if_pos k3]
    cases hf : fT t s.id with
    | none => exact T.upd_none _ _ t ((fT_none t s.id).1 hf)
    | some x =>
      simp only [hb (.inl k3), Bool.true_eq_false, if_false, if_neg k1, if_neg k2, if_pos k3]
      rw [T.upd_map _ _ t (fT_mem hf) hn, T.mapAt_found s.id (setTextT s.text) (setT x.kind s.text) t x hn hf (by cases x; rfl)]
  rw [if_neg k3]
  by_cases k4 : s.kind = 4
  · cases hf : fT t s.id with
    | none => exact T.upd_none _ _ t ((fT_none t s.id).1 hf)
    | some x =>
      simp only [hb (.inr k4), Bool.true_eq_false, if_false, if_neg k1, if_neg k2, if_neg k3, if_pos k4]
      rw [T.upd_map _ _ t (fT_mem hf) hn, T.mapAt_found s.id (setKindT s.text) (setT s.text x.text) t x hn hf (by cases x; rfl)]
  · rw [if_neg k3, if_neg k4] at hd; cases hd
theorem deed_no {t : T} {s : Stp} (hd : deedOk s = false) : editT t s = none := by
  unfold deedOk nothingT at hd
  unfold editT
  cases hf : fT t s.id with
  | none => rfl
  | some x =>
    by_cases k1 : s.kind = 1
    · rw [if_pos k1] at hd
      by_cases hb : bareT s = false
      · simp only [if_pos hb]
      · simp only [if_neg hb, if_pos k1]
        rw [if_neg]
        rintro ⟨_, _, h⟩
        have hb : bareT s = true := by cases h : bareT s <;> simp_all
        unfold bareT at hb
        rw [if_pos k1] at hb
        rw [hb, h] at hd
        cases hd
    rw [if_neg k1] at hd
    have hb : bareT s = false ∨ (s.kind ≠ 2 ∧ s.kind ≠ 3 ∧ s.kind ≠ 4) := by
      by_cases k2 : s.kind = 2
      · left
        rw [if_pos k2] at hd
        unfold bareT
        rw [if_neg k1, if_pos k2]
        generalize noneT s.node = a at *
        generalize decide (s.text = []) = b at *
        generalize decide (s.at_ = 0) = c at *
        cases a <;> cases b <;> cases c <;> simp_all
      · rw [if_neg k2] at hd
        by_cases k34 : s.kind = 3 ∨ s.kind = 4
        · left
          unfold bareT
          rw [if_neg k1, if_neg k2]
          rcases k34 with h | h
          · rw [if_pos h] at hd
            rw [Bool.and_comm]; exact hd
          · rw [if_neg (by omega), if_pos h] at hd
            rw [Bool.and_comm]; exact hd
        · right
          exact ⟨k2, fun h => k34 (.inl h), fun h => k34 (.inr h)⟩
    rcases hb with hb | ⟨k2, k3, k4⟩
    · simp only [if_pos hb]
    · simp only [if_neg k1, if_neg k2, if_neg k3, if_neg k4]
      split <;> rfl
end Go.Cod

namespace Go.Cod
open Go Go.Proofs
set_option maxRecDepth 10000

/-- What a step leaves, in one's own memory. -/
def StepR (r : T × Bool) (o : Out) (st' : St) : Prop := ∃ (l : LT) (es : List (List V)), l.erase = r.1 ∧ l.Wf ∧ (∀ e ∈ l.ents, e ∈ es) ∧ (l.ents.map labOf).Nodup ∧ o = .ret (.tup [.agg l.cells, .bool r.2]) ∧ st' = [poolO es]
theorem stepT_yes {t : T} {s : Stp} (h : okT t = true) (hd : deedOk s = true) : stepT t s = (((deedT t s).bind okO).getD t, ((deedT t s).bind okO).isSome) := by
  unfold stepT
  rw [if_pos h, doT_bind, ← deed_edit h s hd]
  cases (deedT t s).bind okO <;> rfl
theorem stepT_no {t : T} {s : Stp} (h : okT t = true) (hd : deedOk s = false) : stepT t s = (t, false) := by
  unfold stepT
  rw [if_pos h, doT_none (deed_no hd)]
theorem stepT_bad {t : T} {s : Stp} (h : okT t = false) : stepT t s = (TZ, false) := by
  unfold stepT
  rw [if_neg (by rw [h]; simp)]
theorem stepDo_bad (t : T) (s : Stp) (ht : t.Small) (hok : okT t = false) : Full Try.prog noY 16 [.agg t.cells, .agg s.cells] [poolO []] (StepR (stepT t s)) := by
  have f1 := implTreeOk t ht
  rw [hok] at f1
  rw [stepT_bad hok]
  simp only [Stp.cells]
  cases s with
  | mk kind sid at_ node text =>
  cases node with
  | mk nid nk nx nks =>
  cases t with
  | mk tid tk tx tks =>
  refine full_of_awp good Try.func16 rfl (by kernel_rfl) (by decide) ?_
  conv => whnf
  refine .inl (f1.mono ?_)
  rintro r rfl
  conv => whnf
  refine ⟨[], true, ?_⟩
  conv => whnf
  exact ⟨.mk 0 [] [] none [], [], rfl, ⟨fun _ => rfl, trivial⟩, by simp [LT.ents, LT.entsL, rootE], by simp [LT.ents, LT.entsL, rootE], rfl, rfl⟩
theorem stepDo_no (t : T) (s : Stp) (ht : t.Small) (hs : s.node.Small) (hok : okT t = true) (hd : deedOk s = false) : Full Try.prog noY 16 [.agg t.cells, .agg s.cells] [poolO []] (StepR (stepT t s)) := by
  have f1 := implTreeOk t ht
  have f2 := stepDeedOf_pure s hs
  have hcp := (treeCopy_acc t ht []).givenEnd
  rw [hok] at f1
  rw [hd] at f2
  rw [stepT_no hok hd]
  have hdv : deedV s = .iface 107 (.agg ([.int .i64 s.id, .int .i64 s.at_] ++ s.node.cells)) ∨ deedV s = .iface 109 (.agg [.int .i64 s.id]) ∨ deedV s = .iface 112 (.agg [.int .i64 s.id, .str s.text]) ∨ deedV s = .iface 114 (.agg [.int .i64 s.id, .str s.text]) ∨ deedV s = .raw .nilIface := by
    unfold deedV
    split
    · exact .inl rfl
    split
    · exact .inr (.inl rfl)
    split
    · exact .inr (.inr (.inl rfl))
    split
    · exact .inr (.inr (.inr (.inl rfl)))
    · exact .inr (.inr (.inr (.inr rfl)))
  generalize deedV s = dv at *
  simp only [Stp.cells] at f2 ⊢
  cases s with
  | mk kind sid at_ node text =>
  cases node with
  | mk nid nk nx nks =>
  cases t with
  | mk tid tk tx tks =>
  refine full_of_awp good Try.func16 rfl (by kernel_rfl) (by decide) ?_
  conv => whnf
  refine .inl (f1.mono ?_)
  rintro r rfl
  conv => whnf
  refine .inl (f2.mono ?_)
  rintro r rfl
  rcases hdv with rfl | rfl | rfl | rfl | rfl
  all_goals
    conv => whnf
    refine .inr (.inl ⟨[0], true, ?_⟩)
    conv => whnf
    refine hcp.mono ?_
    rintro o st' ⟨⟨l, l1, l2, rfl, rfl⟩, hl⟩
    have hn := hl.nodup (k := 0) rfl
    rw [List.nil_append] at hn ⊢
    obtain ⟨es, hes⟩ : ∃ es, es = l.ents := ⟨_, rfl⟩
    have hin : ∀ e ∈ l.ents, e ∈ es := fun e he => hes ▸ he
    rw [← hes] at ⊢
    cases l with
    | mk gid gk gx gh gks =>
    rcases gh with _ | ⟨gb, gc⟩
    all_goals
      conv => whnf
      refine ⟨[], true, ?_⟩
      conv => whnf
      exact ⟨_, es, l1, l2, hin, hn, rfl, rfl⟩
theorem stepDo_put (t : T) (s : Stp) (ht : t.Small) (hs : s.node.Small) (htx : s.text.length ≤ 1048576) (hok : okT t = true) (hd : deedOk s = true) (hk : s.kind = 1) : Full Try.prog noY 16 [.agg t.cells, .agg s.cells] [poolO []] (StepR (stepT t s)) := by
  have f1 := implTreeOk t ht
  have f2 := stepDeedOf_pure s hs
  have h20 := okT_size hok
  have hdT : deedT t s = putT t s.id s.at_ s.node := by unfold deedT; rw [if_pos hk]
  have hdv : deedV s = .iface 107 (.agg ([.int .i64 s.id, .int .i64 s.at_] ++ s.node.cells)) := by unfold deedV; rw [if_pos hk]
  have hsm : ∀ y, putT t s.id s.at_ s.node = some y → y.Small := fun y h => editT_small ht (by omega) hs htx (by rw [← deed_edit hok s hd, hdT]; exact h)
  have f3 := changed_put t ht s.id s.at_ s.node _ hsm fun l es h1 h2 h3 h4 => by have := putDo l h2 s.id s.at_ s.node hs es h3 h4 (by rw [h1]; omega); rwa [h1] at this
  rw [stepT_yes hok hd]
  rw [hok] at f1
  rw [hd, hdv] at f2
  rw [← hdT] at f3
  generalize (deedT t s).bind okO = d at *
  simp only [Stp.cells] at f2 ⊢
  cases s with
  | mk kind sid at_ node text =>
  cases node with
  | mk nid nk nx nks =>
  cases t with
  | mk tid tk tx tks =>
  refine full_of_awp good Try.func16 rfl (by kernel_rfl) (by decide) ?_
  conv => whnf
  refine .inl (f1.mono ?_)
  rintro r rfl
  conv => whnf
  refine .inl (f2.mono ?_)
  rintro r rfl
  conv => whnf
  repeat (refine And.intro (by
            (conv => whnf)
            rfl) ?_
          conv => whnf)
  refine .inr (.inl ⟨[0], true, ?_⟩)
  conv => whnf
  refine f3.mono ?_
  rintro o st' ⟨l, es, l1, l2, l3, l4, rfl, rfl⟩
  cases l with
  | mk gid gk gx gh gks =>
  rcases gh with _ | ⟨gb, gc⟩
  all_goals
    conv => whnf
    refine And.intro ?_ ?_
    all_goals
      conv => whnf
      refine ⟨[], true, ?_⟩
      conv => whnf
      exact ⟨_, es, l1, l2, l3, l4, rfl, rfl⟩
theorem stepDo_cut (t : T) (s : Stp) (ht : t.Small) (hs : s.node.Small) (htx : s.text.length ≤ 1048576) (hok : okT t = true) (hd : deedOk s = true) (hk : s.kind = 2) : Full Try.prog noY 16 [.agg t.cells, .agg s.cells] [poolO []] (StepR (stepT t s)) := by
  have f1 := implTreeOk t ht
  have f2 := stepDeedOf_pure s hs
  have h20 := okT_size hok
  have hdT : deedT t s = cutTT t s.id := by unfold deedT; rw [if_neg (by omega)]; rw [if_pos hk]
  have hdv : deedV s = .iface 109 (.agg [.int .i64 s.id]) := by unfold deedV; rw [if_neg (by omega)]; rw [if_pos hk]
  have hsm : ∀ y, cutTT t s.id = some y → y.Small := fun y h => editT_small ht (by omega) hs htx (by rw [← deed_edit hok s hd, hdT]; exact h)
  have f3 := changed_cut t ht s.id _ hsm fun l es h1 h2 h3 h4 => by have := cutDo' l h2 (by rw [h1]; exact ht) s.id es h3 h4 (by rw [h1]; omega); rwa [h1] at this
  rw [stepT_yes hok hd]
  rw [hok] at f1
  rw [hd, hdv] at f2
  rw [← hdT] at f3
  generalize (deedT t s).bind okO = d at *
  simp only [Stp.cells] at f2 ⊢
  cases s with
  | mk kind sid at_ node text =>
  cases node with
  | mk nid nk nx nks =>
  cases t with
  | mk tid tk tx tks =>
  refine full_of_awp good Try.func16 rfl (by kernel_rfl) (by decide) ?_
  conv => whnf
  refine .inl (f1.mono ?_)
  rintro r rfl
  conv => whnf
  refine .inl (f2.mono ?_)
  rintro r rfl
  conv => whnf
  repeat (refine And.intro (by
            (conv => whnf)
            rfl) ?_
          conv => whnf)
  refine .inr (.inl ⟨[0], true, ?_⟩)
  conv => whnf
  refine f3.mono ?_
  rintro o st' ⟨l, es, l1, l2, l3, l4, rfl, rfl⟩
  cases l with
  | mk gid gk gx gh gks =>
  rcases gh with _ | ⟨gb, gc⟩
  all_goals
    conv => whnf
    refine And.intro ?_ ?_
    all_goals
      conv => whnf
      refine ⟨[], true, ?_⟩
      conv => whnf
      exact ⟨_, es, l1, l2, l3, l4, rfl, rfl⟩
theorem stepDo_text (t : T) (s : Stp) (ht : t.Small) (hs : s.node.Small) (htx : s.text.length ≤ 1048576) (hok : okT t = true) (hd : deedOk s = true) (hk : s.kind = 3) : Full Try.prog noY 16 [.agg t.cells, .agg s.cells] [poolO []] (StepR (stepT t s)) := by
  have f1 := implTreeOk t ht
  have f2 := stepDeedOf_pure s hs
  have h20 := okT_size hok
  have hdT : deedT t s = t.upd s.id (setTextT s.text) := by unfold deedT; rw [if_neg (by omega)]; rw [if_neg (by omega)]; rw [if_pos hk]
  have hdv : deedV s = .iface 112 (.agg [.int .i64 s.id, .str s.text]) := by unfold deedV; rw [if_neg (by omega)]; rw [if_neg (by omega)]; rw [if_pos hk]
  have hsm : ∀ y, t.upd s.id (setTextT s.text) = some y → y.Small := fun y h => editT_small ht (by omega) hs htx (by rw [← deed_edit hok s hd, hdT]; exact h)
  have f3 := changed_text t ht s.id s.text _ hsm fun l es h1 h2 h3 h4 => by have := textDo' l h2 s.id s.text es h3 h4 (by rw [h1]; omega); rwa [h1] at this
  rw [stepT_yes hok hd]
  rw [hok] at f1
  rw [hd, hdv] at f2
  rw [← hdT] at f3
  generalize (deedT t s).bind okO = d at *
  simp only [Stp.cells] at f2 ⊢
  cases s with
  | mk kind sid at_ node text =>
  cases node with
  | mk nid nk nx nks =>
  cases t with
  | mk tid tk tx tks =>
  refine full_of_awp good Try.func16 rfl (by kernel_rfl) (by decide) ?_
  conv => whnf
  refine .inl (f1.mono ?_)
  rintro r rfl
  conv => whnf
  refine .inl (f2.mono ?_)
  rintro r rfl
  conv => whnf
  repeat (refine And.intro (by
            (conv => whnf)
            rfl) ?_
          conv => whnf)
  refine .inr (.inl ⟨[0], true, ?_⟩)
  conv => whnf
  refine f3.mono ?_
  rintro o st' ⟨l, es, l1, l2, l3, l4, rfl, rfl⟩
  cases l with
  | mk gid gk gx gh gks =>
  rcases gh with _ | ⟨gb, gc⟩
  all_goals
    conv => whnf
    refine And.intro ?_ ?_
    all_goals
      conv => whnf
      refine ⟨[], true, ?_⟩
      conv => whnf
      exact ⟨_, es, l1, l2, l3, l4, rfl, rfl⟩
theorem stepDo_kind (t : T) (s : Stp) (ht : t.Small) (hs : s.node.Small) (htx : s.text.length ≤ 1048576) (hok : okT t = true) (hd : deedOk s = true) (hk : s.kind = 4) : Full Try.prog noY 16 [.agg t.cells, .agg s.cells] [poolO []] (StepR (stepT t s)) := by
  have f1 := implTreeOk t ht
  have f2 := stepDeedOf_pure s hs
  have h20 := okT_size hok
  have hdT : deedT t s = t.upd s.id (setKindT s.text) := by unfold deedT; rw [if_neg (by omega)]; rw [if_neg (by omega)]; rw [if_neg (by omega)]; 
  have hdv : deedV s = .iface 114 (.agg [.int .i64 s.id, .str s.text]) := by unfold deedV; rw [if_neg (by omega)]; rw [if_neg (by omega)]; rw [if_neg (by omega)]; rw [if_pos hk]
  have hsm : ∀ y, t.upd s.id (setKindT s.text) = some y → y.Small := fun y h => editT_small ht (by omega) hs htx (by rw [← deed_edit hok s hd, hdT]; exact h)
  have f3 := changed_kind t ht s.id s.text _ hsm fun l es h1 h2 h3 h4 => by have := kindDo' l h2 s.id s.text es h3 h4 (by rw [h1]; omega); rwa [h1] at this
  rw [stepT_yes hok hd]
  rw [hok] at f1
  rw [hd, hdv] at f2
  rw [← hdT] at f3
  generalize (deedT t s).bind okO = d at *
  simp only [Stp.cells] at f2 ⊢
  cases s with
  | mk kind sid at_ node text =>
  cases node with
  | mk nid nk nx nks =>
  cases t with
  | mk tid tk tx tks =>
  refine full_of_awp good Try.func16 rfl (by kernel_rfl) (by decide) ?_
  conv => whnf
  refine .inl (f1.mono ?_)
  rintro r rfl
  conv => whnf
  refine .inl (f2.mono ?_)
  rintro r rfl
  conv => whnf
  repeat (refine And.intro (by
            (conv => whnf)
            rfl) ?_
          conv => whnf)
  refine .inr (.inl ⟨[0], true, ?_⟩)
  conv => whnf
  refine f3.mono ?_
  rintro o st' ⟨l, es, l1, l2, l3, l4, rfl, rfl⟩
  cases l with
  | mk gid gk gx gh gks =>
  rcases gh with _ | ⟨gb, gc⟩
  all_goals
    conv => whnf
    refine And.intro ?_ ?_
    all_goals
      conv => whnf
      refine ⟨[], true, ?_⟩
      conv => whnf
      exact ⟨_, es, l1, l2, l3, l4, rfl, rfl⟩
theorem implStepDo_acc (t : T) (s : Stp) (ht : t.Small) (hs : s.node.Small) (htx : s.text.length ≤ 1048576) : Full Try.prog noY 16 [.agg t.cells, .agg s.cells] [poolO []] (StepR (stepT t s)) := by
  cases hok : okT t with
  | false => exact stepDo_bad t s ht hok
  | true =>
    cases hd : deedOk s with
    | false => exact stepDo_no t s ht hs hok hd
    | true =>
      have hk : s.kind = 1 ∨ s.kind = 2 ∨ s.kind = 3 ∨ s.kind = 4 := by
        refine Decidable.byContradiction fun h => ?_
        simp only [not_or] at h
        unfold deedOk at hd
        rw [if_neg h.1, if_neg h.2.1, if_neg h.2.2.1, if_neg h.2.2.2] at hd
        cases hd
      rcases hk with hk | hk | hk | hk
      · exact stepDo_put t s ht hs htx hok hd hk
      · exact stepDo_cut t s ht hs htx hok hd hk
      · exact stepDo_text t s ht hs htx hok hd hk
      · exact stepDo_kind t s ht hs htx hok hd hk
/-- .. just made. -/
def NewB (r : T × Bool) (o : Out) (st' : St) : Prop := ∃ l : LT, l.erase = r.1 ∧ l.Wf ∧ (l.ents.map labOf).Nodup ∧ o = .ret (.tup [.agg l.cells, .bool r.2]) ∧ st' = [poolO l.ents]
theorem implStepDo_new (t : T) (s : Stp) (ht : t.Small) (hs : s.node.Small) (htx : s.text.length ≤ 1048576) : Full Try.prog noY 16 [.agg t.cells, .agg s.cells] [] (NewB (stepT t s)) := by
  refine Full.start (Full.shrink (implStepDo_acc t s ht hs htx) ?_)
  rintro o st' ⟨l, es, h1, h2, h3, h4, rfl, rfl⟩
  exact ⟨es, l.ents, rfl, h3, h4, l, h1, h2, h4, rfl, rfl⟩
end Go.Cod

namespace Go.Cod
open Go Go.Proofs Go.ChangeShapes Go.WideShapes Go.ChangeAt Go.RowKit
set_option maxRecDepth 10000

/- Steps as arguments. -/
structure Stp.Ok (s : Stp) : Prop where
  k : -9223372036854775808 ≤ s.kind ∧ s.kind ≤ 9223372036854775807
  i : -9223372036854775808 ≤ s.id ∧ s.id ≤ 9223372036854775807
  a : -9223372036854775808 ≤ s.at_ ∧ s.at_ ≤ 9223372036854775807
  n : s.node.Ok
  t : s.text.length ≤ maxLen

end Go.Cod

namespace Go.Cod
open Go Go.Proofs Go.ChangeShapes Go.WideShapes Go.ChangeAt Go.RowKit
set_option maxRecDepth 10000

theorem implStepDo_pure (t : T) (s : Stp) (ht : t.Small) (hs : s.node.Small) (htx : s.text.length ≤ 1048576) : Pure Try.prog 16 [.agg t.cells, .agg s.cells] (· = .tup [.agg (stepT t s).1.cells, .bool (stepT t s).2]) := by
  refine Full.freeze (implStepDo_new t s ht hs htx) ?_
  rintro o st' ⟨l, h1, h2, h3, rfl, rfl⟩
  have hv := viewL2 (y' := .bool (stepT t s).2) (l.viewA h2 (es := l.ents) (fun _ h => h)) (.same _)
  refine ⟨_, _, .tup [.agg l.erase.cells, .bool (stepT t s).2], rfl, rfl, .tup hv.1 hv.2, ?_, ?_⟩
  · cases l with
    | mk id kind text h kids => rcases h with _ | ⟨b, c⟩ <;> rfl
  · rw [h1]
end Go.Cod

namespace Go.Cod
open Go Go.Proofs Go.ChangeShapes Go.WideShapes Go.ChangeAt Go.RowKit
set_option maxRecDepth 10000

/-- A drawn step. -/
def Stp.Dr (s : Stp) : Prop := s.node.Small ∧ s.node.size ≤ 256 ∧ s.text.length ≤ 1000
def EdR (bs : List UInt8) (p k : Int) (o : Out) (st' : St) : Prop := ∃ (s : Stp) (p' k' : Int), s.Dr ∧ p ≤ p' ∧ p' ≤ p + 1000 ∧ 0 ≤ k' ∧ k' ≤ k + 1000 ∧ o = .ret (.agg s.cells) ∧ st' = [rdO bs p', nxO k']
theorem noneS_small : (T.mk 0 [] [] []).Small := .mk (by omega) (by simp) (by simp) (by simp) (by simp)
set_option maxHeartbeats 8000000 in
theorem l11Edit_full (bs : List UInt8) (hb : bs.length ≤ 2000) (p k : Int) (p0 : 0 ≤ p) (p1 : p ≤ 10000000) (k0 : 0 ≤ k) (k1 : k ≤ 1000000) (t : T) (ht : t.Small) (hz : t.size ≤ 600000) :
    Full Try.prog noY 37 [.ptr 0 0 0, .agg t.cells, .ptr 1 0 0] [rdO bs p, nxO k] (EdR bs p k) := by
  have hn := T.ids_size t
  have hi := l2Ids_pure t ht (by omega)
  have hl : (irows t.ids).length = t.ids.length := by simp [irows]
  have hp : ∀ (q n : Int), 0 ≤ q → q ≤ 1073741824 → Full Try.prog noY 38 [.ptr 0 0 0, .int .i64 n] [rdO bs q] fun o st' => ∃ m : Int, 0 ≤ m ∧ (1 ≤ n → m < n) ∧ o = .ret (.int .i64 m) ∧ st' = [rdO bs (q + 1)] := fun q n h0 h1 => pick_full bs q n hb h0 h1
  have ho : ∀ (q : Int) (ss : List (List UInt8)), 0 ≤ q → q ≤ 1073741824 → 1 ≤ ss.length → ss.length ≤ 1048576 → Full Try.prog noY 64 [.ptr 0 0 0, .sl (drows ss)] [rdO bs q] fun o st' => ∃ s ∈ ss, o = .ret (.str s) ∧ st' = [rdO bs (q + 1)] := fun q ss h0 h1 h2 h3 => of_full bs q ss hb h0 h1 h2 h3
  have hx := fun q h0 h1 => l11Text_full bs q hb h0 h1
  have hT := l11Tree_3 bs hb
  have hpos := size_pos t
  have hg : ∀ (m : Int), 0 ≤ m → m < t.ids.length → ∃ x : Int, (irows t.ids)[m.toNat]? = some [.int .i64 x] := fun m h0 h1 => by
    have : m.toNat < t.ids.length := by omega
    exact ⟨t.ids[m.toNat], by simp [irows, this]⟩
  have hf := fun x => l2Find_pure t ht x
  have hfx : ∀ x, ∃ (s : T) (b : Bool), fR (fT t x) = .tup [.agg s.cells, .bool b] ∧ s.size ≤ 600000 := fun x => by
    cases h : fT t x with
    | none => exact ⟨TZ, false, rfl, by simp [TZ, T.size, T.sizeL]⟩
    | some s => exact ⟨s, true, rfl, by have := fT_size t x s h; omega⟩
  have hkl : ∀ s : T, s.size ≤ 600000 → s.kids.length ≤ 600000 := fun s h => by
    have h2 : ∀ ts : List T, ts.length ≤ T.sizeL ts := length_le_sizeL
    have h3 := T.kids_size s
    have := h2 s.kids
    omega
  generalize irows t.ids = rows at *
  generalize t.ids.length = n at *
  cases t with
  | mk id kind text kids =>
  refine full_of_awp good Try.func37 rfl (by kernel_rfl) (by decide) ?_
  conv => whnf
  refine .inl (hi.mono ?_)
  rintro r rfl
  conv => whnf
  refine ⟨[0], false, ?_⟩
  conv => whnf
  refine (hp p _ p0 (by omega)).mono ?_
  rintro o st' ⟨c, c0, c1, rfl, rfl⟩
  obtain ⟨x, hgx⟩ := hg c c0 (by have := c1 (by omega); omega)
  conv => whnf
  refine ⟨c0, _, _, 1, rfl, hgx, rfl, rfl, ?_⟩
  conv => whnf
  refine .inl ((hf x).mono ?_)
  rintro r rfl
  obtain ⟨y, yb, hy1, hy2⟩ := hfx x
  rw [hy1]
  have hyk := hkl y hy2
  cases y with
  | mk yid yk yt yks =>
  simp only [T.kids] at hyk
  have hyl := Go.Cod.rows_len yks
  conv => whnf
  refine ⟨[0], false, ?_⟩
  conv => whnf
  refine (hp (p + 1) 7 (by omega) (by omega)).mono ?_
  rintro o st' ⟨d, d0, d1, rfl, rfl⟩
  conv => whnf
  have hend : ∀ (s : Stp) (p' k' : Int), s.Dr → p ≤ p' → p' ≤ p + 1000 → 0 ≤ k' → k' ≤ k + 1000 → EdR bs p k (.ret (.agg s.cells)) [rdO bs p', nxO k'] := fun s p' k' h1 h2 h3 h4 h5 => ⟨s, p', k', h1, h2, h3, h4, h5, rfl, rfl⟩
  have hsec : kSec ∈ kinds11 := by decide
  have hput : ∀ (kd : List UInt8) (k' : Int), kd ∈ kinds11 → 0 ≤ k' → k' ≤ 1000000 → Full Try.prog noY 65 [.ptr 0 0 0, .str kd, .int .i64 3, .ptr 1 0 0] [rdO bs (p + 1 + 1 + 1 + 1), nxO k'] (TreeR bs (p + 1 + 1 + 1 + 1) k' 256) := fun kd k' h1 h2 h3 => hT (p + 1 + 1 + 1 + 1) k' kd (by omega) (by omega) h2 (by omega) h1
  have hw : 90 < k.tmod 100 → IntKind.i64.wrap (k - 50) = k - 50 ∧ 0 ≤ k - 50 := fun h3 => by
    have h5 : k.tmod 100 ≤ k := by rw [Int.tmod_eq_emod_of_nonneg k0]; omega
    exact ⟨wrap64 (by omega) (by omega), by omega⟩
  have hw0 : 90 < k.tmod 100 → 0 ≤ k - 50 := fun h => (hw h).2
  have hsec : kSec ∈ kinds11 := by decide
  have hput : ∀ (kd : List UInt8) (k' : Int), kd ∈ kinds11 → 0 ≤ k' → k' ≤ 1000000 → Full Try.prog noY 65 [.ptr 0 0 0, .str kd, .int .i64 3, .ptr 1 0 0] [rdO bs (p + 1 + 1 + 1 + 1), nxO k'] (TreeR bs (p + 1 + 1 + 1 + 1) k' 256) := fun kd k' h1 h2 h3 => hT (p + 1 + 1 + 1 + 1) k' kd (by omega) (by omega) h2 (by omega) h1
  have hw : 90 < k.tmod 100 → IntKind.i64.wrap (k - 50) = k - 50 ∧ 0 ≤ k - 50 := fun h3 => by
    have h5 : k.tmod 100 ≤ k := by rw [Int.tmod_eq_emod_of_nonneg k0]; omega
    exact ⟨wrap64 (by omega) (by omega), by omega⟩
  have hw0 : 90 < k.tmod 100 → 0 ≤ k - 50 := fun h => (hw h).2
  by_cases e0 : d = 0
  · rw [eqB_t e0]
    conv => whnf
    refine ⟨[0], false, ?_⟩
    conv => whnf
    refine (ho (p + 1 + 1) [[112, 97, 114], [112, 97, 114], [115, 101, 99], [110, 111, 116, 101], [116, 105, 116, 108, 101]] (by omega) (by omega) (by simp) (by simp)).mono ?_
    rintro o st' ⟨kd, hkd, rfl, rfl⟩
    have hkd : kd ∈ kinds11 := by
      simp only [List.mem_cons, List.not_mem_nil, or_false] at hkd
      simp only [kinds11, kPar, kSec, kNote, kTitle, List.mem_cons, List.not_mem_nil, or_false]
      rcases hkd with rfl | rfl | rfl | rfl | rfl <;> simp
    conv => whnf
    by_cases hdoc : yk = [100, 111, 99]
    case' pos =>
      rw [eqS_t hdoc]
      conv => whnf
    case' neg =>
      rw [eqS_f hdoc]
      conv => whnf
    all_goals
      refine ⟨by omega, ?_⟩
      conv => whnf
      by_cases hm : 90 < k.tmod 100
      · rw [ltB_t hm]
        conv => whnf
        rw [(hw hm).1]
        refine ⟨[0], false, ?_⟩
        conv => whnf
        refine (hp (p + 1 + 1 + 1) _ (by omega) (by omega)).mono ?_
        rintro o st' ⟨c, c0, c1, rfl, rfl⟩
        conv => whnf
        refine ⟨[0, 1], false, ?_⟩
        conv => whnf
        first
          | refine (hput kSec (k - 50) hsec (by first | omega | exact hw0 hm) (by omega)).mono ?_
          | refine (hput kd (k - 50) hkd (by first | omega | exact hw0 hm) (by omega)).mono ?_
        rintro o st' ⟨nt, p', k', n1, n2, n3, n4, n5, n6, rfl, rfl⟩
        rcases nt with ⟨ni, nk, nx, nks⟩
        conv => whnf
        refine ⟨[], false, ?_⟩
        conv => whnf
        exact hend ⟨1, x, c, .mk ni nk nx nks, []⟩ p' k' ⟨n1, by show (T.mk ni nk nx nks).size ≤ 256; omega, by simp⟩ (by omega) (by omega) (by omega) (by omega)
      · rw [ltB_f (by omega)]
        conv => whnf
        refine ⟨[0], false, ?_⟩
        conv => whnf
        refine (hp (p + 1 + 1 + 1) _ (by omega) (by omega)).mono ?_
        rintro o st' ⟨c, c0, c1, rfl, rfl⟩
        conv => whnf
        refine ⟨[0, 1], false, ?_⟩
        conv => whnf
        first
          | refine (hput kSec k hsec (by first | omega | exact hw0 hm) (by omega)).mono ?_
          | refine (hput kd k hkd (by first | omega | exact hw0 hm) (by omega)).mono ?_
        rintro o st' ⟨nt, p', k', n1, n2, n3, n4, n5, n6, rfl, rfl⟩
        rcases nt with ⟨ni, nk, nx, nks⟩
        conv => whnf
        refine ⟨[], false, ?_⟩
        conv => whnf
        exact hend ⟨1, x, c, .mk ni nk nx nks, []⟩ p' k' ⟨n1, by show (T.mk ni nk nx nks).size ≤ 256; omega, by simp⟩ (by omega) (by omega) (by omega) (by omega)
  rw [eqB_f e0]
  conv => whnf
  by_cases e1 : d = 1
  · rw [eqB_t e1]
    conv => whnf
    refine ⟨[0], false, ?_⟩
    conv => whnf
    refine (ho (p + 1 + 1) [[112, 97, 114], [112, 97, 114], [115, 101, 99], [110, 111, 116, 101], [116, 105, 116, 108, 101]] (by omega) (by omega) (by simp) (by simp)).mono ?_
    rintro o st' ⟨kd, hkd, rfl, rfl⟩
    have hkd : kd ∈ kinds11 := by
      simp only [List.mem_cons, List.not_mem_nil, or_false] at hkd
      simp only [kinds11, kPar, kSec, kNote, kTitle, List.mem_cons, List.not_mem_nil, or_false]
      rcases hkd with rfl | rfl | rfl | rfl | rfl <;> simp
    conv => whnf
    by_cases hdoc : yk = [100, 111, 99]
    case' pos =>
      rw [eqS_t hdoc]
      conv => whnf
    case' neg =>
      rw [eqS_f hdoc]
      conv => whnf
    all_goals
      refine ⟨by omega, ?_⟩
      conv => whnf
      by_cases hm : 90 < k.tmod 100
      · rw [ltB_t hm]
        conv => whnf
        rw [(hw hm).1]
        refine ⟨[0], false, ?_⟩
        conv => whnf
        refine (hp (p + 1 + 1 + 1) _ (by omega) (by omega)).mono ?_
        rintro o st' ⟨c, c0, c1, rfl, rfl⟩
        conv => whnf
        refine ⟨[0, 1], false, ?_⟩
        conv => whnf
        first
          | refine (hput kSec (k - 50) hsec (by first | omega | exact hw0 hm) (by omega)).mono ?_
          | refine (hput kd (k - 50) hkd (by first | omega | exact hw0 hm) (by omega)).mono ?_
        rintro o st' ⟨nt, p', k', n1, n2, n3, n4, n5, n6, rfl, rfl⟩
        rcases nt with ⟨ni, nk, nx, nks⟩
        conv => whnf
        refine ⟨[], false, ?_⟩
        conv => whnf
        exact hend ⟨1, x, c, .mk ni nk nx nks, []⟩ p' k' ⟨n1, by show (T.mk ni nk nx nks).size ≤ 256; omega, by simp⟩ (by omega) (by omega) (by omega) (by omega)
      · rw [ltB_f (by omega)]
        conv => whnf
        refine ⟨[0], false, ?_⟩
        conv => whnf
        refine (hp (p + 1 + 1 + 1) _ (by omega) (by omega)).mono ?_
        rintro o st' ⟨c, c0, c1, rfl, rfl⟩
        conv => whnf
        refine ⟨[0, 1], false, ?_⟩
        conv => whnf
        first
          | refine (hput kSec k hsec (by first | omega | exact hw0 hm) (by omega)).mono ?_
          | refine (hput kd k hkd (by first | omega | exact hw0 hm) (by omega)).mono ?_
        rintro o st' ⟨nt, p', k', n1, n2, n3, n4, n5, n6, rfl, rfl⟩
        rcases nt with ⟨ni, nk, nx, nks⟩
        conv => whnf
        refine ⟨[], false, ?_⟩
        conv => whnf
        exact hend ⟨1, x, c, .mk ni nk nx nks, []⟩ p' k' ⟨n1, by show (T.mk ni nk nx nks).size ≤ 256; omega, by simp⟩ (by omega) (by omega) (by omega) (by omega)
  rw [eqB_f e1]
  conv => whnf
  by_cases e2 : d = 2
  · rw [eqB_t e2]
    conv => whnf
    refine ⟨[], false, ?_⟩
    conv => whnf
    exact hend ⟨2, x, 0, .mk 0 [] [] [], []⟩ _ k ⟨noneS_small, by simp [T.size, T.sizeL], by simp⟩ (by omega) (by omega) (by omega) (by omega)
  rw [eqB_f e2]
  conv => whnf
  by_cases e3 : d = 3
  · rw [eqB_t e3]
    conv => whnf
    refine ⟨[0], false, ?_⟩
    conv => whnf
    refine (hp (p + 1 + 1) 3 (by omega) (by omega)).mono ?_
    rintro o st' ⟨c, c0, c1, rfl, rfl⟩
    conv => whnf
    by_cases e4 : c = 0
    · rw [eqB_t e4]
      conv => whnf
      refine ⟨[0], false, ?_⟩
      conv => whnf
      refine (ho (p + 1 + 1 + 1) [[112, 97, 114], [110, 111, 116, 101], [115, 101, 99], [116, 105, 116, 108, 101], [120]] (by omega) (by omega) (by simp) (by simp)).mono ?_
      rintro o st' ⟨kd, hkd, rfl, rfl⟩
      have hkl : kd.length ≤ 1000 := by
        simp only [List.mem_cons, List.not_mem_nil, or_false] at hkd
        rcases hkd with rfl | rfl | rfl | rfl | rfl <;> decide
      conv => whnf
      refine ⟨[], false, ?_⟩
      conv => whnf
      exact hend ⟨4, x, 0, .mk 0 [] [] [], kd⟩ _ k ⟨noneS_small, by simp [T.size, T.sizeL], hkl⟩ (by omega) (by omega) (by omega) (by omega)
    · rw [eqB_f e4]
      conv => whnf
      refine ⟨[0], false, ?_⟩
      conv => whnf
      refine (hx (p + 1 + 1 + 1) (by omega) (by omega)).mono ?_
      rintro o st' ⟨tx, htx, rfl, rfl⟩
      conv => whnf
      refine ⟨[], false, ?_⟩
      conv => whnf
      exact hend ⟨3, x, 0, .mk 0 [] [] [], tx⟩ _ k ⟨noneS_small, by simp [T.size, T.sizeL], by simp only; omega⟩ (by omega) (by omega) (by omega) (by omega)
  · rw [eqB_f e3]
    conv => whnf
    refine ⟨[0], false, ?_⟩
    conv => whnf
    refine (hx (p + 1 + 1) (by omega) (by omega)).mono ?_
    rintro o st' ⟨tx, htx, rfl, rfl⟩
    conv => whnf
    refine ⟨[], false, ?_⟩
    conv => whnf
    exact hend ⟨3, x, 0, .mk 0 [] [] [], tx⟩ _ k ⟨noneS_small, by simp [T.size, T.sizeL], by simp only; omega⟩ (by omega) (by omega) (by omega) (by omega)
end Go.Cod

namespace Go.Cod
open Go Go.Proofs Go.ChangeShapes Go.WideShapes Go.ChangeAt Go.RowKit
set_option maxRecDepth 10000

theorem three (a b c m : Int) (h0 : 0 ≤ m) (h1 : m < 3) : ∃ z : Int, [[V.int .i64 a], [.int .i64 b], [.int .i64 c]][m.toNat]? = some [.int .i64 z] := by
  obtain ⟨n, rfl⟩ : ∃ n : Nat, m = n := ⟨m.toNat, by omega⟩
  have : n < 3 := by omega
  match n, this with
  | 0, _ => exact ⟨_, rfl⟩
  | 1, _ => exact ⟨_, rfl⟩
  | 2, _ => exact ⟨_, rfl⟩
def SpR (bs : List UInt8) (p : Int) (o : Out) (st' : St) : Prop := ∃ (s : Stp) (p' : Int), s.Dr ∧ p ≤ p' ∧ p' ≤ p + 10 ∧ o = .ret (.agg s.cells) ∧ st' = [rdO bs p']
set_option maxHeartbeats 8000000 in
theorem l11SpoilStep_full (bs : List UInt8) (hb : bs.length ≤ 2000) (p : Int) (p0 : 0 ≤ p) (p1 : p ≤ 10000000) (s : Stp) (hs : s.Dr) :
    Full Try.prog noY 39 [.ptr 0 0 0, .agg s.cells] [rdO bs p] (SpR bs p) := by
  have hp : ∀ (q n : Int), 0 ≤ q → q ≤ 1073741824 → Full Try.prog noY 38 [.ptr 0 0 0, .int .i64 n] [rdO bs q] fun o st' => ∃ m : Int, 0 ≤ m ∧ (1 ≤ n → m < n) ∧ o = .ret (.int .i64 m) ∧ st' = [rdO bs (q + 1)] := fun q n h0 h1 => pick_full bs q n hb h0 h1
  have ho : ∀ (q : Int) (ss : List (List UInt8)), 0 ≤ q → q ≤ 1073741824 → 1 ≤ ss.length → ss.length ≤ 1048576 → Full Try.prog noY 64 [.ptr 0 0 0, .sl (drows ss)] [rdO bs q] fun o st' => ∃ s ∈ ss, o = .ret (.str s) ∧ st' = [rdO bs (q + 1)] := fun q ss h0 h1 h2 h3 => of_full bs q ss hb h0 h1 h2 h3
  have hend : ∀ (s : Stp) (p' : Int), s.Dr → p ≤ p' → p' ≤ p + 10 → SpR bs p (.ret (.agg s.cells)) [rdO bs p'] := fun s p' h1 h2 h3 => ⟨s, p', h1, h2, h3, rfl, rfl⟩
  obtain ⟨kind, sid, at_, node, text⟩ := s
  cases node with
  | mk nid nk nx nks =>
  obtain ⟨d1, d2, d3⟩ := hs
  simp only at d1 d2 d3
  show Full Try.prog noY _ [.ptr 0 0 0, .agg [.int .i64 kind, .int .i64 sid, .int .i64 at_, .int .i64 nid, .str nk, .str nx, .sl (T.rows nks), .str text]] _ _
  refine full_of_awp good Try.func39 rfl (by kernel_rfl) (by decide) ?_
  conv => whnf
  refine ⟨[0], false, ?_⟩
  conv => whnf
  refine (hp p 6 p0 (by omega)).mono ?_
  rintro o st' ⟨d, e0, e1, rfl, rfl⟩
  conv => whnf
  by_cases a0 : d = 0
  · rw [eqB_t a0]
    conv => whnf
    refine ⟨[0], false, ?_⟩
    conv => whnf
    refine (hp (p + 1) 5 (by omega) (by omega)).mono ?_
    rintro o st' ⟨m, m0, m1, rfl, rfl⟩
    conv => whnf
    refine ⟨[0], false, ?_⟩
    conv => whnf
    refine (hp (p + 1 + 1) 3 (by omega) (by omega)).mono ?_
    rintro o st' ⟨c, c0, c1, rfl, rfl⟩
    obtain ⟨z, hz⟩ := three 0 5 m c c0 (c1 (by omega))
    conv => whnf
    refine ⟨c0, _, _, 1, rfl, hz, rfl, rfl, ?_⟩
    conv => whnf
    refine AtRow_intro _ hz ?_
    conv => whnf
    refine ⟨[], false, ?_⟩
    conv => whnf
    exact hend ⟨z, sid, at_, .mk nid nk nx nks, text⟩ _ ⟨d1, d2, d3⟩ (by omega) (by omega)
  rw [eqB_f a0]
  conv => whnf
  by_cases a1 : d = 1
  · rw [eqB_t a1]
    conv => whnf
    refine ⟨[0], false, ?_⟩
    conv => whnf
    refine (hp (p + 1) 40 (by omega) (by omega)).mono ?_
    rintro o st' ⟨m, m0, m1, rfl, rfl⟩
    conv => whnf
    refine ⟨[], false, ?_⟩
    conv => whnf
    exact hend ⟨kind, _, at_, .mk nid nk nx nks, text⟩ _ ⟨d1, d2, d3⟩ (by omega) (by omega)
  rw [eqB_f a1]
  conv => whnf
  by_cases a2 : d = 2
  · rw [eqB_t a2]
    conv => whnf
    refine ⟨[0], false, ?_⟩
    conv => whnf
    refine (hp (p + 1) 3 (by omega) (by omega)).mono ?_
    rintro o st' ⟨c, c0, c1, rfl, rfl⟩
    obtain ⟨z, hz⟩ := three (-1) 9 1 c c0 (c1 (by omega))
    conv => whnf
    refine ⟨c0, _, _, 1, rfl, hz, rfl, rfl, ?_⟩
    conv => whnf
    refine AtRow_intro _ hz ?_
    conv => whnf
    refine ⟨[], false, ?_⟩
    conv => whnf
    exact hend ⟨kind, sid, z, .mk nid nk nx nks, text⟩ _ ⟨d1, d2, d3⟩ (by omega) (by omega)
  rw [eqB_f a2]
  conv => whnf
  by_cases a3 : d = 3
  · rw [eqB_t a3]
    conv => whnf
    refine ⟨[0], false, ?_⟩
    conv => whnf
    refine (ho (p + 1) [[120], [34], [65]] (by omega) (by omega) (by simp) (by simp)).mono ?_
    rintro o st' ⟨tx, htx, rfl, rfl⟩
    have hl : tx.length ≤ 1000 := by
      simp only [List.mem_cons, List.not_mem_nil, or_false] at htx
      rcases htx with rfl | rfl | rfl <;> decide
    conv => whnf
    refine ⟨[], false, ?_⟩
    conv => whnf
    exact hend ⟨kind, sid, at_, .mk nid nk nx nks, tx⟩ _ ⟨d1, d2, hl⟩ (by omega) (by omega)
  rw [eqB_f a3]
  conv => whnf
  refine ⟨[0], false, ?_⟩
  conv => whnf
  refine (hp (p + 1) 5 (by omega) (by omega)).mono ?_
  rintro o st' ⟨m, m0, m1, rfl, rfl⟩
  have w1 : IntKind.i64.wrap (1 + m) = 1 + m := wrap64 (by omega) (by have := m1 (by omega); omega)
  conv => whnf
  rw [w1]
  refine ⟨[], false, ?_⟩
  conv => whnf
  exact hend ⟨kind, sid, at_, .mk (1 + m) [112, 97, 114] [] [], text⟩ _ ⟨.mk (by have := m1 (by omega); omega) (by simp) (by simp) (by simp) (by simp), by simp [T.size, T.sizeL], d3⟩ (by omega) (by omega)
def DrawRS (r : V) : Prop := ∃ (t : T) (s : Stp), t.Small ∧ t.size ≤ 600000 ∧ s.Dr ∧ r = .tup [.agg t.cells, .agg s.cells]
set_option maxHeartbeats 8000000 in
theorem drawStepDo_pure (bs : List UInt8) (hb : bs.length ≤ 1048576) : Pure Try.prog 15 [.sl (brows bs)] DrawRS := by
  have ho := l1Open_full bs hb
  refine pure_of_awp good Try.func15 rfl (by kernel_rfl) (by decide) ?_
  conv => whnf
  refine .inr (.inl ⟨[], false, ?_⟩)
  conv => whnf
  refine ho.mono ?_
  rintro o st' ⟨rfl, bs', hb', rfl⟩
  conv => whnf
  refine ⟨[2], false, ?_⟩
  conv => whnf
  refine (l11Some_full bs' hb' 0 16 (by omega) (by omega)).mono ?_
  rintro o st' ⟨t, p, s1, s2, s3, s4, rfl, rfl⟩
  have hed := l11Edit_full bs' hb' p 100 (by omega) (by omega) (by omega) (by omega) t s1 s2
  rcases t with ⟨ti, tk, tx, tks⟩
  conv => whnf
  refine ⟨[2, 4], false, ?_⟩
  conv => whnf
  refine hed.mono ?_
  rintro o st' ⟨⟨skind, sid, sat, snode, stext⟩, p', k', d1, d2, d3, d4, d5, rfl, rfl⟩
  have hpk := pick_full bs' p' 6 hb' (by omega) (by omega)
  have hspo := l11SpoilStep_full bs' hb' (p' + 1) (by omega) (by omega) _ d1
  rcases snode with ⟨ni, nk, nx, nks⟩
  have hfin : ∀ s : Stp, s.Dr → DrawRS (.tup [.agg (T.mk ti tk tx tks).cells, .agg s.cells]) := fun s h => ⟨_, s, s1, s2, h, rfl⟩
  conv => whnf
  refine ⟨[2], false, ?_⟩
  conv => whnf
  refine hpk.mono ?_
  rintro o st' ⟨c, c0, c1, rfl, rfl⟩
  conv => whnf
  by_cases hc : c = 0
  · rw [eqB_t hc]
    conv => whnf
    refine ⟨[2], false, ?_⟩
    conv => whnf
    refine hspo.mono ?_
    rintro o st' ⟨⟨ykind, yid, yat, ynode, ytext⟩, q', f1, f2, f3, rfl, rfl⟩
    rcases ynode with ⟨mi, mk, mx, mks⟩
    have hfin := hfin ⟨ykind, yid, yat, .mk mi mk mx mks, ytext⟩ f1
    conv => whnf
    repeat (refine And.intro (by
              (conv => whnf)
              first
                | rfl
                | exact hfin) ?_
            conv => whnf)
    exact hfin
  · rw [eqB_f hc]
    have hfin := hfin ⟨skind, sid, sat, .mk ni nk nx nks, stext⟩ d1
    conv => whnf
    repeat (refine And.intro (by
              (conv => whnf)
              first
                | rfl
                | exact hfin) ?_
            conv => whnf)
    exact hfin
end Go.Cod

namespace Go.Cod
open Go Go.Proofs
set_option maxRecDepth 10000

/- What a step leaves as it was. -/
mutual
def T.hd : T → List (Int × List UInt8 × List UInt8)
  | .mk id kind text kids => (id, kind, text) :: T.hdL kids
def T.hdL : List T → List (Int × List UInt8 × List UInt8)
  | [] => []
  | t :: ts => t.hd ++ T.hdL ts
end
theorem findT_ok {t : T} (h : okT t = true) (x : Int) : findT t x = fT t x := by unfold findT; rw [if_pos h]
end Go.Cod

namespace Go.Cod
open Go Go.Proofs
set_option maxRecDepth 10000

/- Steps, one behind the other. -/
end Go.Cod

namespace Go.Cod
open Go Go.Proofs
set_option maxRecDepth 10000

end Go.Cod

namespace Go.Cod
open Go Go.Proofs
set_option maxRecDepth 10000

/- Two changes of one word each, of which neither is the other's, in either order. -/
end Go.Cod

namespace Go.Cod
open Go Go.Proofs
set_option maxRecDepth 10000

/- A drawn tree is even: where a number stands twice, the later ones bear as many kids as the first. -/
end Go.Cod

namespace Go.Cod
open Go Go.Proofs
set_option maxRecDepth 10000

end Go.Cod

namespace Go.Cod
open Go Go.Proofs Go.ChangeShapes Go.WideShapes Go.ChangeAt Go.RowKit
set_option maxRecDepth 10000

end Go.Cod

namespace Go.Cod
open Go Go.Proofs
variable [Lam]

/- A long region in pieces. -/
def aOpsR (P : Program) (ok : OkY) (τ : Tau) (ops : Array Oper) (l : List Oper) : (Nat → V) → St → ((Nat → V) → St → Prop) → (V → (Nat → V) → St → Prop) → Prop :=
  List.rec (motive := fun _ => (Nat → V) → St → ((Nat → V) → St → Prop) → (V → (Nat → V) → St → Prop) → Prop)
    (fun fr st K _ => K fr st)
    (fun o _ ih fr st K Z => match o.guard with
      | none => aOp P ok τ o fr st (fun v st' => force v fun v => forceSt st' fun st' => ih (put fr o.dst v) st' K Z) (fun v st' => Z v fr st')
      | some (j, want) => match (ops[j]?).bind (·.dst) with
        | some d => (match fr d with
          | .bool b => BC (if want then b else negB b) (aOp P ok τ o fr st (fun v st' => force v fun v => forceSt st' fun st' => ih (put fr o.dst v) st' K Z) (fun v st' => Z v fr st'))
            (ih (put fr o.dst undefV) st K Z)
          | .raw (.tuple _) => ih (put fr o.dst undefV) st K Z
          | _ => False)
        | none => False) l
theorem aOpsR_eq (P : Program) (ok : OkY) (τ : Tau) (ops : Array Oper) (l : List Oper) : aOpsR P ok τ ops l = aOps P ok τ ops l := rfl
theorem aOps_append (P : Program) (ok : OkY) (τ : Tau) (ops : Array Oper) (K : (Nat → V) → St → Prop) (Z : V → (Nat → V) → St → Prop) (l2 : List Oper) : ∀ (l1 : List Oper) (fr : Nat → V) (st : St),
    aOps P ok τ ops (l1 ++ l2) fr st K Z = aOps P ok τ ops l1 fr st (fun fr st => aOps P ok τ ops l2 fr st K Z) Z
  | [], fr, st => rfl
  | o :: l1, fr, st => by
    have ih := aOps_append P ok τ ops K Z l2 l1
    rw [List.cons_append, aOps_cons, aOps_cons]
    simp only [ih]
theorem aOps_cut {P : Program} {ok : OkY} {τ : Tau} {ops : Array Oper} {l : List Oper} {fr : Nat → V} {st : St} {K : (Nat → V) → St → Prop} {Z : V → (Nat → V) → St → Prop} (k : Nat)
    (h : ∀ K1 : (Nat → V) → St → Prop, (∀ fr st, aOps P ok τ ops (l.drop k) fr st K Z → K1 fr st) → aOpsR P ok τ ops (l.take k) fr st K1 Z) : aOps P ok τ ops l fr st K Z := by
  have := h (fun fr st => aOps P ok τ ops (l.drop k) fr st K Z) fun _ _ h => h
  rw [aOpsR_eq, ← aOps_append, List.take_append_drop] at this
  exact this
theorem aOps_with {P : Program} {ok : OkY} {τ : Tau} {ops : Array Oper} {l : List Oper} {fr : Nat → V} {st : St} {K : (Nat → V) → St → Prop} {Z : V → (Nat → V) → St → Prop} (L : List (Nat × V)) (hh : Holds fr L) (h : ∀ b, aOpsR P ok τ ops l (setL b L) st K Z) : aOps P ok τ ops l fr st K Z := by
  obtain ⟨b, rfl⟩ := hh.split
  exact h b
theorem aOps_cutw {P : Program} {ok : OkY} {τ : Tau} {ops : Array Oper} {l : List Oper} {fr : Nat → V} {st : St} {K : (Nat → V) → St → Prop} {Z : V → (Nat → V) → St → Prop} (k : Nat) (L : List (Nat × V)) (hh : Holds fr L)
    (h : ∀ K1 : (Nat → V) → St → Prop, (∀ fr st, aOps P ok τ ops (l.drop k) fr st K Z → K1 fr st) → ∀ b, aOpsR P ok τ ops (l.take k) (setL b L) st K1 Z) : aOps P ok τ ops l fr st K Z := by
  obtain ⟨b, rfl⟩ := hh.split
  exact aOps_cut k fun K1 h1 => h K1 h1 b
end Go.Cod

namespace Go.Cod
open Go Go.Proofs
variable [Lam]

/- The walk of a region, sealed for the kernel too. -/
def awpG (A : Program → OkY → Tau → Array Oper → List Oper → (Nat → V) → St → ((Nat → V) → St → Prop) → (V → (Nat → V) → St → Prop) → Prop) (P : Program) (ok : OkY) (τ : Tau) (nb : Nat) (c : Code) : (Ex → (Nat → V) → St → Prop) → (Nat → V) → St → Prop :=
  Code.rec (motive := fun _ => Nat → (Ex → (Nat → V) → St → Prop) → (Nat → V) → St → Prop)
    (fun _ Q fr st => Q .normal fr st)
    (fun _ ops d _ Q fr st => match d with
      | false => A P ok τ ops ops.toList fr st (Q .normal) (fun v => Q (.pan v))
      | true => (match hasHand τ ops with
        | true => withMat τ ops fun M CH => Chk (mix2Ok τ M CH ops) (aEOps2 P τ CH ops ops.toList 0 fr st fun fr => forcePlan (planOf M CH ops) fun plan => aXOps P ok τ ops plan (Q .normal) plan [] fr st)
        | false => (match orderOk ops with
          | true => aQOps P τ ops ops.toList fr st fun fr => Q .normal fr st
          | false => (match mixOk ops with
            | true => aEOps P τ ops ops.toList 0 fr st fun fr => aCOps P ok τ ops ops.toList 0 fr st (Q .normal)
            | false => withMat τ ops fun M CH => (match mix2Ok τ M CH ops with
              | true => aEOps2 P τ CH ops ops.toList 0 fr st fun fr => forcePlan (planOf M CH ops) fun plan => aXOps P ok τ ops plan (Q .normal) plan [] fr st
              | false => aAny P ok τ ops (Q .normal) (fun v => Q (.pan v)) ops.size [] fr st)))))
    (fun _ _ iha ihb nb Q fr st => iha nb (AThen (ihb nb Q) Q) fr st)
    (fun c _ _ iha ihb nb Q fr st => ACond (ev fr c) (iha nb Q fr st) (ihb nb Q fr st))
    (fun id _ ih nb Q fr st => ih nb (ABlock id Q) fr st)
    (fun _ ih nb Q fr st => ∃ (J : Nat → (Nat → V) → St → Prop) (n : Nat) (flag : Bool) (s0 : Option (List Nat)), cmp nb s0 fr st (J n) ∧
      ∀ n fr st, J n fr st → ih nb (AThen (ALoop nb flag J n) Q) fr st)
    (fun f ps _ _ ihx ihy _ Q fr st => (match ev fr f with
      | .fn g cap => ARange P g cap ps.size (fun Q vs st' => ihx st.length (AThen (ihy st.length Q) fun _ _ _ => False) (setPs ps.toList vs fr) st') Q fr st
      | _ => False))
    (fun id _ Q fr st => Q (.exit id) fr st)
    (fun _ _ _ _ _ _ => False)
    (fun _ _ _ _ _ => False)
    (fun _ _ _ _ _ => False)
    (fun _ Q fr st => Q .ret fr st)
    (fun _ _ _ _ _ => False) c nb

theorem pure_of_box {P : Program} {τ : Tau} (hτ : TauGood P τ) {f : FuncId} {fn : Func} {c : Code} {args : List V} {R : V → Prop}
    (hf : P.funcs[f]? = some fn) (hb : fn.body = some c) (hname : (fn.name == "runtime.NumGoroutine") = false) (hc : codeOk fn.ntmps c = true)
    (h : ∀ A, A = aOps → awpG A P noY τ 0 c (AEnd τ fn.results.toList R) (initFr args) []) : Pure P f args R := pure_of_awp hτ hf hb hname hc (h aOps rfl)
variable {A : Program → OkY → Tau → Array Oper → List Oper → (Nat → V) → St → ((Nat → V) → St → Prop) → (V → (Nat → V) → St → Prop) → Prop}
variable {P : Program} {ok : OkY} {τ : Tau} {ops : Array Oper} {l : List Oper} {fr : Nat → V} {st : St} {K : (Nat → V) → St → Prop} {Z : V → (Nat → V) → St → Prop}
theorem box_go (hA : A = aOps) (h : aOpsR P ok τ ops l fr st K Z) : A P ok τ ops l fr st K Z := by rw [hA]; exact h
theorem box_with (hA : A = aOps) (L : List (Nat × V)) (hh : Holds fr L) (h : ∀ b, aOpsR P ok τ ops l (setL b L) st K Z) : A P ok τ ops l fr st K Z := by
  rw [hA]
  exact aOps_with L hh h
theorem box_cutw (hA : A = aOps) (k : Nat) (L : List (Nat × V)) (hh : Holds fr L)
    (h : ∀ K1 : (Nat → V) → St → Prop, (∀ fr st, A P ok τ ops (l.drop k) fr st K Z → K1 fr st) → ∀ b, aOpsR P ok τ ops (l.take k) (setL b L) st K1 Z) : A P ok τ ops l fr st K Z := by
  rw [hA] at h ⊢
  exact aOps_cutw k L hh h
end Go.Cod

namespace Go.Cod
open Go Go.Proofs Go.ChangeShapes Go.WideShapes Go.ChangeAt Go.RowKit
set_option maxRecDepth 10000

theorem ownK : ownKnob Try.prog.godebug = none := by kernel_rfl
def byteOf : List V → UInt8
  | [.int _ i] => UInt8.ofNat i.toNat
  | _ => 0
theorem argBytes {H : Type} {enc : TypeId × Value → H} {W : World} : ReadsA enc Try.prog W 22 fun x => ∃ bs : List UInt8, x = .sl (brows bs) := by
  intro base v d p hv h
  obtain ⟨x, ⟨es, hx, _, hr⟩, hrep⟩ := readsA_slice (S := fun vs => ∃ es, vs = [.sl es] ∧ es.length ≤ maxLen ∧ ∀ r ∈ es, (∃ i, r = [.int .u8 i] ∧ IntKind.u8.min ≤ i ∧ i ≤ IntKind.u8.max) ∧ r.length = Try.prog.cellsOf 5 ∧ (∀ v ∈ r, v.leaf = true) ∧ V.clean.cleanL 0 r = true)
    Try.underlying22 (fun n => reads_slice Try.underlying22 (by decide +kernel) fun m _ => reads_int Try.underlying5) base v d p hv h
  cases hx
  refine ⟨_, ⟨es.map byteOf, ?_⟩, hrep⟩
  congr 1
  rw [brows, List.map_map]
  refine (List.map_id es).symm.trans (List.map_congr_left fun r hr' => ?_)
  obtain ⟨⟨i, rfl, h1, h2⟩, _⟩ := hr r hr'
  have h1 : 0 ≤ i := h1
  have h2 : i ≤ 255 := h2
  simp only [id_eq, Function.comp, byteOf, cellB]
  congr 2
  simp only [UInt8.toNat_ofNat']
  omega
end Go.Cod

namespace Go.Cod
open Go Go.Proofs
set_option linter.all false
variable [Lam]

/-- What a function leaves as its own is shared for good. -/
theorem Full.own_pure {P : Program} {f : FuncId} {args : List V} {rows : List (List V)} {w : Nat} (h : Full P noY f args [] fun o st' => o = .ret (.own 0) ∧ st' = [⟨rows, w, true, true, false, .cell⟩])
    (hcl : V.clean.cleanLL 0 rows = true) (hlf : ∀ e ∈ rows, ∀ x ∈ e, x.leaf = true) (hfl : ∀ e ∈ rows, ∀ x ∈ e, x.flat = true) (ha : V.clean.cleanL 0 args = true) : Pure P f args (· = .sl rows) := by
  have h1 := Full.lent (ok := noY) (ps := [[]]) (vs := args) h ⟨rfl, fun i x y p q => by rw [p] at q; cases q; exact .same _⟩ ha (by
    rintro o st1 ⟨rfl, rfl⟩
    exact ⟨_, rfl, rfl, fun p hp => by rw [List.mem_singleton.1 hp]; exact ⟨rfl, .inl ⟨rfl, hfl⟩⟩⟩)
  have h2 := Full.absorb (R' := fun o st' => ∃ b c, o = .ret (.dref b rows.length c) ∧ st' = [poolO [ent b c w rows]]) h1 (by
    rintro o st' ⟨v, st1, ⟨hv, rfl⟩, rfl, rfl⟩
    cases hv
    exact ⟨.own 1, [poolO []], 0, [], rows, w, rfl, rfl, rfl, Nat.le_refl _, by simp [poolO], fun b c => ⟨rfl, b, c, rfl, rfl⟩⟩)
  refine Full.freeze (Full.start (st0 := []) h2) ?_
  rintro o st' ⟨b, c, rfl, rfl⟩
  refine ⟨_, _, .sl rows, rfl, rfl, ?_, rfl, rfl⟩
  refine .dref (sz := w) (rows := rows) (by simp) rfl rfl hcl hlf (fun i r r' p q => ?_) (fun i r r' j x y p q u v => ?_)
  · rw [p] at q; cases q; rfl
  · rw [p] at q; cases q; rw [u] at v; cases v; exact .same _
end Go.Cod

namespace Go.Cod
set_option linter.all false

/-! The least cost to make one forest another, by places: p and q tell where what is in a thing begins, u what it costs that one becomes the other. -/
def dist (p q : Nat → Nat) (u : Nat → Nat → Nat) (l1 h1 l2 h2 : Nat) : Nat :=
  if h1 ≤ l1 then h2 - l2 else if h2 ≤ l2 then h1 - l1 else
    min (min (dist p q u l1 (h1 - 1) l2 h2 + 1) (dist p q u l1 h1 l2 (h2 - 1) + 1))
      (dist p q u l1 (max l1 (min (p (h1 - 1)) (h1 - 1))) l2 (max l2 (min (q (h2 - 1)) (h2 - 1))) + dist p q u (max l1 (min (p (h1 - 1)) (h1 - 1))) (h1 - 1) (max l2 (min (q (h2 - 1)) (h2 - 1))) (h2 - 1) + u (h1 - 1) (h2 - 1))
termination_by (h1 - l1) + (h2 - l2)
decreasing_by all_goals omega

def Closed (p : Nat → Nat) (l h : Nat) : Prop := ∀ x, l ≤ x → x < h → l ≤ p x
structure Lamin (p : Nat → Nat) (n : Nat) : Prop where
  le : ∀ x, x < n → p x ≤ x
  nest : ∀ x y, x < y → y < n → x < p y ∨ p y ≤ p x
theorem Closed.le {p l h h'} (H : Closed p l h) (hh : h' ≤ h) : Closed p l h' := fun x a b => H x a (by omega)
theorem Closed.from {p l h m} (H : Closed p m h) (hh : l ≤ m) : ∀ x, m ≤ x → x < h → l ≤ p x := fun x a b => Nat.le_trans hh (H x a b)
theorem Lamin.closed {p n} (H : Lamin p n) {a : Nat} (ha : a < n) : Closed p (p a) (a + 1) := fun x h1 h2 => by
  rcases Nat.lt_or_ge x a with h | h
  · rcases H.nest x a h ha with h3 | h3
    · omega
    · exact h3
  · have : x = a := by omega
    subst this; exact Nat.le_refl _

variable {p q : Nat → Nat} {u : Nat → Nat → Nat}
theorem dist_l {l1 h1 l2 h2 : Nat} (h : h1 ≤ l1) : dist p q u l1 h1 l2 h2 = h2 - l2 := by
  rw [dist, if_pos h]
theorem dist_r {l1 h1 l2 h2 : Nat} (h : h2 ≤ l2) : dist p q u l1 h1 l2 h2 = h1 - l1 := by
  rw [dist]
  by_cases h' : h1 ≤ l1
  · rw [if_pos h']; omega
  · rw [if_neg h', if_pos h]
theorem dist_succ {l1 a l2 b : Nat} (h1 : l1 ≤ a) (h2 : l2 ≤ b) : dist p q u l1 (a + 1) l2 (b + 1) =
    min (min (dist p q u l1 a l2 (b + 1) + 1) (dist p q u l1 (a + 1) l2 b + 1))
      (dist p q u l1 (max l1 (min (p a) a)) l2 (max l2 (min (q b) b)) + dist p q u (max l1 (min (p a) a)) a (max l2 (min (q b) b)) b + u a b) := by
  rw [dist, if_neg (by omega), if_neg (by omega)]
  simp only [Nat.add_sub_cancel]
theorem dist_step {l1 a l2 b : Nat} (h1 : l1 ≤ p a) (h1' : p a ≤ a) (h2 : l2 ≤ q b) (h2' : q b ≤ b) : dist p q u l1 (a + 1) l2 (b + 1) =
    min (min (dist p q u l1 a l2 (b + 1) + 1) (dist p q u l1 (a + 1) l2 b + 1)) (dist p q u l1 (p a) l2 (q b) + dist p q u (p a) a (q b) b + u a b) := by
  rw [dist_succ (by omega) (by omega), show max l1 (min (p a) a) = p a by omega, show max l2 (min (q b) b) = q b by omega]
theorem dist_del {l1 a l2 h2 : Nat} (h : l1 ≤ a) : dist p q u l1 (a + 1) l2 h2 ≤ dist p q u l1 a l2 h2 + 1 := by
  by_cases h' : h2 ≤ l2
  · rw [dist_r h', dist_r h']; omega
  · obtain ⟨b, rfl⟩ : ∃ b, h2 = b + 1 := ⟨h2 - 1, by omega⟩
    rw [dist_succ h (by omega)]; omega
theorem dist_ins {l1 h1 l2 b : Nat} (h : l2 ≤ b) : dist p q u l1 h1 l2 (b + 1) ≤ dist p q u l1 h1 l2 b + 1 := by
  by_cases h' : h1 ≤ l1
  · rw [dist_l h', dist_l h']; omega
  · obtain ⟨a, rfl⟩ : ∃ a, h1 = a + 1 := ⟨h1 - 1, by omega⟩
    rw [dist_succ (by omega) h]; omega
theorem dist_mat {l1 a l2 b : Nat} (h1 : l1 ≤ p a) (h1' : p a ≤ a) (h2 : l2 ≤ q b) (h2' : q b ≤ b) : dist p q u l1 (a + 1) l2 (b + 1) ≤ dist p q u l1 (p a) l2 (q b) + dist p q u (p a) a (q b) b + u a b := by
  rw [dist_step h1 h1' h2 h2']; omega
theorem dist_dels {l1 m1 l2 h2 : Nat} (h : l1 ≤ m1) : ∀ k, dist p q u l1 (m1 + k) l2 h2 ≤ dist p q u l1 m1 l2 h2 + k
  | 0 => by simp
  | k + 1 => by
    have := dist_dels (l2 := l2) (h2 := h2) h k
    have := dist_del (p := p) (q := q) (u := u) (l1 := l1) (a := m1 + k) (l2 := l2) (h2 := h2) (by omega)
    rw [← Nat.add_assoc]; omega
theorem dist_inss {l1 h1 l2 m2 : Nat} (h : l2 ≤ m2) : ∀ k, dist p q u l1 h1 l2 (m2 + k) ≤ dist p q u l1 h1 l2 m2 + k
  | 0 => by simp
  | k + 1 => by
    have := dist_inss (l1 := l1) (h1 := h1) h k
    have := dist_ins (p := p) (q := q) (u := u) (l1 := l1) (h1 := h1) (l2 := l2) (b := m2 + k) (by omega)
    rw [← Nat.add_assoc]; omega
/-- Side by side it costs no more. -/
theorem dist_app : ∀ (n : Nat) {l1 m1 h1 l2 m2 h2 : Nat}, (h1 - m1) + (h2 - m2) ≤ n → l1 ≤ m1 → m1 ≤ h1 → l2 ≤ m2 → m2 ≤ h2 → (∀ x, x < h1 → p x ≤ x) → (∀ x, x < h2 → q x ≤ x) → Closed p m1 h1 → Closed q m2 h2 →
    dist p q u l1 h1 l2 h2 ≤ dist p q u l1 m1 l2 m2 + dist p q u m1 h1 m2 h2 := by
  intro n
  induction n with
  | zero =>
    intro l1 m1 h1 l2 m2 h2 hn a1 a2 b1 b2 _ _ _ _
    obtain rfl : h1 = m1 := by omega
    obtain rfl : h2 = m2 := by omega
    omega
  | succ n ih =>
    intro l1 m1 h1 l2 m2 h2 hn a1 a2 b1 b2 lp lq cp cq
    by_cases e1 : h1 ≤ m1
    · obtain rfl : h1 = m1 := by omega
      rw [dist_l (l1 := h1) (Nat.le_refl _)]
      obtain ⟨k, rfl⟩ : ∃ k, h2 = m2 + k := ⟨h2 - m2, by omega⟩
      have := dist_inss (p := p) (q := q) (u := u) (l1 := l1) (h1 := h1) b1 k
      omega
    by_cases e2 : h2 ≤ m2
    · obtain rfl : h2 = m2 := by omega
      rw [dist_r (l2 := h2) (Nat.le_refl _)]
      obtain ⟨k, rfl⟩ : ∃ k, h1 = m1 + k := ⟨h1 - m1, by omega⟩
      have := dist_dels (p := p) (q := q) (u := u) (l2 := l2) (h2 := h2) a1 k
      omega
    obtain ⟨a, rfl⟩ : ∃ a, h1 = a + 1 := ⟨h1 - 1, by omega⟩
    obtain ⟨b, rfl⟩ : ∃ b, h2 = b + 1 := ⟨h2 - 1, by omega⟩
    have ca := cp a (by omega) (by omega)
    have cb := cq b (by omega) (by omega)
    have la := lp a (by omega)
    have lb := lq b (by omega)
    have i1 := ih (l1 := l1) (m1 := m1) (h1 := a) (l2 := l2) (m2 := m2) (h2 := b + 1) (by omega) a1 (by omega) b1 b2 (fun x h => lp x (by omega)) lq (cp.le (by omega)) cq
    have i2 := ih (l1 := l1) (m1 := m1) (h1 := a + 1) (l2 := l2) (m2 := m2) (h2 := b) (by omega) a1 (by omega) b1 (by omega) lp (fun x h => lq x (by omega)) cp (cq.le (by omega))
    have i3 := ih (l1 := l1) (m1 := m1) (h1 := p a) (l2 := l2) (m2 := m2) (h2 := q b) (by omega) a1 (by omega) b1 (by omega) (fun x h => lp x (by omega)) (fun x h => lq x (by omega)) (cp.le (by omega)) (cq.le (by omega))
    rw [dist_step (l1 := l1) (by omega) la (by omega) lb, dist_step (l1 := m1) ca la cb lb]
    omega
/-- .. by the cost of the last trees as wholes. -/
theorem dist_tree {n m l1 a l2 b : Nat} (hp : Lamin p n) (hq : Lamin q m) (ha : a < n) (hb : b < m) (h1 : l1 ≤ p a) (h2 : l2 ≤ q b) : dist p q u l1 (a + 1) l2 (b + 1) =
    min (min (dist p q u l1 a l2 (b + 1) + 1) (dist p q u l1 (a + 1) l2 b + 1)) (dist p q u l1 (p a) l2 (q b) + dist p q u (p a) (a + 1) (q b) (b + 1)) := by
  have la := hp.le a ha
  have lb := hq.le b hb
  have e1 := dist_app (p := p) (q := q) (u := u) _ (l1 := l1) (m1 := p a) (h1 := a + 1) (l2 := l2) (m2 := q b) (h2 := b + 1) (Nat.le_refl _) h1 (by omega) h2 (by omega) (fun x h => hp.le x (by omega)) (fun x h => hq.le x (by omega)) (hp.closed ha) (hq.closed hb)
  have e2 := dist_mat (p := p) (q := q) (u := u) (l1 := p a) (a := a) (l2 := q b) (b := b) (Nat.le_refl _) la (Nat.le_refl _) lb
  rw [dist_l (l1 := p a) (h1 := p a) (Nat.le_refl _)] at e2
  have e3 := dist_step (p := p) (q := q) (u := u) (l1 := l1) (a := a) (l2 := l2) (b := b) h1 la h2 lb
  have e4 := dist_del (p := p) (q := q) (u := u) (l1 := l1) (a := a) (l2 := l2) (h2 := b + 1) (by omega)
  have e5 := dist_ins (p := p) (q := q) (u := u) (l1 := l1) (h1 := a + 1) (l2 := l2) (b := b) (by omega)
  omega
theorem dist_le : ∀ (n : Nat) {l1 h1 l2 h2 : Nat}, (h1 - l1) + (h2 - l2) ≤ n → dist p q u l1 h1 l2 h2 ≤ (h1 - l1) + (h2 - l2) ∧ h1 - l1 ≤ dist p q u l1 h1 l2 h2 + (h2 - l2) ∧ h2 - l2 ≤ dist p q u l1 h1 l2 h2 + (h1 - l1) := by
  intro n
  induction n with
  | zero =>
    intro l1 h1 l2 h2 hn
    rw [dist_l (by omega)]; omega
  | succ n ih =>
    intro l1 h1 l2 h2 hn
    by_cases e1 : h1 ≤ l1
    · rw [dist_l e1]; omega
    by_cases e2 : h2 ≤ l2
    · rw [dist_r e2]; omega
    obtain ⟨a, rfl⟩ : ∃ a, h1 = a + 1 := ⟨h1 - 1, by omega⟩
    obtain ⟨b, rfl⟩ : ∃ b, h2 = b + 1 := ⟨h2 - 1, by omega⟩
    have i1 := ih (l1 := l1) (h1 := a) (l2 := l2) (h2 := b + 1) (by omega)
    have i2 := ih (l1 := l1) (h1 := a + 1) (l2 := l2) (h2 := b) (by omega)
    rw [dist_succ (by omega) (by omega)]
    generalize hP : max l1 (min (p a) a) = P
    generalize hQ : max l2 (min (q b) b) = Q
    have i3 := ih (l1 := l1) (h1 := P) (l2 := l2) (h2 := Q) (by omega)
    have i4 := ih (l1 := P) (h1 := a) (l2 := Q) (h2 := b) (by omega)
    omega
/-- Places that are shifted. -/
theorem dist_shift {p q p' q' : Nat → Nat} {u u' : Nat → Nat → Nat} {s1 s2 : Nat} : ∀ (n : Nat) {l1 h1 l2 h2 : Nat}, (h1 - l1) + (h2 - l2) ≤ n → (∀ x, l1 ≤ x → x < h1 → p' (x + s1) = p x + s1) → (∀ x, l2 ≤ x → x < h2 → q' (x + s2) = q x + s2) →
    (∀ x y, l1 ≤ x → x < h1 → l2 ≤ y → y < h2 → u' (x + s1) (y + s2) = u x y) → dist p' q' u' (l1 + s1) (h1 + s1) (l2 + s2) (h2 + s2) = dist p q u l1 h1 l2 h2 := by
  intro n
  induction n with
  | zero =>
    intro l1 h1 l2 h2 hn _ _ _
    rw [dist_l (by omega), dist_l (by omega)]; omega
  | succ n ih =>
    intro l1 h1 l2 h2 hn ep eq eu
    by_cases e1 : h1 ≤ l1
    · rw [dist_l e1, dist_l (by omega)]; omega
    by_cases e2 : h2 ≤ l2
    · rw [dist_r e2, dist_r (by omega)]; omega
    obtain ⟨a, rfl⟩ : ∃ a, h1 = a + 1 := ⟨h1 - 1, by omega⟩
    obtain ⟨b, rfl⟩ : ∃ b, h2 = b + 1 := ⟨h2 - 1, by omega⟩
    have i1 := ih (l1 := l1) (h1 := a) (l2 := l2) (h2 := b + 1) (by omega) (fun x h h' => ep x h (by omega)) eq (fun x y h h' => eu x y h (by omega))
    have i2 := ih (l1 := l1) (h1 := a + 1) (l2 := l2) (h2 := b) (by omega) ep (fun x h h' => eq x h (by omega)) (fun x y h h' g g' => eu x y h h' g (by omega))
    rw [show a + 1 + s1 = a + s1 + 1 by omega, show b + 1 + s2 = b + s2 + 1 by omega] at *
    rw [dist_succ (p := p) (by omega) (by omega), dist_succ (p := p') (by omega) (by omega)]
    have ea := ep a (by omega) (by omega)
    have eb := eq b (by omega) (by omega)
    have hP' : max (l1 + s1) (min (p' (a + s1)) (a + s1)) = max l1 (min (p a) a) + s1 := by rw [ea]; omega
    have hQ' : max (l2 + s2) (min (q' (b + s2)) (b + s2)) = max l2 (min (q b) b) + s2 := by rw [eb]; omega
    rw [hP', hQ']
    generalize hP : max l1 (min (p a) a) = P
    generalize hQ : max l2 (min (q b) b) = Q
    have i3 := ih (l1 := l1) (h1 := P) (l2 := l2) (h2 := Q) (by omega) (fun x h h' => ep x h (by omega)) (fun x h h' => eq x h (by omega)) (fun x y h h' g g' => eu x y h (by omega) g (by omega))
    have i4 := ih (l1 := P) (h1 := a) (l2 := Q) (h2 := b) (by omega) (fun x h h' => ep x (by omega) (by omega)) (fun x h h' => eq x (by omega) (by omega)) (fun x y h h' g g' => eu x y (by omega) (by omega) (by omega) (by omega))
    rw [i1, i2, i3, i4, eu a b (by omega) (by omega) (by omega) (by omega)]
end Go.Cod

