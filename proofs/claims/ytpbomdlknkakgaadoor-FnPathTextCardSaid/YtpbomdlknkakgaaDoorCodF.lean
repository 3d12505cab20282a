/- Own texts. -/
import Derived.WalkKit
import Derived.ProofKit
import Derived.Test.YtpbomdlknkakgaaDoorCards
import Derived.Test.YtpbomdlknkakgaaDoorTie
import Derived.LaidMore
import Derived.LaidOnce
import Derived.SevenTiedAt
import Derived.Test.YtpbomdlknkakgaaDoorCodE
namespace Go.Cod
open Go Go.Proofs
set_option maxRecDepth 10000

mutual
/-- Where something may be put at a place. -/
def T.PutOk (x : Int) (n : Nat) : T → Prop
  | .mk id _ _ kids => if id = x then n ≤ kids.length else T.PutOkL x n kids
def T.PutOkL (x : Int) (n : Nat) : List T → Prop
  | [] => True
  | t :: ts => T.PutOk x n t ∧ T.PutOkL x n ts
end
theorem T.PutOkL_mem {x : Int} {n : Nat} {ts : List T} (h : T.PutOkL x n ts) : ∀ t ∈ ts, T.PutOk x n t := by
  induction ts with
  | nil => simp
  | cons t ts ih =>
    intro y hy
    rcases List.mem_cons.1 hy with rfl | hy
    · exact h.1
    · exact ih h.2 y hy
theorem T.mapAtL_len (x : Int) (f : T → T) (ts : List T) : (T.mapAtL x f ts).length = ts.length := by rw [T.mapAtL_eq, List.length_map]
theorem T.mapAtL_rows (x : Int) (f : T → T) (ts : List T) (i : Nat) (h : i < ts.length) : T.rows ((T.mapAtL x f ts).take (i + 1)) = T.rows ((T.mapAtL x f ts).take i) ++ [(ts[i].mapAt x f).cells] := by
  rw [T.mapAtL_eq, T.rows_eq, T.rows_eq, List.take_succ_eq_append_getElem (by simpa using h), List.map_append]
  simp
theorem T.rows_put (n : Nat) (y : T) (ts : List T) : T.rows (ts.take n ++ y :: ts.drop n) = (T.rows ts).take n ++ y.cells :: (T.rows ts).drop n := by
  simp only [T.rows_eq, List.map_append, List.map_cons, List.map_take, List.map_drop]
set_option maxHeartbeats 4000000 in
theorem l4Put_at (t : T) (ht : t.Small) (x : Int) (n : Nat) (y : T) (hid : t.id = x) (hn : n ≤ t.kids.length) :
    Pure Tryd.prog 60 [.agg t.cells, .int .i64 x, .int .i64 n, .agg y.cells] (· = .agg (putKidT n y t).cells) := by
  cases ht with
  | @mk id kind text kids g1 g2 g3 g4 g5 =>
  cases y with
  | mk yi yk yx yks =>
  simp only [T.id] at hid
  simp only [T.kids] at hn
  subst hid
  have hlr := Go.Cod.rows_len kids
  have hw := T.rows_wid kids
  have hput := T.rows_put n (.mk yi yk yx yks) kids
  refine pure_of_awp good Tryd.func60 rfl (by kernel_rfl) (by decide) ?_
  conv => whnf
  rw [eqB_refl]
  conv => whnf
  refine ⟨hw, by omega, by show n ≤ (T.rows kids).length; omega, ?_⟩
  conv => whnf
  have hA : (T.rows kids).take (n : Int).toNat = (T.rows kids).take n := rfl
  have hB : (((T.rows kids).take (T.rows kids).length).drop (n : Int).toNat) = (T.rows kids).drop n := by rw [List.take_length]; rfl
  have hAl : ((T.rows kids).take n).length = n := by rw [List.length_take]; omega
  have hBl : ((T.rows kids).drop n).length = kids.length - n := by rw [List.length_drop]; omega
  have hBw : ∀ r ∈ (T.rows kids).drop n, r.length = 4 := fun r hr => hw r (List.mem_of_mem_drop hr)
  rw [← hA] at hput hAl
  rw [← hB] at hput hBl hBw
  refine ⟨fun m hm => hw m (List.mem_of_mem_take hm), by show ((T.rows kids).take (n : Int).toNat).length * 64 ≤ _; omega, ?_⟩
  generalize (T.rows kids).take (n : Int).toNat = A at *
  cases A with
  | nil =>
    refine .inl ⟨rfl, ?_⟩
    conv => whnf
    refine ⟨fun m hm => by rw [List.mem_singleton.1 hm]; rfl, ?_⟩
    conv => whnf
    refine ⟨by show 1 * 64 ≤ _; omega, .inr ⟨(by intro e; cases e), ?_⟩⟩
    conv => whnf
    refine ⟨hw, by omega, by show n ≤ (T.rows kids).length; omega, ?_⟩
    conv => whnf
    refine ⟨hBw, ?_⟩
    conv => whnf
    refine ⟨by show (1 + (((T.rows kids).take (T.rows kids).length).drop (n : Int).toNat).length) * 64 ≤ _; omega, ?_⟩
    conv => whnf
    simp only [putKidT, T.cells]
    rw [hput]
    rfl
  | cons a A =>
    refine .inr ⟨by simp, ?_⟩
    conv => whnf
    refine ⟨fun m hm => by rw [List.mem_singleton.1 hm]; rfl, ?_⟩
    conv => whnf
    refine ⟨by show ((a :: A).length + 1) * 64 ≤ _; omega, ?_⟩
    conv => whnf
    refine ⟨hw, by omega, by show n ≤ (T.rows kids).length; omega, ?_⟩
    conv => whnf
    refine ⟨hBw, ?_⟩
    conv => whnf
    refine ⟨by
      simp only [List.length_append, List.length_map, List.length_drop, List.length_cons, List.length_nil, List.length_take] at hAl hBl ⊢
      show (A.length + 1 + (0 + 1) + _) * 64 ≤ _
      omega, ?_⟩
    conv => whnf
    simp only [putKidT, T.cells]
    rw [hput, show ∀ (c : List V) (B : List (List V)), a :: A ++ c :: B = (a :: A ++ [c]) ++ B by simp]
    rfl
theorem l4Put_in1 (t : T) (ht : t.Small) (x : Int) (n : Nat) (y : T) (hid : ¬ t.id = x) (hT : ∀ t' ∈ t.kids, Pure Tryd.prog 60 [.agg t'.cells, .int .i64 x, .int .i64 n, .agg y.cells] (· = .agg (t'.mapAt x (putKidT n y)).cells)) :
    Pure Tryd.prog 60 [.agg t.cells, .int .i64 x, .int .i64 n, .agg y.cells] (· = .agg (t.mapAt x (putKidT n y)).cells) := by
  cases ht with
  | @mk id kind text kids g1 g2 g3 g4 g5 =>
  simp only [T.kids] at hT
  simp only [T.id] at hid
  simp only [T.mapAt, if_neg hid]
  have hlr := Go.Cod.rows_len kids
  have hrow := T.mapAtL_rows x (putKidT n y) kids
  have hlen := T.mapAtL_len x (putKidT n y) kids
  generalize T.mapAtL x (putKidT n y) kids = ks at *
  generalize hf : T.mapAt x (putKidT n y) = f at *
  cases y with
  | mk yi yk yx yks =>
  refine pure_of_awp good Tryd.func60 rfl (by kernel_rfl) (by decide) ?_
  conv => whnf
  rw [eqB_f hid]
  conv => whnf
  refine loop_drop (fun m fr st => ∃ i : Nat, m + i = kids.length ∧
      ((i = 0 ∧ Holds fr [(1, .int .i64 x), (2, .int .i64 n), (4, .ptr 0 0 0), (7, .ptr 1 0 0), (8, .ptr 2 0 0), (10, .nils), (11, .int .i64 0)] ∧ st = [⟨[[.int .i64 id, .str kind, .str text, .sl (T.rows kids)]], 4, true, true, true, .cell⟩, ⟨[[.int .i64 yi, .str yk, .str yx, .sl (T.rows yks)]], 4, true, true, true, .cell⟩, ⟨[zrow], 4, true, true, true, .cell⟩]) ∨
       (0 < i ∧ Holds fr [(1, .int .i64 x), (2, .int .i64 n), (4, .ptr 0 0 0), (7, .ptr 1 0 0), (8, .ptr 2 0 0), (10, .own 3), (11, .int .i64 i)] ∧ st = [⟨[[.int .i64 id, .str kind, .str text, .sl (T.rows kids)]], 4, true, true, true, .cell⟩, ⟨[[.int .i64 yi, .str yk, .str yx, .sl (T.rows yks)]], 4, true, true, true, .cell⟩, ⟨[zrow], 4, true, true, true, .cell⟩, ⟨T.rows (ks.take i), 4, true, true, false, .cell⟩]))) kids.length none
    ⟨0, rfl, .inl ⟨rfl, ⟨rfl, rfl, rfl, rfl, rfl, rfl, rfl, trivial⟩, rfl⟩⟩ ?_
  rintro m fr st ⟨i, hi, ⟨rfl, hh, rfl⟩ | ⟨hi0, hh, rfl⟩⟩
  · obtain ⟨fr, rfl⟩ := hh.split
    clear hh
    conv => whnf
    by_cases hlt : 0 < kids.length
    · rw [hlr, ltB_t (by omega)]
      have hc := hT kids[0] (List.getElem_mem _)
      have htk := hrow 0 hlt
      have hg := Go.Cod.rows_get kids 0 hlt
      generalize kids[0] = t at hc htk hg
      generalize f t = ft at hc htk
      cases t with
      | mk id' kind' text' kids' =>
      cases ft with
      | mk fi fk fx fks =>
      conv => whnf
      refine ⟨by omega, T.rows kids, _, 4, rfl, hg, rfl, rfl, ?_⟩
      conv => whnf
      refine ⟨_, .inl hc, ?_⟩
      conv => whnf
      refine ⟨fun m hm => by rw [List.mem_singleton.1 hm]; rfl, ?_⟩
      conv => whnf
      refine ⟨by show 1 * 64 ≤ _; omega, .inr ⟨(by intro e; cases e), ?_⟩⟩
      conv => whnf
      refine ⟨m - 1, by omega, some [0, 1, 2, 4], ?_⟩
      conv => whnf
      refine ⟨1, by omega, .inr ⟨by omega, ⟨rfl, rfl, rfl, rfl, rfl, rfl, rfl, trivial⟩, ?_⟩⟩
      rw [htk]
      rfl
    · rw [hlr, ltB_f (by omega)]
      conv => whnf
      have : kids = [] := List.eq_nil_of_length_eq_zero (by omega)
      subst this
      have : ks = [] := List.eq_nil_of_length_eq_zero hlen
      subst this
      rfl
  · obtain ⟨fr, rfl⟩ := hh.split
    clear hh
    conv => whnf
    by_cases hlt : i < kids.length
    · rw [hlr, ltB_t (by omega)]
      have hc := hT kids[i] (List.getElem_mem _)
      have htk := hrow i hlt
      have hg := Go.Cod.rows_get kids i hlt
      generalize kids[i] = t at hc htk hg
      generalize f t = ft at hc htk
      cases t with
      | mk id' kind' text' kids' =>
      cases ft with
      | mk fi fk fx fks =>
      conv => whnf
      refine ⟨by omega, T.rows kids, _, 4, rfl, hg, rfl, rfl, ?_⟩
      conv => whnf
      refine ⟨_, .inl hc, ?_⟩
      conv => whnf
      refine ⟨fun m hm => by rw [List.mem_singleton.1 hm]; rfl, ?_⟩
      conv => whnf
      refine ⟨by
        show ((T.rows (ks.take i)).length + 1) * 64 ≤ _
        rw [Go.Cod.rows_len, List.length_take]; omega, ?_⟩
      conv => whnf
      refine ⟨m - 1, by omega, some [0, 1, 2, 5], ?_⟩
      conv => whnf
      refine ⟨i + 1, by omega, .inr ⟨by omega, ⟨rfl, rfl, rfl, rfl, rfl, rfl, ?_, trivial⟩, ?_⟩⟩
      · show V.int .i64 (IntKind.i64.wrap (i + 1)) = _
        rw [wrap64 (by omega) (by omega)]; simp
      · rw [htk]
        rfl
    · rw [hlr, ltB_f (by omega)]
      conv => whnf
      rw [List.take_of_length_le (by omega)]
      rfl
theorem l4Put_pure (t : T) (ht : t.Small) (x : Int) (n : Nat) (y : T) (hp : t.PutOk x n) : Pure Tryd.prog 60 [.agg t.cells, .int .i64 x, .int .i64 n, .agg y.cells] (· = .agg (t.mapAt x (putKidT n y)).cells) := by
  induction ht with
  | @mk id kind text kids g1 g2 g3 g4 g5 ih =>
    simp only [T.PutOk] at hp
    by_cases hid : id = x
    · rw [if_pos hid] at hp
      have := l4Put_at (.mk id kind text kids) (.mk g1 g2 g3 g4 g5) x n y hid hp
      simp only [T.mapAt, if_pos hid]
      exact this
    · rw [if_neg hid] at hp
      exact l4Put_in1 _ (.mk g1 g2 g3 g4 g5) x n y hid fun t' h => ih t' h (T.PutOkL_mem hp t' h)
theorem l4Set_at (t : T) (ht : t.Small) (x : Int) (k w : List UInt8) (hid : t.id = x) : Pure Tryd.prog 62 [.agg t.cells, .int .i64 x, .str k, .str w] (· = .agg (setT k w t).cells) := by
  cases ht with
  | @mk id kind text kids g1 g2 g3 g4 g5 =>
  simp only [T.id] at hid
  subst hid
  refine pure_of_awp good Tryd.func62 rfl (by kernel_rfl) (by decide) ?_
  conv => whnf
  rw [eqB_refl]
  conv => whnf
  rfl
theorem l4Set_in1 (t : T) (ht : t.Small) (x : Int) (k w : List UInt8) (hid : ¬ t.id = x) (hT : ∀ t' ∈ t.kids, Pure Tryd.prog 62 [.agg t'.cells, .int .i64 x, .str k, .str w] (· = .agg (t'.mapAt x (setT k w)).cells)) :
    Pure Tryd.prog 62 [.agg t.cells, .int .i64 x, .str k, .str w] (· = .agg (t.mapAt x (setT k w)).cells) := by
  cases ht with
  | @mk id kind text kids g1 g2 g3 g4 g5 =>
  simp only [T.kids] at hT
  simp only [T.id] at hid
  simp only [T.mapAt, if_neg hid]
  have hlr := Go.Cod.rows_len kids
  have hrow := T.mapAtL_rows x (setT k w) kids
  have hlen := T.mapAtL_len x (setT k w) kids
  generalize T.mapAtL x (setT k w) kids = ks at *
  generalize hf : T.mapAt x (setT k w) = f at *
  refine pure_of_awp good Tryd.func62 rfl (by kernel_rfl) (by decide) ?_
  conv => whnf
  rw [eqB_f hid]
  conv => whnf
  refine loop_drop (fun m fr st => ∃ i : Nat, m + i = kids.length ∧
      ((i = 0 ∧ Holds fr [(1, .int .i64 x), (2, .str k), (3, .str w), (4, .ptr 0 0 0), (8, .ptr 1 0 0), (9, .nils), (10, .int .i64 0)] ∧ st = [⟨[[.int .i64 id, .str kind, .str text, .sl (T.rows kids)]], 4, true, true, true, .cell⟩, ⟨[zrow], 4, true, true, true, .cell⟩]) ∨
       (0 < i ∧ Holds fr [(1, .int .i64 x), (2, .str k), (3, .str w), (4, .ptr 0 0 0), (8, .ptr 1 0 0), (9, .own 2), (10, .int .i64 i)] ∧ st = [⟨[[.int .i64 id, .str kind, .str text, .sl (T.rows kids)]], 4, true, true, true, .cell⟩, ⟨[zrow], 4, true, true, true, .cell⟩, ⟨T.rows (ks.take i), 4, true, true, false, .cell⟩]))) kids.length none
    ⟨0, rfl, .inl ⟨rfl, ⟨rfl, rfl, rfl, rfl, rfl, rfl, rfl, trivial⟩, rfl⟩⟩ ?_
  rintro m fr st ⟨i, hi, ⟨rfl, hh, rfl⟩ | ⟨hi0, hh, rfl⟩⟩
  · obtain ⟨fr, rfl⟩ := hh.split
    clear hh
    conv => whnf
    by_cases hlt : 0 < kids.length
    · rw [hlr, ltB_t (by omega)]
      have hc := hT kids[0] (List.getElem_mem _)
      have htk := hrow 0 hlt
      have hg := Go.Cod.rows_get kids 0 hlt
      generalize kids[0] = t at hc htk hg
      generalize f t = ft at hc htk
      cases t with
      | mk id' kind' text' kids' =>
      cases ft with
      | mk fi fk fx fks =>
      conv => whnf
      refine ⟨by omega, T.rows kids, _, 4, rfl, hg, rfl, rfl, ?_⟩
      conv => whnf
      refine .inl (hc.mono ?_)
      rintro r rfl
      conv => whnf
      refine ⟨fun m hm => by rw [List.mem_singleton.1 hm]; rfl, ?_⟩
      conv => whnf
      refine ⟨by show 1 * 64 ≤ _; omega, .inr ⟨(by intro e; cases e), ?_⟩⟩
      conv => whnf
      refine ⟨m - 1, by omega, some [0, 1, 3], ?_⟩
      conv => whnf
      refine ⟨1, by omega, .inr ⟨by omega, ⟨rfl, rfl, rfl, rfl, rfl, rfl, rfl, trivial⟩, ?_⟩⟩
      rw [htk]
      rfl
    · rw [hlr, ltB_f (by omega)]
      conv => whnf
      have : kids = [] := List.eq_nil_of_length_eq_zero (by omega)
      subst this
      have : ks = [] := List.eq_nil_of_length_eq_zero hlen
      subst this
      rfl
  · obtain ⟨fr, rfl⟩ := hh.split
    clear hh
    conv => whnf
    by_cases hlt : i < kids.length
    · rw [hlr, ltB_t (by omega)]
      have hc := hT kids[i] (List.getElem_mem _)
      have htk := hrow i hlt
      have hg := Go.Cod.rows_get kids i hlt
      generalize kids[i] = t at hc htk hg
      generalize f t = ft at hc htk
      cases t with
      | mk id' kind' text' kids' =>
      cases ft with
      | mk fi fk fx fks =>
      conv => whnf
      refine ⟨by omega, T.rows kids, _, 4, rfl, hg, rfl, rfl, ?_⟩
      conv => whnf
      refine .inl (hc.mono ?_)
      rintro r rfl
      conv => whnf
      refine ⟨fun m hm => by rw [List.mem_singleton.1 hm]; rfl, ?_⟩
      conv => whnf
      refine ⟨by
        show ((T.rows (ks.take i)).length + 1) * 64 ≤ _
        rw [Go.Cod.rows_len, List.length_take]; omega, ?_⟩
      conv => whnf
      refine ⟨m - 1, by omega, some [0, 1, 4], ?_⟩
      conv => whnf
      refine ⟨i + 1, by omega, .inr ⟨by omega, ⟨rfl, rfl, rfl, rfl, rfl, rfl, ?_, trivial⟩, ?_⟩⟩
      · show V.int .i64 (IntKind.i64.wrap (i + 1)) = _
        rw [wrap64 (by omega) (by omega)]; simp
      · rw [htk]
        rfl
    · rw [hlr, ltB_f (by omega)]
      conv => whnf
      rw [List.take_of_length_le (by omega)]
      rfl
theorem l4Set_pure (t : T) (ht : t.Small) (x : Int) (k w : List UInt8) : Pure Tryd.prog 62 [.agg t.cells, .int .i64 x, .str k, .str w] (· = .agg (t.mapAt x (setT k w)).cells) := by
  induction ht with
  | @mk id kind text kids g1 g2 g3 g4 g5 ih =>
    by_cases hid : id = x
    · have := l4Set_at (.mk id kind text kids) (.mk g1 g2 g3 g4 g5) x k w hid
      simp only [T.mapAt, if_pos hid]
      exact this
    · exact l4Set_in1 _ (.mk g1 g2 g3 g4 g5) x k w hid ih
end Go.Cod

namespace Go.Cod
open Go Go.Proofs
set_option maxRecDepth 10000

theorem rows_snocT (l : List T) (t : T) : T.rows (l ++ [t]) = T.rows l ++ [t.cells] := by rw [T.rows_eq, T.rows_eq]; simp
theorem cutL_take (x : Int) (ts : List T) (i : Nat) (h : i < ts.length) : T.cutL x (ts.take (i + 1)) = if ts[i].id = x then T.cutL x (ts.take i) else T.cutL x (ts.take i) ++ [ts[i].cut x] := by
  rw [List.take_succ_eq_append_getElem h, T.cutL_append]
  simp only [T.cutL]
  split <;> simp
theorem l4Cut_pure1 (t : T) (ht : t.Small) (x : Int) (hT : ∀ t' ∈ t.kids, Pure Tryd.prog 61 [.agg t'.cells, .int .i64 x] (· = .agg (t'.cut x).cells)) :
    Pure Tryd.prog 61 [.agg t.cells, .int .i64 x] (· = .agg (t.cut x).cells) := by
  cases ht with
  | @mk id kind text kids g1 g2 g3 g4 g5 =>
  simp only [T.kids] at hT
  have hlr := Go.Cod.rows_len kids
  refine pure_of_awp good Tryd.func61 rfl (by kernel_rfl) (by decide) ?_
  conv => whnf
  refine loop_drop (fun m fr st => ∃ i : Nat, m + i = kids.length ∧
      ((T.cutL x (kids.take i) = [] ∧ Holds fr [(1, .int .i64 x), (2, .ptr 0 0 0), (4, .ptr 1 0 0), (5, .nils), (6, .int .i64 i)] ∧ st = [⟨[[.int .i64 id, .str kind, .str text, .sl (T.rows kids)]], 4, true, true, true, .cell⟩, ⟨[zrow], 4, true, true, true, .cell⟩]) ∨
       (T.cutL x (kids.take i) ≠ [] ∧ Holds fr [(1, .int .i64 x), (2, .ptr 0 0 0), (4, .ptr 1 0 0), (5, .own 2), (6, .int .i64 i)] ∧ st = [⟨[[.int .i64 id, .str kind, .str text, .sl (T.rows kids)]], 4, true, true, true, .cell⟩, ⟨[zrow], 4, true, true, true, .cell⟩, ⟨T.rows (T.cutL x (kids.take i)), 4, true, true, false, .cell⟩]))) kids.length none
    ⟨0, rfl, .inl ⟨rfl, ⟨rfl, rfl, rfl, rfl, rfl, trivial⟩, rfl⟩⟩ ?_
  rintro m fr st ⟨i, hi, ⟨he, hh, rfl⟩ | ⟨he, hh, rfl⟩⟩
  · obtain ⟨fr, rfl⟩ := hh.split
    clear hh
    conv => whnf
    by_cases hlt : i < kids.length
    · rw [hlr, ltB_t (by omega)]
      have hc := hT kids[i] (List.getElem_mem _)
      have htk := cutL_take x kids i hlt
      have hg := Go.Cod.rows_get kids i hlt
      have hle := T.cutL_len x (kids.take i)
      rw [List.length_take] at hle
      have w1 : V.int .i64 (IntKind.i64.wrap (i + 1)) = .int .i64 ((i + 1 : Nat) : Int) := by rw [wrap64 (by omega) (by omega)]; simp
      generalize kids[i] = t at hc htk hg
      generalize hct : T.cut x t = ft at hc htk
      cases t with
      | mk id' kind' text' kids' =>
      conv => whnf
      refine ⟨by omega, T.rows kids, _, 4, rfl, hg, rfl, rfl, ?_⟩
      conv => whnf
      by_cases hx : id' = x
      · rw [eqB_t hx]
        conv => whnf
        have htk : T.cutL x (kids.take (i + 1)) = T.cutL x (kids.take i) := by rw [htk, if_pos (show (T.mk id' kind' text' kids').id = x from hx)]
        refine ⟨m - 1, by omega, none, ?_⟩
        conv => whnf
        refine ⟨i + 1, by omega, .inl ⟨by rw [htk]; exact he, ⟨rfl, rfl, rfl, rfl, w1, trivial⟩, rfl⟩⟩
      · rw [eqB_f hx]
        conv => whnf
        have htk : T.cutL x (kids.take (i + 1)) = T.cutL x (kids.take i) ++ [ft] := by rw [htk, if_neg (show ¬ (T.mk id' kind' text' kids').id = x from hx)]
        cases ft with
        | mk fi fk fx fks =>
        refine ⟨by omega, T.rows kids, _, 4, rfl, hg, rfl, rfl, ?_⟩
        conv => whnf
        refine .inl (hc.mono ?_)
        rintro r rfl
        conv => whnf
        refine ⟨fun m hm => by rw [List.mem_singleton.1 hm]; rfl, ?_⟩
        conv => whnf
        refine ⟨by show 1 * 64 ≤ _; omega, .inr ⟨(by intro e; cases e), ?_⟩⟩
        conv => whnf
        refine ⟨m - 1, by omega, some [0, 1, 3], ?_⟩
        conv => whnf
        refine ⟨i + 1, by omega, .inr ⟨by rw [htk]; simp, ⟨rfl, rfl, rfl, rfl, w1, trivial⟩, ?_⟩⟩
        rw [htk, he]
        rfl
    · rw [hlr, ltB_f (by omega)]
      conv => whnf
      rw [List.take_of_length_le (by omega)] at he
      simp only [T.cut, T.cells]; rw [he]
      rfl
  · obtain ⟨fr, rfl⟩ := hh.split
    clear hh
    conv => whnf
    by_cases hlt : i < kids.length
    · rw [hlr, ltB_t (by omega)]
      have hc := hT kids[i] (List.getElem_mem _)
      have htk := cutL_take x kids i hlt
      have hg := Go.Cod.rows_get kids i hlt
      have hle := T.cutL_len x (kids.take i)
      rw [List.length_take] at hle
      have w1 : V.int .i64 (IntKind.i64.wrap (i + 1)) = .int .i64 ((i + 1 : Nat) : Int) := by rw [wrap64 (by omega) (by omega)]; simp
      generalize kids[i] = t at hc htk hg
      generalize hct : T.cut x t = ft at hc htk
      cases t with
      | mk id' kind' text' kids' =>
      conv => whnf
      refine ⟨by omega, T.rows kids, _, 4, rfl, hg, rfl, rfl, ?_⟩
      conv => whnf
      by_cases hx : id' = x
      · rw [eqB_t hx]
        conv => whnf
        have htk : T.cutL x (kids.take (i + 1)) = T.cutL x (kids.take i) := by rw [htk, if_pos (show (T.mk id' kind' text' kids').id = x from hx)]
        refine ⟨m - 1, by omega, none, ?_⟩
        conv => whnf
        refine ⟨i + 1, by omega, .inr ⟨by rw [htk]; exact he, ⟨rfl, rfl, rfl, rfl, w1, trivial⟩, by rw [htk]; rfl⟩⟩
      · rw [eqB_f hx]
        conv => whnf
        have htk : T.cutL x (kids.take (i + 1)) = T.cutL x (kids.take i) ++ [ft] := by rw [htk, if_neg (show ¬ (T.mk id' kind' text' kids').id = x from hx)]
        cases ft with
        | mk fi fk fx fks =>
        refine ⟨by omega, T.rows kids, _, 4, rfl, hg, rfl, rfl, ?_⟩
        conv => whnf
        refine .inl (hc.mono ?_)
        rintro r rfl
        conv => whnf
        refine ⟨fun m hm => by rw [List.mem_singleton.1 hm]; rfl, ?_⟩
        conv => whnf
        refine ⟨by
          show ((T.rows (T.cutL x (kids.take i))).length + 1) * 64 ≤ _
          rw [Go.Cod.rows_len]; omega, ?_⟩
        conv => whnf
        refine ⟨m - 1, by omega, some [0, 1, 4], ?_⟩
        conv => whnf
        refine ⟨i + 1, by omega, .inr ⟨by rw [htk]; simp, ⟨rfl, rfl, rfl, rfl, w1, trivial⟩, ?_⟩⟩
        rw [htk, rows_snocT]
        rfl
    · rw [hlr, ltB_f (by omega)]
      conv => whnf
      rw [List.take_of_length_le (by omega)]
      
      rfl
theorem l4Cut_pure (t : T) (ht : t.Small) (x : Int) : Pure Tryd.prog 61 [.agg t.cells, .int .i64 x] (· = .agg (t.cut x).cells) := by
  induction ht with
  | @mk id kind text kids g1 g2 g3 g4 g5 ih => exact l4Cut_pure1 _ (.mk g1 g2 g3 g4 g5) x ih
end Go.Cod

namespace Go.Cod
open Go Go.Proofs
set_option maxRecDepth 10000

theorem bareT_none {kind sid at_ : Int} {node : T} {text : List UInt8} {b : Bool} (hb : noneT node = b) : bareT ⟨kind, sid, at_, node, text⟩ = if kind = 1 then decide (text = []) else if kind = 2 then b && decide (text = []) && decide (at_ = 0) else b && decide (at_ = 0) := by
  unfold bareT
  simp only [hb]
set_option maxHeartbeats 4000000 in
theorem l4Bare_pure (s : Stp) : Pure Tryd.prog 59 [.agg s.cells] (· = .bool (bareT s)) := by
  cases s with
  | mk kind sid at_ node text =>
  cases node with
  | mk nid nk nx nks =>
  have hl : ((T.rows nks).length : Int) = (nks.length : Int) := by rw [Go.Cod.rows_len]
  refine pure_of_awp good Tryd.func59 rfl (by kernel_rfl) (by decide) ?_
  conv => whnf
  by_cases h1 : nid = 0
  rotate_left
  rw [eqB_f h1]
  rw [bareT_none (b := false) (by simp only [noneT]; simp [h1])]
  rotate_right
  rw [eqB_t h1]
  conv => whnf
  by_cases h2 : nk = []
  rotate_left
  rw [eqS_f h2]
  rw [bareT_none (b := false) (by simp only [noneT]; simp [h2])]
  rotate_right
  rw [eqS_t h2]
  conv => whnf
  by_cases h3 : nx = []
  rotate_left
  rw [eqS_f h3]
  rw [bareT_none (b := false) (by simp only [noneT]; simp [h3])]
  rotate_right
  rw [eqS_t h3]
  conv => whnf
  by_cases h4 : (T.rows nks).length = 0
  rotate_left
  rw [eqB_f (show ((T.rows nks).length : Int) ≠ 0 by omega)]
  rw [bareT_none (b := false) (by simp only [noneT]; simp [h1, h2, h3]; intro e; subst e; exact h4 rfl)]
  rotate_right
  rw [eqB_t (show ((T.rows nks).length : Int) = 0 by omega)]
  rw [bareT_none (b := true) (by simp only [noneT]; simp [h1, h2, h3]; exact List.eq_nil_of_length_eq_zero (by omega))]
  all_goals
    conv => whnf
    by_cases k1 : kind = 1
    · rw [eqB_t k1, if_pos k1]
      conv => whnf
      exact congrArg V.bool (eqS_def _ _)
    · rw [eqB_f k1, if_neg k1]
      conv => whnf
      by_cases k2 : kind = 2
      · rw [eqB_t k2, if_pos k2]
        conv => whnf
        first
          | rfl
          | (by_cases k3 : text = []
             · rw [eqS_t k3]
               conv => whnf
               refine congrArg V.bool ((eqB_def _ _).trans ?_)
               simp [k3]
             · rw [eqS_f k3]
               conv => whnf
               simp [k3])
      · rw [eqB_f k2, if_neg k2]
        conv => whnf
        first
          | rfl
          | (refine congrArg V.bool ((eqB_def _ _).trans ?_)
             simp)
end Go.Cod

namespace Go.Cod
open Go Go.Proofs
set_option maxRecDepth 10000

mutual
theorem putOk_none (x : Int) (n : Nat) : ∀ t : T, x ∉ t.ids → t.PutOk x n
  | .mk id kind text kids, h => by
    simp only [T.ids, List.mem_cons, not_or] at h
    simp only [T.PutOk, if_neg (Ne.symm h.1)]
    exact putOkL_none x n kids h.2
theorem putOkL_none (x : Int) (n : Nat) : ∀ ts : List T, x ∉ T.idsL ts → T.PutOkL x n ts
  | [], _ => trivial
  | t :: ts, h => by
    simp only [T.idsL, List.mem_append, not_or] at h
    exact ⟨putOk_none x n t h.1, putOkL_none x n ts h.2⟩
end
mutual
theorem putOk_found (x : Int) (n : Nat) : ∀ (t s : T), t.ids.Nodup → fT t x = some s → n ≤ s.kids.length → t.PutOk x n
  | .mk id kind text kids, s, hn, hf, hl => by
    simp only [T.ids, List.nodup_cons] at hn
    simp only [fT] at hf
    simp only [T.PutOk]
    split
    · rename_i h
      rw [if_pos h, Option.some.injEq] at hf
      subst hf; exact hl
    · rename_i h
      rw [if_neg h] at hf
      exact putOkL_found x n kids s hn.2 hf hl
theorem putOkL_found (x : Int) (n : Nat) : ∀ (ts : List T) (s : T), (T.idsL ts).Nodup → fL ts x = some s → n ≤ s.kids.length → T.PutOkL x n ts
  | [], _, _, hf, _ => by simp [fL] at hf
  | t :: ts, s, hn, hf, hl => by
    simp only [T.idsL, List.nodup_append] at hn
    simp only [fL] at hf
    cases h1 : fT t x with
    | some s' =>
      rw [h1, Option.some.injEq] at hf
      subst hf
      have hx : x ∈ t.ids := by
        refine Decidable.byContradiction fun h => ?_
        rw [(fT_none t x).2 h] at h1; cases h1
      exact ⟨putOk_found x n t s' hn.1 h1 hl, putOkL_none x n ts fun h => hn.2.2 x hx x h rfl⟩
    | none =>
      rw [h1] at hf
      exact ⟨putOk_none x n t ((fT_none t x).1 h1), putOkL_found x n ts s hn.2.1 hf hl⟩
end
def okO (y : T) : Option T := if okT y = true then some y else none
def doR (t : T) : Option T → V
  | some y => .tup [.agg y.cells, .bool true]
  | none => .tup [.agg t.cells, .bool false]
theorem okT_size {t : T} (h : okT t = true) : t.size ≤ 20 := by
  have := ((okT_iff' t).1 h).2.2
  rwa [T.ids_size] at this
theorem doT_none {t : T} {s : Stp} (h : editT t s = none) : doT t s = none := by unfold doT; rw [h]
theorem doT_some {t y : T} {s : Stp} (h : editT t s = some y) : doT t s = okO y := by unfold doT okO; rw [h]
end Go.Cod

namespace Go.Cod
open Go Go.Proofs
set_option maxRecDepth 10000

theorem okO_some {y z : T} (h : okO y = some z) : y = z ∧ okT y = true := by
  unfold okO at h
  split at h
  · rename_i h1
    exact ⟨Option.some.inj h, h1⟩
  · cases h
theorem doT_ok {t : T} {s : Stp} {y : T} (h : doT t s = some y) : editT t s = some y ∧ okT y = true := by
  unfold doT at h
  cases he : editT t s with
  | none => rw [he] at h; cases h
  | some z =>
    rw [he] at h
    obtain ⟨rfl, h2⟩ := okO_some h
    exact ⟨rfl, h2⟩
theorem editT_small {t : T} {s : Stp} {y : T} (ht : t.Small) (hz : t.size ≤ 1000000) (hs : s.node.Small) (htx : s.text.length ≤ 1048576) (h : editT t s = some y) : y.Small := by
  have hsm := fun x => fT_small t s.id ht x
  unfold editT at h
  cases hf : fT t s.id with
  | none => rw [hf] at h; cases h
  | some x =>
    rw [hf] at h
    have hx := hsm x hf
    have hxk : x.kind.length ≤ 1048576 ∧ x.text.length ≤ 1048576 := by
      cases hx with
      | mk g1 g2 g3 g4 g5 => exact ⟨g2, g3⟩
    simp only at h
    split at h
    · cases h
    split at h
    · split at h
      · cases h
        exact T.mapAt_small _ _ 1000000 (fun y h1 _ h2 => putKidT_small _ s.node y h1 hs h2) t ht hz
      · cases h
    split at h
    · split at h
      · cases h
      · cases h
        exact (T.cut_small s.id t ht).1
    split at h
    · cases h
      exact T.mapAt_small _ _ 1000000 (fun y h1 _ _ => setT_small _ _ y h1 hxk.1 htx) t ht hz
    split at h
    · cases h
      exact T.mapAt_small _ _ 1000000 (fun y h1 _ _ => setT_small _ _ y h1 htx hxk.2) t ht hz
    · cases h
end Go.Cod

namespace Go.Cod
open Go Go.Proofs
set_option maxRecDepth 10000

end Go.Cod

namespace Go.Cod
open Go Go.Proofs
set_option maxRecDepth 10000

/-- The block of what is in a thing behind an insertion: its own, or another one. -/
def hdr (inp : Bool) (p : Nat × Nat) (h : Option (Nat × Nat)) : Nat × Nat := match inp, h with
  | true, some q => q
  | _, _ => p

end Go.Cod

namespace Go.Cod
open Go Go.Proofs
set_option maxRecDepth 10000

end Go.Cod

namespace Go.Cod
open Go Go.Proofs
set_option maxRecDepth 10000

end Go.Cod

namespace Go.Cod
open Go Go.Proofs
set_option maxRecDepth 10000

/- The other deeds, in the same form. -/
end Go.Cod

namespace Go.Cod
open Go Go.Proofs
set_option maxRecDepth 10000

end Go.Cod

namespace Go.Cod
open Go Go.Proofs
set_option maxRecDepth 10000

end Go.Cod

namespace Go.Cod
open Go Go.Proofs
set_option maxRecDepth 10000

end Go.Cod

namespace Go.Cod
open Go Go.Proofs
set_option maxRecDepth 10000

end Go.Cod

namespace Go.Cod
open Go Go.Proofs Go.ChangeShapes Go.WideShapes Go.ChangeAt Go.RowKit
set_option maxRecDepth 10000

/- Steps as arguments. -/
structure Stp.Ok (s : Stp) : Prop where
  k : -9223372036854775808 ≤ s.kind ∧ s.kind ≤ 9223372036854775807
  i : -9223372036854775808 ≤ s.id ∧ s.id ≤ 9223372036854775807
  a : -9223372036854775808 ≤ s.at_ ∧ s.at_ ≤ 9223372036854775807
  n : s.node.Ok
  t : s.text.length ≤ maxLen

end Go.Cod

namespace Go.Cod
open Go Go.Proofs Go.ChangeShapes Go.WideShapes Go.ChangeAt Go.RowKit
set_option maxRecDepth 10000

end Go.Cod

namespace Go.Cod
open Go Go.Proofs Go.ChangeShapes Go.WideShapes Go.ChangeAt Go.RowKit
set_option maxRecDepth 10000

/-- A drawn step. -/
def Stp.Dr (s : Stp) : Prop := s.node.Small ∧ s.node.size ≤ 256 ∧ s.text.length ≤ 1000
def EdR (bs : List UInt8) (p k : Int) (o : Out) (st' : St) : Prop := ∃ (s : Stp) (p' k' : Int), s.Dr ∧ p ≤ p' ∧ p' ≤ p + 1000 ∧ 0 ≤ k' ∧ k' ≤ k + 1000 ∧ o = .ret (.agg s.cells) ∧ st' = [rdO bs p', nxO k']
theorem noneS_small : (T.mk 0 [] [] []).Small := .mk (by omega) (by simp) (by simp) (by simp) (by simp)
set_option maxHeartbeats 8000000 in
theorem l11Edit_full (bs : List UInt8) (hb : bs.length ≤ 2000) (p k : Int) (p0 : 0 ≤ p) (p1 : p ≤ 10000000) (k0 : 0 ≤ k) (k1 : k ≤ 1000000) (t : T) (ht : t.Small) (hz : t.size ≤ 600000) :
    Full Tryd.prog noY 39 [.ptr 0 0 0, .agg t.cells, .ptr 1 0 0] [rdO bs p, nxO k] (EdR bs p k) := by
  have hn := T.ids_size t
  have hi := l2Ids_pure t ht (by omega)
  have hl : (irows t.ids).length = t.ids.length := by simp [irows]
  have hp : ∀ (q n : Int), 0 ≤ q → q ≤ 1073741824 → Full Tryd.prog noY 19 [.ptr 0 0 0, .int .i64 n] [rdO bs q] fun o st' => ∃ m : Int, 0 ≤ m ∧ (1 ≤ n → m < n) ∧ o = .ret (.int .i64 m) ∧ st' = [rdO bs (q + 1)] := fun q n h0 h1 => pick_full bs q n hb h0 h1
  have ho : ∀ (q : Int) (ss : List (List UInt8)), 0 ≤ q → q ≤ 1073741824 → 1 ≤ ss.length → ss.length ≤ 1048576 → Full Tryd.prog noY 43 [.ptr 0 0 0, .sl (drows ss)] [rdO bs q] fun o st' => ∃ s ∈ ss, o = .ret (.str s) ∧ st' = [rdO bs (q + 1)] := fun q ss h0 h1 h2 h3 => of_full bs q ss hb h0 h1 h2 h3
  have hx := fun q h0 h1 => l11Text_full bs q hb h0 h1
  have hT := l11Tree_3 bs hb
  have hpos := size_pos t
  have hg : ∀ (m : Int), 0 ≤ m → m < t.ids.length → ∃ x : Int, (irows t.ids)[m.toNat]? = some [.int .i64 x] := fun m h0 h1 => by
    have : m.toNat < t.ids.length := by omega
    exact ⟨t.ids[m.toNat], by simp [irows, this]⟩
  have hf := fun x => l2Find_pure t ht x
  have hfx : ∀ x, ∃ (s : T) (b : Bool), fR (fT t x) = .tup [.agg s.cells, .bool b] ∧ s.size ≤ 600000 := fun x => by
    cases h : fT t x with
    | none => exact ⟨TZ, false, rfl, by simp [TZ, T.size, T.sizeL]⟩
    | some s => exact ⟨s, true, rfl, by have := fT_size t x s h; omega⟩
  have hkl : ∀ s : T, s.size ≤ 600000 → s.kids.length ≤ 600000 := fun s h => by
    have h2 : ∀ ts : List T, ts.length ≤ T.sizeL ts := length_le_sizeL
    have h3 := T.kids_size s
    have := h2 s.kids
    omega
  generalize irows t.ids = rows at *
  generalize t.ids.length = n at *
  cases t with
  | mk id kind text kids =>
  refine full_of_awp good Tryd.func39 rfl (by kernel_rfl) (by decide) ?_
  conv => whnf
  refine .inl (hi.mono ?_)
  rintro r rfl
  conv => whnf
  refine ⟨[0], false, ?_⟩
  conv => whnf
  refine (hp p _ p0 (by omega)).mono ?_
  rintro o st' ⟨c, c0, c1, rfl, rfl⟩
  obtain ⟨x, hgx⟩ := hg c c0 (by have := c1 (by omega); omega)
  conv => whnf
  refine ⟨c0, _, _, 1, rfl, hgx, rfl, rfl, ?_⟩
  conv => whnf
  refine .inl ((hf x).mono ?_)
  rintro r rfl
  obtain ⟨y, yb, hy1, hy2⟩ := hfx x
  rw [hy1]
  have hyk := hkl y hy2
  cases y with
  | mk yid yk yt yks =>
  simp only [T.kids] at hyk
  have hyl := Go.Cod.rows_len yks
  conv => whnf
  refine ⟨[0], false, ?_⟩
  conv => whnf
  refine (hp (p + 1) 7 (by omega) (by omega)).mono ?_
  rintro o st' ⟨d, d0, d1, rfl, rfl⟩
  conv => whnf
  have hend : ∀ (s : Stp) (p' k' : Int), s.Dr → p ≤ p' → p' ≤ p + 1000 → 0 ≤ k' → k' ≤ k + 1000 → EdR bs p k (.ret (.agg s.cells)) [rdO bs p', nxO k'] := fun s p' k' h1 h2 h3 h4 h5 => ⟨s, p', k', h1, h2, h3, h4, h5, rfl, rfl⟩
  have hsec : kSec ∈ kinds11 := by decide
  have hput : ∀ (kd : List UInt8) (k' : Int), kd ∈ kinds11 → 0 ≤ k' → k' ≤ 1000000 → Full Tryd.prog noY 56 [.ptr 0 0 0, .str kd, .int .i64 3, .ptr 1 0 0] [rdO bs (p + 1 + 1 + 1 + 1), nxO k'] (TreeR bs (p + 1 + 1 + 1 + 1) k' 256) := fun kd k' h1 h2 h3 => hT (p + 1 + 1 + 1 + 1) k' kd (by omega) (by omega) h2 (by omega) h1
  have hw : 90 < k.tmod 100 → IntKind.i64.wrap (k - 50) = k - 50 ∧ 0 ≤ k - 50 := fun h3 => by
    have h5 : k.tmod 100 ≤ k := by rw [Int.tmod_eq_emod_of_nonneg k0]; omega
    exact ⟨wrap64 (by omega) (by omega), by omega⟩
  have hw0 : 90 < k.tmod 100 → 0 ≤ k - 50 := fun h => (hw h).2
  have hsec : kSec ∈ kinds11 := by decide
  have hput : ∀ (kd : List UInt8) (k' : Int), kd ∈ kinds11 → 0 ≤ k' → k' ≤ 1000000 → Full Tryd.prog noY 56 [.ptr 0 0 0, .str kd, .int .i64 3, .ptr 1 0 0] [rdO bs (p + 1 + 1 + 1 + 1), nxO k'] (TreeR bs (p + 1 + 1 + 1 + 1) k' 256) := fun kd k' h1 h2 h3 => hT (p + 1 + 1 + 1 + 1) k' kd (by omega) (by omega) h2 (by omega) h1
  have hw : 90 < k.tmod 100 → IntKind.i64.wrap (k - 50) = k - 50 ∧ 0 ≤ k - 50 := fun h3 => by
    have h5 : k.tmod 100 ≤ k := by rw [Int.tmod_eq_emod_of_nonneg k0]; omega
    exact ⟨wrap64 (by omega) (by omega), by omega⟩
  have hw0 : 90 < k.tmod 100 → 0 ≤ k - 50 := fun h => (hw h).2
  by_cases e0 : d = 0
  · rw [eqB_t e0]
    conv => whnf
    refine ⟨[0], false, ?_⟩
    conv => whnf
    refine (ho (p + 1 + 1) [[112, 97, 114], [112, 97, 114], [115, 101, 99], [110, 111, 116, 101], [116, 105, 116, 108, 101]] (by omega) (by omega) (by simp) (by simp)).mono ?_
    rintro o st' ⟨kd, hkd, rfl, rfl⟩
    have hkd : kd ∈ kinds11 := by
      simp only [List.mem_cons, List.not_mem_nil, or_false] at hkd
      simp only [kinds11, kPar, kSec, kNote, kTitle, List.mem_cons, List.not_mem_nil, or_false]
      rcases hkd with rfl | rfl | rfl | rfl | rfl <;> simp
    conv => whnf
    by_cases hdoc : yk = [100, 111, 99]
    case' pos =>
      rw [eqS_t hdoc]
      conv => whnf
    case' neg =>
      rw [eqS_f hdoc]
      conv => whnf
    all_goals
      refine ⟨by omega, ?_⟩
      conv => whnf
      by_cases hm : 90 < k.tmod 100
      · rw [ltB_t hm]
        conv => whnf
        rw [(hw hm).1]
        refine ⟨[0], false, ?_⟩
        conv => whnf
        refine (hp (p + 1 + 1 + 1) _ (by omega) (by omega)).mono ?_
        rintro o st' ⟨c, c0, c1, rfl, rfl⟩
        conv => whnf
        refine ⟨[0, 1], false, ?_⟩
        conv => whnf
        first
          | refine (hput kSec (k - 50) hsec (by first | omega | exact hw0 hm) (by omega)).mono ?_
          | refine (hput kd (k - 50) hkd (by first | omega | exact hw0 hm) (by omega)).mono ?_
        rintro o st' ⟨nt, p', k', n1, n2, n3, n4, n5, n6, rfl, rfl⟩
        rcases nt with ⟨ni, nk, nx, nks⟩
        conv => whnf
        refine ⟨[], false, ?_⟩
        conv => whnf
        exact hend ⟨1, x, c, .mk ni nk nx nks, []⟩ p' k' ⟨n1, by show (T.mk ni nk nx nks).size ≤ 256; omega, by simp⟩ (by omega) (by omega) (by omega) (by omega)
      · rw [ltB_f (by omega)]
        conv => whnf
        refine ⟨[0], false, ?_⟩
        conv => whnf
        refine (hp (p + 1 + 1 + 1) _ (by omega) (by omega)).mono ?_
        rintro o st' ⟨c, c0, c1, rfl, rfl⟩
        conv => whnf
        refine ⟨[0, 1], false, ?_⟩
        conv => whnf
        first
          | refine (hput kSec k hsec (by first | omega | exact hw0 hm) (by omega)).mono ?_
          | refine (hput kd k hkd (by first | omega | exact hw0 hm) (by omega)).mono ?_
        rintro o st' ⟨nt, p', k', n1, n2, n3, n4, n5, n6, rfl, rfl⟩
        rcases nt with ⟨ni, nk, nx, nks⟩
        conv => whnf
        refine ⟨[], false, ?_⟩
        conv => whnf
        exact hend ⟨1, x, c, .mk ni nk nx nks, []⟩ p' k' ⟨n1, by show (T.mk ni nk nx nks).size ≤ 256; omega, by simp⟩ (by omega) (by omega) (by omega) (by omega)
  rw [eqB_f e0]
  conv => whnf
  by_cases e1 : d = 1
  · rw [eqB_t e1]
    conv => whnf
    refine ⟨[0], false, ?_⟩
    conv => whnf
    refine (ho (p + 1 + 1) [[112, 97, 114], [112, 97, 114], [115, 101, 99], [110, 111, 116, 101], [116, 105, 116, 108, 101]] (by omega) (by omega) (by simp) (by simp)).mono ?_
    rintro o st' ⟨kd, hkd, rfl, rfl⟩
    have hkd : kd ∈ kinds11 := by
      simp only [List.mem_cons, List.not_mem_nil, or_false] at hkd
      simp only [kinds11, kPar, kSec, kNote, kTitle, List.mem_cons, List.not_mem_nil, or_false]
      rcases hkd with rfl | rfl | rfl | rfl | rfl <;> simp
    conv => whnf
    by_cases hdoc : yk = [100, 111, 99]
    case' pos =>
      rw [eqS_t hdoc]
      conv => whnf
    case' neg =>
      rw [eqS_f hdoc]
      conv => whnf
    all_goals
      refine ⟨by omega, ?_⟩
      conv => whnf
      by_cases hm : 90 < k.tmod 100
      · rw [ltB_t hm]
        conv => whnf
        rw [(hw hm).1]
        refine ⟨[0], false, ?_⟩
        conv => whnf
        refine (hp (p + 1 + 1 + 1) _ (by omega) (by omega)).mono ?_
        rintro o st' ⟨c, c0, c1, rfl, rfl⟩
        conv => whnf
        refine ⟨[0, 1], false, ?_⟩
        conv => whnf
        first
          | refine (hput kSec (k - 50) hsec (by first | omega | exact hw0 hm) (by omega)).mono ?_
          | refine (hput kd (k - 50) hkd (by first | omega | exact hw0 hm) (by omega)).mono ?_
        rintro o st' ⟨nt, p', k', n1, n2, n3, n4, n5, n6, rfl, rfl⟩
        rcases nt with ⟨ni, nk, nx, nks⟩
        conv => whnf
        refine ⟨[], false, ?_⟩
        conv => whnf
        exact hend ⟨1, x, c, .mk ni nk nx nks, []⟩ p' k' ⟨n1, by show (T.mk ni nk nx nks).size ≤ 256; omega, by simp⟩ (by omega) (by omega) (by omega) (by omega)
      · rw [ltB_f (by omega)]
        conv => whnf
        refine ⟨[0], false, ?_⟩
        conv => whnf
        refine (hp (p + 1 + 1 + 1) _ (by omega) (by omega)).mono ?_
        rintro o st' ⟨c, c0, c1, rfl, rfl⟩
        conv => whnf
        refine ⟨[0, 1], false, ?_⟩
        conv => whnf
        first
          | refine (hput kSec k hsec (by first | omega | exact hw0 hm) (by omega)).mono ?_
          | refine (hput kd k hkd (by first | omega | exact hw0 hm) (by omega)).mono ?_
        rintro o st' ⟨nt, p', k', n1, n2, n3, n4, n5, n6, rfl, rfl⟩
        rcases nt with ⟨ni, nk, nx, nks⟩
        conv => whnf
        refine ⟨[], false, ?_⟩
        conv => whnf
        exact hend ⟨1, x, c, .mk ni nk nx nks, []⟩ p' k' ⟨n1, by show (T.mk ni nk nx nks).size ≤ 256; omega, by simp⟩ (by omega) (by omega) (by omega) (by omega)
  rw [eqB_f e1]
  conv => whnf
  by_cases e2 : d = 2
  · rw [eqB_t e2]
    conv => whnf
    refine ⟨[], false, ?_⟩
    conv => whnf
    exact hend ⟨2, x, 0, .mk 0 [] [] [], []⟩ _ k ⟨noneS_small, by simp [T.size, T.sizeL], by simp⟩ (by omega) (by omega) (by omega) (by omega)
  rw [eqB_f e2]
  conv => whnf
  by_cases e3 : d = 3
  · rw [eqB_t e3]
    conv => whnf
    refine ⟨[0], false, ?_⟩
    conv => whnf
    refine (hp (p + 1 + 1) 3 (by omega) (by omega)).mono ?_
    rintro o st' ⟨c, c0, c1, rfl, rfl⟩
    conv => whnf
    by_cases e4 : c = 0
    · rw [eqB_t e4]
      conv => whnf
      refine ⟨[0], false, ?_⟩
      conv => whnf
      refine (ho (p + 1 + 1 + 1) [[112, 97, 114], [110, 111, 116, 101], [115, 101, 99], [116, 105, 116, 108, 101], [120]] (by omega) (by omega) (by simp) (by simp)).mono ?_
      rintro o st' ⟨kd, hkd, rfl, rfl⟩
      have hkl : kd.length ≤ 1000 := by
        simp only [List.mem_cons, List.not_mem_nil, or_false] at hkd
        rcases hkd with rfl | rfl | rfl | rfl | rfl <;> decide
      conv => whnf
      refine ⟨[], false, ?_⟩
      conv => whnf
      exact hend ⟨4, x, 0, .mk 0 [] [] [], kd⟩ _ k ⟨noneS_small, by simp [T.size, T.sizeL], hkl⟩ (by omega) (by omega) (by omega) (by omega)
    · rw [eqB_f e4]
      conv => whnf
      refine ⟨[0], false, ?_⟩
      conv => whnf
      refine (hx (p + 1 + 1 + 1) (by omega) (by omega)).mono ?_
      rintro o st' ⟨tx, htx, rfl, rfl⟩
      conv => whnf
      refine ⟨[], false, ?_⟩
      conv => whnf
      exact hend ⟨3, x, 0, .mk 0 [] [] [], tx⟩ _ k ⟨noneS_small, by simp [T.size, T.sizeL], by simp only; omega⟩ (by omega) (by omega) (by omega) (by omega)
  · rw [eqB_f e3]
    conv => whnf
    refine ⟨[0], false, ?_⟩
    conv => whnf
    refine (hx (p + 1 + 1) (by omega) (by omega)).mono ?_
    rintro o st' ⟨tx, htx, rfl, rfl⟩
    conv => whnf
    refine ⟨[], false, ?_⟩
    conv => whnf
    exact hend ⟨3, x, 0, .mk 0 [] [] [], tx⟩ _ k ⟨noneS_small, by simp [T.size, T.sizeL], by simp only; omega⟩ (by omega) (by omega) (by omega) (by omega)
end Go.Cod

namespace Go.Cod
open Go Go.Proofs Go.ChangeShapes Go.WideShapes Go.ChangeAt Go.RowKit
set_option maxRecDepth 10000

end Go.Cod

namespace Go.Cod
open Go Go.Proofs
set_option maxRecDepth 10000

/- What a step leaves as it was. -/
mutual
def T.hd : T → List (Int × List UInt8 × List UInt8)
  | .mk id kind text kids => (id, kind, text) :: T.hdL kids
def T.hdL : List T → List (Int × List UInt8 × List UInt8)
  | [] => []
  | t :: ts => t.hd ++ T.hdL ts
end
end Go.Cod

namespace Go.Cod
open Go Go.Proofs
set_option maxRecDepth 10000

/- Steps, one behind the other. -/
end Go.Cod

namespace Go.Cod
open Go Go.Proofs
set_option maxRecDepth 10000

end Go.Cod

namespace Go.Cod
open Go Go.Proofs
set_option maxRecDepth 10000

/- Two changes of one word each, of which neither is the other's, in either order. -/
end Go.Cod

namespace Go.Cod
open Go Go.Proofs
set_option maxRecDepth 10000

/- A drawn tree is even: where a number stands twice, the later ones bear as many kids as the first. -/
def T.Even (t : T) : Prop := ∀ (x : Int) (s : T) (n : Nat), fT t x = some s → n ≤ s.kids.length → t.PutOk x n
def EvenL (ts : List T) : Prop := ∀ (x : Int) (s : T) (n : Nat), fL ts x = some s → n ≤ s.kids.length → T.PutOkL x n ts
theorem even_nodup {t : T} (hn : t.ids.Nodup) : t.Even := fun x s n h1 h2 => putOk_found x n t s hn h1 h2
theorem evenL_nodup {ts : List T} (hn : (T.idsL ts).Nodup) : EvenL ts := fun x s n h1 h2 => putOkL_found x n ts s hn h1 h2
theorem even_mk {id : Int} {kind text : List UInt8} {kids : List T} (h : ∀ (x : Int) (s : T) (n : Nat), x ≠ id → fL kids x = some s → n ≤ s.kids.length → T.PutOkL x n kids) : (T.mk id kind text kids).Even := by
  intro x s n h1 h2
  simp only [fT] at h1
  simp only [T.PutOk]
  by_cases e : id = x
  · rw [if_pos e] at h1 ⊢
    cases h1
    exact h2
  · rw [if_neg e] at h1 ⊢
    exact h x s n (Ne.symm e) h1 h2
theorem fL_append (a b : List T) (x : Int) : fL (a ++ b) x = match fL a x with
    | some s => some s
    | none => fL b x := by
  induction a with
  | nil => rfl
  | cons t a ih =>
    simp only [List.cons_append, fL, ih]
    cases fT t x <;> rfl
theorem putOkL_append {x : Int} {n : Nat} {a b : List T} (ha : T.PutOkL x n a) (hb : T.PutOkL x n b) : T.PutOkL x n (a ++ b) := by
  induction a with
  | nil => exact hb
  | cons t a ih => exact ⟨ha.1, ih ha.2⟩
/-- What spoiling adds to the numbers. -/
def Spec (i : Int) : Prop := i < 2 ∨ 20 ≤ i
theorem wide_ids : ∀ i : Nat, ∀ x ∈ T.idsL (wideN i), 600 ≤ x
  | 0, x, h => by simp [wideN, T.idsL] at h
  | i + 1, x, h => by
    rw [wideN, idsL_snoc] at h
    rcases List.mem_append.1 h with h | h
    · exact wide_ids i x h
    · simp [T.ids, T.idsL] at h; omega
theorem deep_ids (t : T) : ∀ i : Nat, ∀ x ∈ (deepN t i).ids, x ∈ t.ids ∨ 500 ≤ x
  | 0, x, h => .inl h
  | i + 1, x, h => by
    simp only [deepN, T.ids, T.idsL, List.mem_cons, List.append_nil] at h
    rcases h with h | h
    · right; omega
    · exact deep_ids t i x h
theorem spoil_ids {t t' : T} (h : SpoilOf t t') : ∀ x ∈ t'.ids, x ∈ t.ids ∨ Spec x := by
  induction h with
  | @kid id kind text kids i hi t' hs ih =>
    intro x hx
    simp only [T.ids, List.mem_cons] at hx ⊢
    rcases hx with hx | hx
    · exact .inl (.inl hx)
    · have : ∀ (ks : List T) (j : Nat) (hj : j < ks.length), (∀ y ∈ t'.ids, y ∈ ks[j].ids ∨ Spec y) → ∀ y ∈ T.idsL (ks.set j t'), y ∈ T.idsL ks ∨ Spec y := by
        intro ks
        induction ks with
        | nil => intro j hj; simp at hj
        | cons k ks ihk =>
          intro j hj hh y hy
          cases j with
          | zero =>
            simp only [List.set_cons_zero, T.idsL, List.mem_append] at hy ⊢
            rcases hy with hy | hy
            · exact (hh y hy).imp .inl _root_.id
            · exact .inl (.inr hy)
          | succ j =>
            simp only [List.set_cons_succ, T.idsL, List.mem_append] at hy ⊢
            rcases hy with hy | hy
            · exact .inl (.inl hy)
            · exact (ihk j (by simpa using hj) hh y hy).imp .inr _root_.id
      exact (this kids i hi ih x hx).imp .inr _root_.id
  | id z hz =>
    intro x hx
    simp only [T.ids, List.mem_cons] at hx ⊢
    rcases hx with rfl | hx
    · right; unfold Spec; omega
    · exact .inl (.inr hx)
  | word k' x' => exact fun x hx => .inl hx
  | @twice id kind text kids =>
    intro x hx
    simp only [T.ids, idsL_snoc, List.mem_cons, List.mem_append] at hx ⊢
    rcases hx with hx | hx | hx | hx
    · exact .inl (.inl hx)
    · exact .inl (.inr hx)
    · exact .inl (.inl hx)
    · exact .inl (.inr hx)
  | @deep t =>
    intro x hx
    rcases deep_ids t 6 x hx with h | h
    · exact .inl h
    · right; unfold Spec; omega
  | @wide id kind text kids =>
    intro x hx
    simp only [T.ids, T.idsL_append, List.mem_cons, List.mem_append] at hx ⊢
    rcases hx with hx | hx | hx
    · exact .inl (.inl hx)
    · exact .inl (.inr hx)
    · have := wide_ids 20 x hx
      right; unfold Spec; omega
theorem wide_put (x : Int) : ∀ (i : Nat) (n : Nat), n ≤ 0 → T.PutOkL x n (wideN i)
  | 0, _, _ => trivial
  | i + 1, n, h => by
    rw [wideN]
    refine putOkL_append (wide_put x i n h) ⟨?_, trivial⟩
    simp only [T.PutOk]
    split
    · omega
    · trivial
theorem wide_kids : ∀ (i : Nat) (x : Int) (s : T), fL (wideN i) x = some s → s.kids = []
  | 0, x, s, h => by simp [wideN, fL] at h
  | i + 1, x, s, h => by
    rw [wideN, fL_append] at h
    cases h1 : fL (wideN i) x with
    | some s' =>
      rw [h1] at h
      cases h
      exact wide_kids i x s h1
    | none =>
      rw [h1] at h
      simp only [fL, fT] at h
      split at h
      · rename_i s' h2
        split at h2
        · cases h2; cases h; rfl
        · cases h2
      · cases h
theorem deep_even (t : T) (ht : t.Even) (hl : ∀ x ∈ t.ids, x < 500) : ∀ i : Nat, (deepN t i).Even
  | 0 => ht
  | i + 1 => by
    refine even_mk fun x s n hne h1 h2 => ?_
    simp only [fL] at h1
    have : fT (deepN t i) x = some s := by
      cases h3 : fT (deepN t i) x with
      | some s' => rw [h3] at h1; exact h1
      | none => rw [h3] at h1; cases h1
    exact ⟨deep_even t ht hl i x s n this h2, trivial⟩
theorem idsL_get : ∀ (l : List T) (i : Nat) (hi : i < l.length), (T.idsL l).Nodup → l[i].ids.Nodup ∧ ∀ y ∈ l[i].ids, y ∈ T.idsL l
  | [], i, hi, _ => by simp at hi
  | t :: l, 0, _, hn => by
    simp only [T.idsL, List.nodup_append] at hn
    exact ⟨hn.1, fun y hy => by simp only [T.idsL, List.mem_append]; exact .inl hy⟩
  | t :: l, i + 1, hi, hn => by
    simp only [T.idsL, List.nodup_append] at hn
    have := idsL_get l i (by simpa using hi) hn.2.1
    exact ⟨this.1, fun y hy => by simp only [T.idsL, List.mem_append]; exact .inr (this.2 y hy)⟩
theorem kids_ids {t : T} {x : Int} (h : x ∈ T.idsL t.kids) : x ∈ t.ids := by
  cases t
  simp only [T.ids, List.mem_cons]
  exact .inr h
theorem id_ids (t : T) : t.id ∈ t.ids := by
  cases t
  simp only [T.ids, List.mem_cons]
  exact .inl rfl
theorem spoil_even {t t' : T} (h : SpoilOf t t') : t.ids.Nodup → (∀ x ∈ T.idsL t.kids, 2 ≤ x ∧ x < 20) → t.id < 500 → t'.Even := by
  induction h with
  | @kid id kind text kids i hi t' hs ih =>
    intro hn hr2 _
    have hids := spoil_ids hs
    simp only [T.ids, List.nodup_cons] at hn
    have hg := idsL_get kids i hi hn.2
    have hr3 : ∀ x ∈ T.idsL kids, 2 ≤ x ∧ x < 20 := hr2
    have he := ih hg.1 (fun x h => hr3 x (hg.2 x (kids_ids h))) (by have := hr3 _ (hg.2 _ (id_ids kids[i])); omega)
    refine even_mk fun x s n hne => ?_
    have key : ∀ (ks : List T) (j : Nat) (hj : j < ks.length), (T.idsL ks).Nodup → (∀ y ∈ t'.ids, y ∈ ks[j].ids ∨ Spec y) → t'.Even → (∀ y ∈ T.idsL ks, y = x → ¬ Spec x ∨ x ∉ t'.ids ∨ y ∈ ks[j].ids) →
        fL (ks.set j t') x = some s → n ≤ s.kids.length → T.PutOkL x n (ks.set j t') := by
      intro ks
      induction ks with
      | nil => intro j hj; simp at hj
      | cons k ks ihk =>
        intro j hj hkn hh he hs1 h1 h2
        simp only [T.idsL, List.nodup_append] at hkn
        cases j with
        | zero =>
          simp only [List.set_cons_zero, fL] at h1 ⊢
          simp only [List.getElem_cons_zero] at hh hs1
          cases h3 : fT t' x with
          | some s' =>
            rw [h3] at h1
            cases h1
            have hx : x ∈ t'.ids := Decidable.byContradiction fun hc => by rw [(fT_none t' x).2 hc] at h3; cases h3
            refine ⟨he x s n h3 h2, putOkL_none x n ks fun hks => ?_⟩
            rcases hh x hx with h | h
            · exact hkn.2.2 x h x hks rfl
            · rcases hs1 x (by simp [T.idsL, hks]) rfl with h4 | h4 | h4
              · exact h4 h
              · exact h4 hx
              · exact hkn.2.2 x h4 x hks rfl
          | none =>
            rw [h3] at h1
            exact ⟨putOk_none x n t' ((fT_none t' x).1 h3), evenL_nodup hkn.2.1 x s n h1 h2⟩
        | succ j =>
          simp only [List.set_cons_succ, fL] at h1 ⊢
          simp only [List.getElem_cons_succ] at hh hs1
          have hj' : j < ks.length := by simpa using hj
          have hkj : ∀ y ∈ ks[j].ids, y ∈ T.idsL ks := by
            intro y hy
            have : ∀ (l : List T) (i : Nat) (hi : i < l.length), y ∈ l[i].ids → y ∈ T.idsL l := by
              intro l
              induction l with
              | nil => intro i hi; simp at hi
              | cons a l ihl =>
                intro i hi h
                simp only [T.idsL, List.mem_append]
                cases i with
                | zero => exact .inl h
                | succ i => exact .inr (ihl i (by simpa using hi) h)
            exact this ks j hj' hy
          cases h3 : fT k x with
          | some s' =>
            rw [h3] at h1
            cases h1
            have hx : x ∈ k.ids := Decidable.byContradiction fun hc => by rw [(fT_none k x).2 hc] at h3; cases h3
            refine ⟨putOk_found x n k s hkn.1 h3 h2, putOkL_none x n _ fun hks => ?_⟩
            have hxk : x ∉ T.idsL ks := fun h => hkn.2.2 x hx x h rfl
            have hmem : x ∈ t'.ids ∨ x ∈ T.idsL ks := by
              have : ∀ (l : List T) (i : Nat), x ∈ T.idsL (l.set i t') → x ∈ t'.ids ∨ x ∈ T.idsL l := by
                intro l
                induction l with
                | nil => intro i h; simp [T.idsL] at h
                | cons a l ihl =>
                  intro i h
                  cases i with
                  | zero =>
                    simp only [List.set_cons_zero, T.idsL, List.mem_append] at h ⊢
                    exact h.imp _root_.id .inr
                  | succ i =>
                    simp only [List.set_cons_succ, T.idsL, List.mem_append] at h ⊢
                    rcases h with h | h
                    · exact .inr (.inl h)
                    · exact (ihl i h).imp _root_.id .inr
              exact this ks j hks
            rcases hmem with h | h
            · rcases hs1 x (by simp [T.idsL, hx]) rfl with h4 | h4 | h4
              · rcases hh x h with h5 | h5
                · exact hxk (hkj x h5)
                · exact h4 h5
              · exact h4 h
              · exact hxk (hkj x h4)
            · exact hxk h
          | none =>
            rw [h3] at h1
            exact ⟨putOk_none x n k ((fT_none k x).1 h3), ihk j hj' hkn.2.1 hh he (fun y hy => hs1 y (by simp [T.idsL, hy])) h1 h2⟩
    exact fun h1 h2 => key kids i hi hn.2 hids he (fun y hy e => .inl (by subst e; unfold Spec; have := hr3 y hy; omega)) h1 h2
  | @id id kind text kids z hz =>
    intro hn _ _
    simp only [T.ids, List.nodup_cons] at hn
    exact even_mk fun x s n _ h1 h2 => evenL_nodup hn.2 x s n h1 h2
  | @word id kind text kids k' x' =>
    intro hn _ _
    simp only [T.ids, List.nodup_cons] at hn
    exact even_mk fun x s n _ h1 h2 => evenL_nodup hn.2 x s n h1 h2
  | @twice id kind text kids =>
    intro hn _ _
    simp only [T.ids, List.nodup_cons] at hn
    refine even_mk fun x s n hne h1 h2 => ?_
    rw [fL_append] at h1
    cases h3 : fL kids x with
    | some s' =>
      rw [h3] at h1
      cases h1
      have := evenL_nodup hn.2 x s n h3 h2
      refine putOkL_append this ⟨?_, trivial⟩
      simp only [T.PutOk]
      rw [if_neg (Ne.symm hne)]
      exact this
    | none =>
      rw [h3] at h1
      have hx := (fL_none kids x).1 h3
      simp only [fL, fT, if_neg (Ne.symm hne), h3] at h1
      cases h1
  | @deep t =>
    intro hn hr h5
    refine deep_even t (even_nodup hn) (fun x h => ?_) 6
    cases t with
    | mk id kind text kids =>
    simp only [T.ids, List.mem_cons] at h
    rcases h with rfl | h
    · exact h5
    · have := hr x h; omega
  | @wide id kind text kids =>
    intro hn hr _
    simp only [T.ids, List.nodup_cons] at hn
    refine even_mk fun x s n hne h1 h2 => ?_
    rw [fL_append] at h1
    cases h3 : fL kids x with
    | some s' =>
      rw [h3] at h1
      cases h1
      have hx : x ∈ T.idsL kids := Decidable.byContradiction fun hc => by rw [(fL_none kids x).2 hc] at h3; cases h3
      refine putOkL_append (evenL_nodup hn.2 x s n h3 h2) (putOkL_none x n _ fun h => ?_)
      have := wide_ids 20 x h
      have := hr x hx
      omega
    | none =>
      rw [h3] at h1
      have h4 := wide_kids 20 x s h1
      rw [h4] at h2
      exact putOkL_append (putOkL_none x n kids ((fL_none kids x).1 h3)) (wide_put x 20 n h2)
theorem drawn_even {t : T} (h : Drawn t) : t.Even := by
  obtain ⟨t0, h1, h2, h3, _, rfl | h4⟩ := h
  · exact even_nodup h1
  · refine spoil_even h4 h1 (fun x hx => ?_) (by omega)
    have h5 := h2 x (kids_ids hx)
    have : x ≠ 1 := fun e => by
      cases t0 with
      | mk id kind text kids =>
      simp only [T.ids, List.nodup_cons] at h1
      have h3 : id = 1 := h3
      exact h1.1 (by rw [h3, ← e]; exact hx)
    omega
theorem nodup_len : ∀ (n : Nat) (l : List Int) (lo : Int), l.Nodup → (∀ i ∈ l, lo ≤ i ∧ i < lo + n) → l.length ≤ n
  | 0, l, lo, _, h => by
    cases l with
    | nil => simp
    | cons a l => have := h a (List.mem_cons_self ..); omega
  | n + 1, l, lo, hn, h => by
    have := nodup_len n (l.erase (lo + n)) lo (hn.erase _) fun i hi => by
      obtain ⟨h1, h2⟩ := hn.mem_erase_iff.1 hi
      have := h i h2
      omega
    rw [List.length_erase] at this
    split at this <;> omega
theorem drawn_size {t : T} (h : Drawn t) : t.size ≤ 60 := by
  obtain ⟨t0, h1, h2, h3, h4, _⟩ := h
  have := nodup_len 19 t0.ids 1 h1 fun i hi => by have := h2 i hi; omega
  rw [T.ids_size] at this
  omega
end Go.Cod

namespace Go.Cod
open Go Go.Proofs
set_option maxRecDepth 10000

set_option maxHeartbeats 4000000 in
theorem l4Do_even (t : T) (s : Stp) (ht : t.Small) (hz : t.size ≤ 10000) (hn : t.Even) (hs : s.node.Small) (hsz : s.node.size ≤ 1048577) (htx : s.text.length ≤ 1048576) :
    Pure Tryd.prog 38 [.agg t.cells, .agg s.cells] (· = doR t (doT t s)) := by
  have f1 := l2Find_pure t ht s.id
  have f2 := l4Bare_pure s
  have f3 := specTreeOk_pure s.node hs (by rw [T.ids_size]; exact hsz)
  have f4 : ∀ x : T, fT t s.id = some x → s.at_.toNat ≤ x.kids.length → Pure Tryd.prog 60 [.agg t.cells, .int .i64 s.id, .int .i64 s.at_.toNat, .agg s.node.cells] (· = .agg (t.mapAt s.id (putKidT s.at_.toNat s.node)).cells) := fun x h1 h2 => l4Put_pure t ht s.id s.at_.toNat s.node (hn s.id x s.at_.toNat h1 h2)
  have f5 := l4Cut_pure t ht s.id
  have f6 := l4Set_pure t ht s.id
  have f7 : ∀ y : T, y.Small → y.size ≤ 1048577 → Pure Tryd.prog 10 [.agg y.cells] (· = .bool (okT y)) := fun y h1 h2 => specTreeOk_pure y h1 (by rw [T.ids_size]; exact h2)
  have z1 : ∀ x, okT s.node = true → (t.mapAt s.id (putKidT x s.node)).Small ∧ (t.mapAt s.id (putKidT x s.node)).size ≤ 1048577 := fun x h => by
    have hk := okT_size h
    refine ⟨T.mapAt_small _ _ 1000000 (fun y h1 _ h2 => putKidT_small x s.node y h1 hs h2) t ht (by omega), ?_⟩
    have := T.mapAt_size s.id (putKidT x s.node) 20 (fun y => by rw [putKidT_size]; omega) t
    omega
  have z2 := T.cut_small s.id t ht
  have z3 : ∀ k w : List UInt8, k.length ≤ 1048576 → w.length ≤ 1048576 → (t.mapAt s.id (setT k w)).Small ∧ (t.mapAt s.id (setT k w)).size ≤ 1048577 := fun k w h1 h2 => by
    refine ⟨T.mapAt_small _ _ 1000000 (fun y h _ _ => setT_small k w y h h1 h2) t ht (by omega), ?_⟩
    have := T.mapAt_size s.id (setT k w) 0 (fun y => by rw [setT_size]; omega) t
    omega
  have hsm := fun x => fT_small t s.id ht x
  have hed : editT t s = match fT t s.id with
    | none => none
    | some x => if bareT s = false then none else
      if s.kind = 1 then (if 0 ≤ s.at_ ∧ s.at_ ≤ x.kids.length ∧ okT s.node = true then some (t.mapAt s.id (putKidT s.at_.toNat s.node)) else none)
      else if s.kind = 2 then (if s.id = t.id then none else some (t.cut s.id))
      else if s.kind = 3 then some (t.mapAt s.id (setT x.kind s.text))
      else if s.kind = 4 then some (t.mapAt s.id (setT s.text x.text))
      else none := rfl
  have d0 : editT t s = none → doT t s = none := doT_none
  have d1 : ∀ y, editT t s = some y → doT t s = okO y := fun y => doT_some
  generalize doT t s = d at *
  generalize editT t s = e at *
  generalize fT t s.id = f at *
  generalize bareT s = b at *
  cases s with
  | mk kind sid at_ node text =>
  simp only at f1 f3 f4 f5 f6 z1 z2 z3 hed hs hsz htx hsm
  generalize T.cut sid t = tc at *
  generalize hset : (fun k w => T.mapAt sid (setT k w) t) = ts at *
  have hset : ∀ k w, T.mapAt sid (setT k w) t = ts k w := fun k w => by rw [← hset]
  simp only [hset] at f6 z3 hed
  generalize hput : T.mapAt sid (putKidT at_.toNat node) t = tp at *
  have zp : okT node = true → tp.Small ∧ tp.size ≤ 1048577 := fun h => hput ▸ z1 at_.toNat h
  clear hset hput z1
  generalize okT node = okn at *
  have hend : ∀ y : T, e = some y → y.Small → y.size ≤ 1048577 → Pure Tryd.prog 10 [.agg y.cells] (· = .bool (okT y)) ∧ d = okO y := fun y h1 h2 h3 => ⟨f7 y h2 h3, d1 y h1⟩
  clear f7 d1
  have hok : ∀ y : T, e = some y → d = okO y → doR t d = if okT y = true then .tup [.agg y.cells, .bool true] else .tup [.agg t.cells, .bool false] := fun y _ h => by
    rw [h]; unfold okO
    split <;> rfl
  simp only [Stp.cells] at f2 ⊢
  have hbig : ∀ y : T, y.Small → y.size ≤ 1048577 → e = some y → d = okO y ∧ Pure Tryd.prog 10 [.agg y.cells] (· = .bool (okT y)) := fun y h1 h2 h3 => ⟨(hend y h3 h1 h2).2, (hend y h3 h1 h2).1⟩
  clear hend
  cases t with
  | mk tid tk tx tks =>
  cases node with
  | mk nid nk nx nks =>
  refine pure_of_awp good Tryd.func38 rfl (by kernel_rfl) (by decide) ?_
  conv => whnf
  refine .inl (f1.mono ?_)
  rintro r rfl
  cases f with
  | none =>
    conv => whnf
    rw [d0 hed]
    rfl
  | some x =>
    cases x with
    | mk xid xk xx xks =>
    conv => whnf
    refine .inl (f2.mono ?_)
    rintro r rfl
    cases b with
    | false =>
      conv => whnf
      rw [d0 hed]
      rfl
    | true =>
      simp only [Bool.true_eq_false, if_false] at hed
      conv => whnf
      by_cases k1 : kind = 1
      · rw [if_pos k1] at hed
        rw [eqB_t k1]
        conv => whnf
        refine .inl ((l1In_pure _ _ _).mono ?_)
        rintro r rfl
        by_cases hr : 0 ≤ at_ ∧ at_ ≤ (xks.length : Int)
        · rw [show (decide ((0 : Int) ≤ at_ ∧ at_ ≤ ((T.rows xks).length : Int))) = true by rw [Go.Cod.rows_len]; simpa using hr]
          conv => whnf
          refine .inl (f3.mono ?_)
          rintro r rfl
          cases okn with
          | false =>
            conv => whnf
            rw [d0 (by rw [hed, if_neg (by simp)])]
            rfl
          | true =>
            obtain ⟨n, rfl⟩ : ∃ n : Nat, at_ = n := ⟨at_.toNat, by omega⟩
            have hed : e = some tp := by rw [hed]; exact if_pos ⟨hr.1, hr.2, rfl⟩
            have f4 := f4 _ rfl (by simp only [T.kids]; omega)
            obtain ⟨q1, q2⟩ := zp rfl
            obtain ⟨q3, q4⟩ := hbig tp q1 q2 hed
            have hok := hok tp hed q3
            generalize okT tp = okp at *
            cases tp with
            | mk pid pk px pks =>
            conv => whnf
            refine .inl (f4.mono ?_)
            rintro r rfl
            conv => whnf
            refine .inl (q4.mono ?_)
            rintro r rfl
            rw [hok]
            cases okp <;> (conv => whnf) <;> rfl
        · rw [show (decide ((0 : Int) ≤ at_ ∧ at_ ≤ ((T.rows xks).length : Int))) = false by rw [Go.Cod.rows_len]; simpa using hr]
          conv => whnf
          rw [d0 (by rw [hed]; exact if_neg (fun h => hr ⟨h.1, h.2.1⟩))]
          rfl
      rw [if_neg k1] at hed
      rw [eqB_f k1]
      conv => whnf
      by_cases k2 : kind = 2
      · rw [if_pos k2] at hed
        rw [eqB_t k2]
        conv => whnf
        by_cases hi : sid = tid
        · rw [eqB_t hi]
          conv => whnf
          rw [d0 (by rw [hed]; exact if_pos hi)]
          rfl
        · rw [eqB_f hi]
          have hed : e = some tc := by rw [hed]; exact if_neg hi
          obtain ⟨q3, q4⟩ := hbig tc z2.1 (by have := z2.2; simp only [T.size] at this hz ⊢; omega) hed
          have hok := hok tc hed q3
          generalize okT tc = okp at *
          cases tc with
          | mk pid pk px pks =>
          conv => whnf
          refine .inl (f5.mono ?_)
          rintro r rfl
          conv => whnf
          refine .inl (q4.mono ?_)
          rintro r rfl
          rw [hok]
          cases okp <;> (conv => whnf) <;> rfl
      rw [if_neg k2] at hed
      rw [eqB_f k2]
      conv => whnf
      have hx := hsm _ rfl
      have hxk : xk.length ≤ 1048576 ∧ xx.length ≤ 1048576 := by
        cases hx with
        | mk g1 g2 g3 g4 g5 => exact ⟨g2, g3⟩
      by_cases k3 : kind = 3
      · rw [if_pos k3] at hed
        rw [eqB_t k3]
        have f6 := f6 xk text
        obtain ⟨q1, q2⟩ := z3 xk text hxk.1 htx
        have hed : e = some (ts xk text) := hed
        obtain ⟨q3, q4⟩ := hbig _ q1 q2 hed
        have hok := hok _ hed q3
        generalize ts xk text = tp at *
        generalize okT tp = okp at *
        cases tp with
        | mk pid pk px pks =>
        conv => whnf
        refine .inl (f6.mono ?_)
        rintro r rfl
        conv => whnf
        refine .inl (q4.mono ?_)
        rintro r rfl
        rw [hok]
        cases okp <;> (conv => whnf) <;> rfl
      rw [if_neg k3] at hed
      rw [eqB_f k3]
      conv => whnf
      by_cases k4 : kind = 4
      · rw [if_pos k4] at hed
        rw [eqB_t k4]
        have f6 := f6 text xx
        obtain ⟨q1, q2⟩ := z3 text xx htx hxk.2
        have hed : e = some (ts text xx) := hed
        obtain ⟨q3, q4⟩ := hbig _ q1 q2 hed
        have hok := hok _ hed q3
        generalize ts text xx = tp at *
        generalize okT tp = okp at *
        cases tp with
        | mk pid pk px pks =>
        conv => whnf
        refine .inl (f6.mono ?_)
        rintro r rfl
        conv => whnf
        refine .inl (q4.mono ?_)
        rintro r rfl
        rw [hok]
        cases okp <;> (conv => whnf) <;> rfl
      rw [if_neg k4] at hed
      rw [eqB_f k4]
      conv => whnf
      rw [d0 hed]
      rfl
end Go.Cod

namespace Go.Cod
open Go Go.Proofs Go.ChangeShapes Go.WideShapes Go.ChangeAt Go.RowKit
set_option maxRecDepth 10000

/-- A tree that steps may be tried on. -/
def T.Tried (x : T) : Prop := x.Small ∧ x.size ≤ 60 ∧ x.Even
theorem tried_do {x y : T} {s : Stp} (h : x.Tried) (hs : s.Dr) (hd : doT x s = some y) : y.Tried := by
  obtain ⟨h1, h2⟩ := doT_ok hd
  have := okT_size h2
  exact ⟨editT_small h.1 (by have := h.2.1; omega) hs.1 (by have := hs.2.2; omega) h1, by omega, even_nodup ((okT_iff' y).1 h2).2.1⟩

end Go.Cod

namespace Go.Cod
open Go Go.Proofs
set_option maxRecDepth 10000

mutual
def LT.fresh : LT → Int → LT
  | .mk _ kind text h kids, k => .mk k kind text h (LT.freshL kids (k + 1))
def LT.freshL : List LT → Int → List LT
  | [], _ => []
  | l :: ls, k => l.fresh k :: LT.freshL ls (k + l.size)
end
mutual
def T.fresh : T → Int → T
  | .mk _ kind text kids, k => .mk k kind text (T.freshL kids (k + 1))
def T.freshL : List T → Int → List T
  | [], _ => []
  | t :: ts, k => t.fresh k :: T.freshL ts (k + t.size)
end
theorem LT.freshL_len : ∀ (ls : List LT) (k : Int), (LT.freshL ls k).length = ls.length
  | [], _ => rfl
  | l :: ls, k => by simp [LT.freshL, LT.freshL_len ls]
theorem LT.freshL_append : ∀ (a b : List LT) (k : Int), LT.freshL (a ++ b) k = LT.freshL a k ++ LT.freshL b (k + LT.sizeL a)
  | [], b, k => by simp [LT.freshL, LT.sizeL]
  | l :: a, b, k => by
    simp only [List.cons_append, LT.freshL, LT.freshL_append a b, LT.sizeL]
    congr 3
    push_cast; omega
mutual
theorem LT.labs_fresh : ∀ (l : LT) (k : Int), (l.fresh k).labs = l.labs
  | .mk _ _ _ h kids, k => by simp only [LT.fresh, LT.labs, LT.labsL_fresh kids]
theorem LT.labsL_fresh : ∀ (ls : List LT) (k : Int), LT.labsL (LT.freshL ls k) = LT.labsL ls
  | [], _ => rfl
  | l :: ls, k => by simp only [LT.freshL, LT.labsL, LT.labs_fresh l, LT.labsL_fresh ls]
end
mutual
theorem LT.wf_fresh : ∀ (l : LT) (k : Int), l.Wf → (l.fresh k).Wf
  | .mk _ _ _ h kids, k, hw => by
    simp only [LT.fresh, LT.Wf] at hw ⊢
    refine ⟨fun e => by rw [hw.1 e]; rfl, LT.wfL_fresh kids _ hw.2⟩
theorem LT.wfL_fresh : ∀ (ls : List LT) (k : Int), LT.WfL ls → LT.WfL (LT.freshL ls k)
  | [], _, _ => trivial
  | l :: ls, k, hw => by
    simp only [LT.freshL, LT.WfL] at hw ⊢
    exact ⟨LT.wf_fresh l k hw.1, LT.wfL_fresh ls _ hw.2⟩
end
mutual
theorem LT.erase_fresh : ∀ (l : LT) (k : Int), (l.fresh k).erase = l.erase.fresh k
  | .mk _ _ _ _ kids, k => by simp only [LT.erase, LT.fresh, T.fresh, LT.eraseL_fresh kids]
theorem LT.eraseL_fresh : ∀ (ls : List LT) (k : Int), LT.eraseL (LT.freshL ls k) = T.freshL (LT.eraseL ls) k
  | [], _ => rfl
  | l :: ls, k => by simp only [LT.eraseL, LT.freshL, T.freshL, LT.erase_fresh l, LT.eraseL_fresh ls, LT.size_erase]
end
theorem LT.freshL_take (ls : List LT) (i : Nat) (h : i < ls.length) (k : Int) : LT.freshL (ls.take (i + 1)) k = LT.freshL (ls.take i) k ++ [ls[i].fresh (k + LT.sizeL (ls.take i))] := by
  rw [List.take_succ_eq_append_getElem h, LT.freshL_append]; rfl
def mixF (ls : List LT) (k : Int) (i : Nat) : List LT := LT.freshL (ls.take i) k ++ ls.drop i
theorem mixF_get (ls : List LT) (k : Int) (i : Nat) (h : i < ls.length) : (LT.rows (mixF ls k i))[i]? = some ls[i].cells := by
  unfold LT.rows mixF
  rw [List.map_append, List.getElem?_append_right (by simp [LT.freshL_len]; omega)]
  simp [LT.freshL_len, Nat.min_eq_left (Nat.le_of_lt h), h]
theorem mixF_set (ls : List LT) (k : Int) (i : Nat) (h : i < ls.length) : (LT.rows (mixF ls k i)).set i (ls[i].fresh (k + LT.sizeL (ls.take i))).cells = LT.rows (mixF ls k (i + 1)) := by
  unfold LT.rows mixF
  have hl : ((LT.freshL (ls.take i) k).map LT.cells).length = i := by simp [LT.freshL_len]; omega
  rw [List.map_append, List.set_append_right _ _ (by omega), hl, Nat.sub_self, List.drop_eq_getElem_cons h, List.map_cons, List.set_cons_zero, LT.freshL_take ls i h k]
  simp

def NumR (b c i : Nat) (rows : List (List V)) (l : LT) (k : Int) (es : List (List V)) (o : Out) (st' : St) : Prop :=
  ∃ es', o = .ret (.int .i64 (k + l.size)) ∧ st' = [poolO es'] ∧ ent b c 4 (rows.set i (l.fresh k).cells) ∈ es' ∧ (∀ e ∈ (l.fresh k).ents, e ∈ es') ∧ ∀ e ∈ es, labOf e ≠ b → labOf e ∉ l.ents.map labOf → e ∈ es'
/-- A thing in a pool, numbered. -/
def NumC (l : LT) : Prop := ∀ (b c i : Nat) (rows es : List (List V)) (k : Int), 0 ≤ k → k + l.size ≤ 1152921504606846976 → l.Wf → ent b c 4 rows ∈ es → rows[i]? = some l.cells → (∀ e ∈ l.ents, e ∈ es) → (l.ents.map labOf).Nodup → b ∉ l.ents.map labOf →
  Full Tryd.prog noY 22 [.dptr b 4 i 0, .int .i64 k] [poolO es] (NumR b c i rows l k es)

/-- What a round of numbering leaves. -/
structure NumI (b' c' : Nat) (kids : List LT) (k : Int) (es0 : List (List V)) (j : Nat) (es : List (List V)) : Prop where
  root : ent b' c' 4 (LT.rows (mixF kids k j)) ∈ es
  done : ∀ e ∈ LT.entsL (LT.freshL (kids.take j) k), e ∈ es
  rest : ∀ e ∈ LT.entsL (kids.drop j), e ∈ es
  other : ∀ e ∈ es0, labOf e ∉ (LT.entsL kids ++ [ent b' c' 4 (LT.rows kids)]).map labOf → e ∈ es

theorem NumI.next {b' c' : Nat} {kids : List LT} {k : Int} {es0 es es4 : List (List V)} {j : Nat} (I : NumI b' c' kids k es0 j es) (hlt : j < kids.length)
    (hn : ((LT.entsL kids ++ [ent b' c' 4 (LT.rows kids)]).map labOf).Nodup) (q0 : ent b' c' 4 ((LT.rows (mixF kids k j)).set j (kids[j].fresh (k + LT.sizeL (kids.take j))).cells) ∈ es4)
    (q1 : ∀ e ∈ (kids[j].fresh (k + LT.sizeL (kids.take j))).ents, e ∈ es4) (q2 : ∀ e ∈ es, labOf e ≠ b' → labOf e ∉ kids[j].ents.map labOf → e ∈ es4) : NumI b' c' kids k es0 (j + 1) es4 := by
  have hsplit : LT.entsL kids = LT.entsL (kids.take j) ++ (kids[j].ents ++ LT.entsL (kids.drop (j + 1))) := by
    rw [← LT.entsL_take kids j hlt, ← LT.entsL_append, List.take_append_drop]
  have hmem : ∀ e, e ∈ kids[j].ents → e ∈ LT.entsL kids := fun e he => by rw [hsplit]; simp [he]
  rw [List.map_append, List.nodup_append] at hn
  obtain ⟨n1, _, n3⟩ := hn
  have hb : ∀ e ∈ LT.entsL kids, labOf e ≠ b' := fun e he hb => n3 _ (List.mem_map_of_mem he) b' (by simp [ent, labOf]) hb
  have hlab : ∀ e ∈ LT.entsL (LT.freshL (kids.take j) k), ∃ e0 ∈ LT.entsL (kids.take j), labOf e0 = labOf e := fun e he => by
    have : labOf e ∈ (LT.entsL (kids.take j)).map labOf := by
      rw [LT.labsL_ents, ← LT.labsL_fresh (kids.take j) k, ← LT.labsL_ents]; exact List.mem_map_of_mem he
    exact List.mem_map.1 this
  rw [hsplit] at n1
  simp only [List.map_append, List.nodup_append] at n1
  refine ⟨by rw [mixF_set kids k j hlt] at q0; exact q0, fun e he => ?_, fun e he => ?_, fun e he hno => ?_⟩
  · rw [LT.freshL_take kids j hlt, LT.entsL_append] at he
    rcases List.mem_append.1 he with he | he
    · obtain ⟨e0, h1, h2⟩ := hlab e he
      refine q2 e (I.done e he) ?_ fun hm => ?_
      · rw [← h2]; exact hb e0 (by rw [hsplit]; simp [h1])
      · exact n1.2.2 _ (List.mem_map_of_mem h1) _ (List.mem_append_left _ hm) h2
    · exact q1 e (by simpa [LT.entsL] using he)
  · refine q2 e (I.rest e (by rw [LT.entsL_take kids j hlt]; exact List.mem_append_right _ he)) (hb e (by rw [hsplit]; simp [he])) fun hm => ?_
    exact n1.2.1.2.2 _ hm _ (List.mem_map_of_mem he) rfl
  · refine q2 e (I.other e he hno) (fun h => hno ?_) (fun hm => hno ?_)
    · rw [h]; simp [ent, labOf]
    · obtain ⟨e0, h1, h2⟩ := List.mem_map.1 hm
      rw [← h2]; exact List.mem_map_of_mem (List.mem_append_left _ (hmem e0 h1))

theorem treeNumber_in (l : LT) (hT : ∀ x ∈ l.kids, NumC x) : NumC l := by
  intro b c i rows es k h0 h1 hw hroot hget hin hnd hb
  cases l with
  | mk id kind text h kids =>
  simp only [LT.kids] at hT
  simp only [LT.size] at h1
  simp only [LT.cells] at hget
  simp only [LT.Wf] at hw
  simp only [LT.ents] at hin hnd hb
  have w1 : IntKind.i64.wrap (k + 1) = k + 1 := wrap64 (by omega) (by omega)
  refine full_of_awp good Tryd.func22 rfl (by kernel_rfl) (by decide) ?_
  conv => whnf
  obtain ⟨es1, hes1⟩ : ∃ x, x = putEnt b (rows.set i [.int .i64 k, .str kind, .str text, hdV h kids.length]) es := ⟨_, rfl⟩
  refine ⟨0, c, rows, [.int .i64 id, .str kind, .str text, hdV h kids.length], es1, hroot, hget, hes1, ?_⟩
  have hA1 : ent b c 4 _ ∈ es1 := hes1 ▸ putEnt_mem hroot
  have hk1 : ∀ e ∈ es, labOf e ≠ b → e ∈ es1 := fun e he hb => hes1 ▸ putEnt_other he hb
  have hg1 := set_get hget [.int .i64 k, .str kind, .str text, hdV h kids.length]
  clear hes1
  have hin1 : ∀ e ∈ LT.entsL kids ++ rootE h kids, e ∈ es1 := fun e he => hk1 e (hin e he) fun hh => hb (hh ▸ List.mem_map_of_mem he)
  conv => whnf
  rw [w1]
  refine ⟨0, c, _, [.int .i64 k, .str kind, .str text, hdV h kids.length], hA1, hg1, ?_⟩
  rcases h with _ | ⟨b', c'⟩
  · have hk0 := hw.1 rfl
    subst hk0
    conv => whnf
    refine loop_intro (fun n fr st => st = [poolO es1] ∧ Holds fr [(1, .int .i64 (k + 1)), (16, .int .i64 0), (17, .int .i64 0)]) 0 ⟨rfl, rfl, rfl, rfl, trivial⟩ ?_
    rintro n fr st ⟨rfl, hh⟩
    obtain ⟨fr, rfl⟩ := hh.split
    clear hh
    conv => whnf
    rw [ltB_f (by simp)]
    conv => whnf
    refine ⟨[], true, ?_⟩
    conv => whnf
    exact ⟨es1, by simp [LT.size, LT.sizeL], rfl, hA1, by simp [LT.fresh, LT.freshL, LT.ents, LT.entsL, rootE], fun e he h2 _ => hk1 e he h2⟩
  · conv => whnf
    have hsz := LT.sizeL_le kids
    have hlen := LT.len_sizeL kids
    have hbb : b ≠ b' := fun e => hb (by rw [e]; simp [rootE, ent, labOf])
    have hI0 : NumI b' c' kids (k + 1) es1 0 es1 := ⟨by simpa [mixF, LT.freshL] using hin1 _ (List.mem_append_right _ (by simp [rootE])), by simp [LT.freshL, LT.entsL], fun e he => hin1 e (List.mem_append_left _ (by simpa using he)), fun e he _ => he⟩
    have hnd' : ((LT.entsL kids ++ [ent b' c' 4 (LT.rows kids)]).map labOf).Nodup := by simpa only [rootE] using hnd
    refine loop_drop (fun n fr st => ∃ (j : Nat) (es' : List (List V)), n + j = kids.length ∧ st = [poolO es'] ∧ Holds fr [(0, .dptr b 4 i 0), (1, .int .i64 (k + 1 + LT.sizeL (kids.take j))), (16, .int .i64 kids.length), (17, .int .i64 j)] ∧
        ent b c 4 (rows.set i [.int .i64 k, .str kind, .str text, .dref b' kids.length c']) ∈ es' ∧ NumI b' c' kids (k + 1) es1 j es') kids.length none
      ⟨0, es1, by omega, rfl, ⟨rfl, by simp [LT.sizeL]; rfl, rfl, rfl, trivial⟩, hA1, hI0⟩ ?_
    rintro n fr st ⟨j, es', hj, rfl, hh, hR, hI⟩
    obtain ⟨fr, rfl⟩ := hh.split
    clear hh
    conv => whnf
    by_cases hlt : j < kids.length
    · rw [ltB_t (by omega)]
      conv => whnf
      refine ⟨0, c, _, [.int .i64 k, .str kind, .str text, .dref b' kids.length c'], hR, hg1, ?_⟩
      conv => whnf
      refine ⟨by omega, by omega, ?_⟩
      conv => whnf
      have hg := mixF_get kids (k + 1) j hlt
      have hst := LT.sizeL_take kids j hlt
      have hs1 := hsz (j + 1)
      have hnext := fun es4 => NumI.next (es4 := es4) hI hlt hnd'
      have hsplit : LT.entsL kids = LT.entsL (kids.take j) ++ (kids[j].ents ++ LT.entsL (kids.drop (j + 1))) := by
        rw [← LT.entsL_take kids j hlt, ← LT.entsL_append, List.take_append_drop]
      have hmem : ∀ e, e ∈ kids[j].ents → e ∈ LT.entsL kids := fun e he => by rw [hsplit]; simp [he]
      have hndk : (kids[j].ents.map labOf).Nodup := by
        rw [List.map_append, List.nodup_append, hsplit, List.map_append, List.map_append, List.nodup_append, List.nodup_append] at hnd'
        exact hnd'.1.2.1.1
      have hbk : b' ∉ kids[j].ents.map labOf := fun hm => by
        obtain ⟨e, he, hl⟩ := List.mem_map.1 hm
        rw [List.map_append, List.nodup_append] at hnd'
        exact hnd'.2.2 _ (List.mem_map_of_mem (hmem e he)) b' (by simp [ent, labOf]) hl
      have hbo : b ∉ kids[j].ents.map labOf := fun hm => by
        obtain ⟨e, he, hl⟩ := List.mem_map.1 hm
        exact hb (by rw [← hl, List.map_append]; exact List.mem_append_left _ (List.mem_map_of_mem (hmem e he)))
      have hc := hT kids[j] (List.getElem_mem _) b' c' j _ es' (k + 1 + LT.sizeL (kids.take j)) (by omega) (by rw [hst] at hs1; omega) ((LT.WfL_iff kids).1 hw.2 _ (List.getElem_mem _)) hI.root hg (fun e he => hI.rest e (by rw [LT.entsL_take kids j hlt]; exact List.mem_append_left _ he)) hndk hbk
      refine .inr (.inl ⟨[0], true, ?_⟩)
      conv => whnf
      refine hc.mono ?_
      rintro o st' ⟨es4, rfl, rfl, q0, q1, q2⟩
      have hI4 := hnext es4 q0 q1 q2
      have hR4 := q2 _ hR hbb hbo
      conv => whnf
      refine ⟨n - 1, by omega, none, j + 1, es4, by omega, rfl, ⟨rfl, ?_, rfl, ?_, trivial⟩, hR4, hI4⟩
      · show V.int .i64 _ = V.int .i64 _
        congr 1
        rw [hst]; push_cast; omega
      · show V.int .i64 (IntKind.i64.wrap (j + 1)) = _
        rw [wrap64 (by omega) (by omega)]; simp
    · rw [ltB_f (by omega)]
      conv => whnf
      have hjl : j = kids.length := by omega
      subst hjl
      refine ⟨[], true, ?_⟩
      conv => whnf
      refine ⟨es', ?_, rfl, ?_, ?_, ?_⟩
      · rw [List.take_length]; simp only [LT.size]; push_cast; congr 2; omega
      · simp only [LT.fresh, LT.cells, hdV, LT.freshL_len]; exact hR
      · intro e he
        simp only [LT.fresh, LT.ents, rootE, List.mem_append, List.mem_singleton] at he
        rcases he with he | he
        · exact hI.done e (by rw [List.take_length]; exact he)
        · subst he
          simpa [mixF] using hI.root
      · intro e he h2 h3
        refine hI.other e (hk1 e he h2) ?_
        simpa only [LT.ents, rootE] using h3
mutual
theorem treeNumber_all : ∀ l : LT, NumC l
  | .mk id kind text h kids => treeNumber_in _ (treeNumber_allL kids)
theorem treeNumber_allL : ∀ ls : List LT, ∀ x ∈ ls, NumC x
  | [], x, hx => by simp at hx
  | l :: ls, x, hx => by
    have h0 := treeNumber_all l
    rcases List.mem_cons.1 hx with hx | hx
    · rw [hx]; exact h0
    · exact treeNumber_allL ls x hx
end
end Go.Cod

namespace Go.Cod
open Go Go.Proofs
set_option maxRecDepth 10000

/-- The outermost, in a box, numbered. -/
theorem treeNumber_root (l : LT) (es : List (List V)) (k : Int) (h0 : 0 ≤ k) (h1 : k + l.size ≤ 1152921504606846976) (hw : l.Wf) (hin : ∀ e ∈ l.ents, e ∈ es) (hnd : (l.ents.map labOf).Nodup) :
    Full Tryd.prog noY 22 [.ptr 0 0 0, .int .i64 k] [⟨[l.cells], 4, true, true, true, .cell⟩, poolO es] fun o st' => ∃ es', o = .ret (.int .i64 (k + l.size)) ∧ st' = [⟨[(l.fresh k).cells], 4, true, true, true, .cell⟩, poolO es'] ∧ ∀ e ∈ (l.fresh k).ents, e ∈ es' := by
  have hT := treeNumber_allL l.kids
  cases l with
  | mk id kind text h kids =>
  simp only [LT.kids] at hT
  simp only [LT.size] at h1
  simp only [LT.Wf] at hw
  simp only [LT.ents] at hin hnd
  have w1 : IntKind.i64.wrap (k + 1) = k + 1 := wrap64 (by omega) (by omega)
  refine full_of_awp good Tryd.func22 rfl (by kernel_rfl) (by decide) ?_
  rcases h with _ | ⟨b', c'⟩
  · have hk0 := hw.1 rfl
    subst hk0
    conv => whnf
    rw [w1]
    refine loop_intro (fun n fr st => st = [⟨[[.int .i64 k, .str kind, .str text, .nils]], 4, true, true, true, .cell⟩, poolO es] ∧ Holds fr [(1, .int .i64 (k + 1)), (16, .int .i64 0), (17, .int .i64 0)]) 0 ⟨rfl, rfl, rfl, rfl, trivial⟩ ?_
    rintro n fr st ⟨rfl, hh⟩
    obtain ⟨fr, rfl⟩ := hh.split
    clear hh
    conv => whnf
    rw [ltB_f (by simp)]
    conv => whnf
    refine ⟨[], true, ?_⟩
    conv => whnf
    exact ⟨es, by simp [LT.size, LT.sizeL], rfl, by simp [LT.fresh, LT.freshL, LT.ents, LT.entsL, rootE]⟩
  · conv => whnf
    rw [w1]
    have hsz := LT.sizeL_le kids
    have hlen := LT.len_sizeL kids
    have hI0 : NumI b' c' kids (k + 1) es 0 es := ⟨by simpa [mixF, LT.freshL] using hin _ (List.mem_append_right _ (by simp [rootE])), by simp [LT.freshL, LT.entsL], fun e he => hin e (List.mem_append_left _ (by simpa using he)), fun e he _ => he⟩
    have hnd' : ((LT.entsL kids ++ [ent b' c' 4 (LT.rows kids)]).map labOf).Nodup := by simpa only [rootE] using hnd
    refine loop_drop (fun n fr st => ∃ (j : Nat) (es' : List (List V)), n + j = kids.length ∧ st = [⟨[[.int .i64 k, .str kind, .str text, .dref b' kids.length c']], 4, true, true, true, .cell⟩, poolO es'] ∧ Holds fr [(0, .ptr 0 0 0), (1, .int .i64 (k + 1 + LT.sizeL (kids.take j))), (16, .int .i64 kids.length), (17, .int .i64 j)] ∧ NumI b' c' kids (k + 1) es j es') kids.length none
      ⟨0, es, by omega, rfl, ⟨rfl, by simp [LT.sizeL]; rfl, rfl, rfl, trivial⟩, hI0⟩ ?_
    rintro n fr st ⟨j, es', hj, rfl, hh, hI⟩
    obtain ⟨fr, rfl⟩ := hh.split
    clear hh
    conv => whnf
    by_cases hlt : j < kids.length
    · rw [ltB_t (by omega)]
      conv => whnf
      refine ⟨by omega, by omega, ?_⟩
      conv => whnf
      have hg := mixF_get kids (k + 1) j hlt
      have hst := LT.sizeL_take kids j hlt
      have hs1 := hsz (j + 1)
      have hnext := fun es4 => NumI.next (es4 := es4) hI hlt hnd'
      have hsplit : LT.entsL kids = LT.entsL (kids.take j) ++ (kids[j].ents ++ LT.entsL (kids.drop (j + 1))) := by
        rw [← LT.entsL_take kids j hlt, ← LT.entsL_append, List.take_append_drop]
      have hmem : ∀ e, e ∈ kids[j].ents → e ∈ LT.entsL kids := fun e he => by rw [hsplit]; simp [he]
      have hndk : (kids[j].ents.map labOf).Nodup := by
        rw [List.map_append, List.nodup_append, hsplit, List.map_append, List.map_append, List.nodup_append, List.nodup_append] at hnd'
        exact hnd'.1.2.1.1
      have hbk : b' ∉ kids[j].ents.map labOf := fun hm => by
        obtain ⟨e, he, hl⟩ := List.mem_map.1 hm
        rw [List.map_append, List.nodup_append] at hnd'
        exact hnd'.2.2 _ (List.mem_map_of_mem (hmem e he)) b' (by simp [ent, labOf]) hl
      have hc := hT kids[j] (List.getElem_mem _) b' c' j _ es' (k + 1 + LT.sizeL (kids.take j)) (by omega) (by rw [hst] at hs1; omega) ((LT.WfL_iff kids).1 hw.2 _ (List.getElem_mem _)) hI.root hg (fun e he => hI.rest e (by rw [LT.entsL_take kids j hlt]; exact List.mem_append_left _ he)) hndk hbk
      refine .inr (.inl ⟨[1], true, ?_⟩)
      conv => whnf
      refine hc.mono ?_
      rintro o st' ⟨es4, rfl, rfl, q0, q1, q2⟩
      have hI4 := hnext es4 q0 q1 q2
      conv => whnf
      refine ⟨n - 1, by omega, none, j + 1, es4, by omega, rfl, ⟨rfl, ?_, rfl, ?_, trivial⟩, hI4⟩
      · show V.int .i64 _ = V.int .i64 _
        congr 1
        rw [hst]; push_cast; omega
      · show V.int .i64 (IntKind.i64.wrap (j + 1)) = _
        rw [wrap64 (by omega) (by omega)]; simp
    · rw [ltB_f (by omega)]
      conv => whnf
      have hjl : j = kids.length := by omega
      subst hjl
      refine ⟨[], true, ?_⟩
      conv => whnf
      refine ⟨es', ?_, ?_, ?_⟩
      · rw [List.take_length]; simp only [LT.size]; push_cast; congr 2; omega
      · simp only [LT.fresh, LT.cells, hdV, LT.freshL_len]; rfl
      · intro e he
        simp only [LT.fresh, LT.ents, rootE, List.mem_append, List.mem_singleton] at he
        rcases he with he | he
        · exact hI.done e (by rw [List.take_length]; exact he)
        · subst he
          simpa [mixF] using hI.root

def freshOf (t : T) : T := if okT t then t.fresh 1 else TZ
theorem implTreeFresh_acc (t : T) (hs : t.Small) (hz : t.size ≤ 1048577) : Full Tryd.prog noY 6 [.agg t.cells] [poolO []] fun o st' => ∃ (l : LT) (es : List (List V)), l.erase = freshOf t ∧ l.Wf ∧ (∀ e ∈ l.ents, e ∈ es) ∧ (l.ents.map labOf).Nodup ∧ o = .ret (.agg l.cells) ∧ st' = [poolO es] := by
  have hio := implTreeOk t hs
  have hcp := (treeCopy_acc t hs []).givenEnd
  have hfo : freshOf t = if okT t then t.fresh 1 else TZ := rfl
  generalize freshOf t = ft at *
  generalize okT t = okt at *
  cases t with
  | mk id kind text kids =>
  refine full_of_awp good Tryd.func6 rfl (by kernel_rfl) (by decide) ?_
  conv => whnf
  refine .inl (hio.mono ?_)
  rintro r rfl
  cases okt
  · conv => whnf
    refine ⟨[], true, ?_⟩
    conv => whnf
    exact ⟨.mk 0 [] [] none [], [], by rw [hfo]; rfl, ⟨fun _ => rfl, trivial⟩, by simp [LT.ents, LT.entsL, rootE], by simp [LT.ents, LT.entsL, rootE], rfl, rfl⟩
  conv => whnf
  refine .inr (.inl ⟨[0], true, ?_⟩)
  conv => whnf
  refine hcp.mono ?_
  rintro o st' ⟨⟨l, h1, h2, rfl, rfl⟩, hl⟩
  have hn := hl.nodup (k := 0) rfl
  rw [List.nil_append] at hn
  have hsz : l.size ≤ 1048577 := by rw [← LT.size_erase, h1]; exact hz
  have hnum := treeNumber_root l l.ents 1 (by omega) (by omega) h2 (fun _ h => h) hn
  have hfr : (l.fresh 1).erase = ft := by rw [LT.erase_fresh, h1, hfo, if_pos rfl]
  have hwf := LT.wf_fresh l 1 h2
  have hnf : ((l.fresh 1).ents.map labOf).Nodup := by rw [LT.labs_ents, LT.labs_fresh, ← LT.labs_ents]; exact hn
  rw [List.nil_append]
  generalize l.ents = esl at *
  cases l with
  | mk lid lk lt lh lks =>
  rcases lh with _ | ⟨lb, lc⟩
  all_goals
    conv => whnf
    refine ⟨[3, 0], true, ?_⟩
    conv => whnf
    refine hnum.mono ?_
    rintro o st' ⟨es', rfl, rfl, hE⟩
    conv => whnf
    refine ⟨[], true, ?_⟩
    conv => whnf
    exact ⟨_, es', hfr, hwf, hE, hnf, rfl, rfl⟩
/-- .. just made. -/
def NewL (t : T) (o : Out) (st' : St) : Prop := ∃ l : LT, l.erase = t ∧ l.Wf ∧ (l.ents.map labOf).Nodup ∧ o = .ret (.agg l.cells) ∧ st' = [poolO l.ents]
theorem implTreeFresh_new (t : T) (hs : t.Small) (hz : t.size ≤ 1048577) : Full Tryd.prog noY 6 [.agg t.cells] [] (NewL (freshOf t)) := by
  refine Full.start (Full.shrink (implTreeFresh_acc t hs hz) ?_)
  rintro o st' ⟨l, es, h1, h2, h3, h4, rfl, rfl⟩
  exact ⟨es, l.ents, rfl, h3, h4, l, h1, h2, h4, rfl, rfl⟩
theorem implTreeFresh_pure (t : T) (ht : t.Small) (hz : t.size ≤ 1048577) : Pure Tryd.prog 6 [.agg t.cells] (· = .agg (freshOf t).cells) := by
  refine Full.freeze (implTreeFresh_new t ht hz) ?_
  rintro o st' ⟨l, h1, h2, h3, rfl, rfl⟩
  refine ⟨_, _, .agg l.erase.cells, rfl, rfl, l.viewA h2 (fun e he => he), ?_, by rw [h1]⟩
  cases l with
  | mk id kind text h kids => rcases h with _ | ⟨b, c⟩ <;> rfl
end Go.Cod

namespace Go.Cod
open Go Go.Proofs
set_option maxRecDepth 10000

mutual
theorem T.fresh_size : ∀ (t : T) (k : Int), (t.fresh k).size = t.size
  | .mk _ _ _ kids, k => by simp only [T.fresh, T.size, T.freshL_size kids]
theorem T.freshL_size : ∀ (ts : List T) (k : Int), T.sizeL (T.freshL ts k) = T.sizeL ts
  | [], _ => rfl
  | t :: ts, k => by simp only [T.freshL, T.sizeL, T.fresh_size t, T.freshL_size ts]
end
theorem T.freshL_len : ∀ (ts : List T) (k : Int), (T.freshL ts k).length = ts.length
  | [], _ => rfl
  | t :: ts, k => by simp [T.freshL, T.freshL_len ts]
theorem T.freshL_append : ∀ (a b : List T) (k : Int), T.freshL (a ++ b) k = T.freshL a k ++ T.freshL b (k + T.sizeL a)
  | [], b, k => by simp [T.freshL, T.sizeL]
  | l :: a, b, k => by
    simp only [List.cons_append, T.freshL, T.freshL_append a b, T.sizeL]
    congr 3
    push_cast; omega
theorem T.freshL_take (ls : List T) (i : Nat) (h : i < ls.length) (k : Int) : T.freshL (ls.take (i + 1)) k = T.freshL (ls.take i) k ++ [ls[i].fresh (k + T.sizeL (ls.take i))] := by
  rw [List.take_succ_eq_append_getElem h, T.freshL_append]; rfl
mutual
theorem T.fresh_small : ∀ (t : T) (k : Int), t.Small → 0 ≤ k → k + t.size ≤ 1152921504606846976 → (t.fresh k).Small
  | .mk id kind text kids, k, h, h0, h1 => by
    cases h with
    | mk g1 g2 g3 g4 g5 =>
      simp only [T.size] at h1
      simp only [T.fresh]
      exact .mk (by omega) g2 g3 (by rw [T.freshL_len]; exact g4) (T.freshL_small kids (k + 1) g5 (by omega) (by omega))
theorem T.freshL_small : ∀ (ts : List T) (k : Int), (∀ t ∈ ts, t.Small) → 0 ≤ k → k + T.sizeL ts ≤ 1152921504606846976 → ∀ t ∈ T.freshL ts k, t.Small
  | [], _, _, _, _, t, h => by simp [T.freshL] at h
  | t :: ts, k, h, h0, h1, x, hx => by
    simp only [T.sizeL] at h1
    have a := T.fresh_small t k (h t (by simp)) h0 (by omega)
    simp only [T.freshL, List.mem_cons] at hx
    rcases hx with hx | hx
    · rw [hx]; exact a
    · exact T.freshL_small ts (k + t.size) (fun y hy => h y (by simp [hy])) (by omega) (by push_cast at h1; omega) x hx
end
theorem l12Fresh_pure1 (t : T) (ht : t.Small) (k : Int) (h0 : 0 ≤ k) (h1 : k + t.size ≤ 1152921504606846976) (hT : ∀ t' ∈ t.kids, ∀ k : Int, 0 ≤ k → k + t'.size ≤ 1152921504606846976 → Pure Tryd.prog 23 [.agg t'.cells, .int .i64 k] (· = .tup [.agg (t'.fresh k).cells, .int .i64 (k + t'.size)])) :
    Pure Tryd.prog 23 [.agg t.cells, .int .i64 k] (· = .tup [.agg (t.fresh k).cells, .int .i64 (k + t.size)]) := by
  cases ht with
  | @mk id kind text kids g1 g2 g3 g4 g5 =>
  simp only [T.kids] at hT
  simp only [T.size] at h1
  have hlr := Go.Cod.rows_len kids
  have hsz := T.sizeL_le kids
  have w1 : IntKind.i64.wrap (k + 1) = k + 1 := wrap64 (by omega) (by omega)
  refine pure_of_awp good Tryd.func23 rfl (by kernel_rfl) (by decide) ?_
  conv => whnf
  rw [w1]
  refine loop_drop (fun n fr st => ∃ i : Nat, n + i = kids.length ∧ Holds fr [(2, .ptr 0 0 0), (4, .ptr 1 0 0), (6, .ptr 2 0 0), (7, .int .i64 (k + 1 + T.sizeL (kids.take i))), (8, .int .i64 i)] ∧
      ((i = 0 ∧ st = [⟨[[.int .i64 id, .str kind, .str text, .sl (T.rows kids)]], 4, true, true, true, .cell⟩, ⟨[zrow], 4, true, true, true, .cell⟩, ⟨[[.int .i64 k, .str kind, .str text, .nils]], 4, true, true, true, .cell⟩]) ∨
       (0 < i ∧ st = [⟨[[.int .i64 id, .str kind, .str text, .sl (T.rows kids)]], 4, true, true, true, .cell⟩, ⟨[zrow], 4, true, true, true, .cell⟩, ⟨[[.int .i64 k, .str kind, .str text, .own 3]], 4, true, true, true, .cell⟩, ⟨T.rows (T.freshL (kids.take i) (k + 1)), 4, true, true, false, .cell⟩]))) kids.length none
    ⟨0, rfl, ⟨rfl, rfl, rfl, by simp [T.sizeL]; rfl, rfl, trivial⟩, .inl ⟨rfl, rfl⟩⟩ ?_
  rintro n fr st ⟨i, hi, hh, hst⟩
  obtain ⟨fr, rfl⟩ := hh.split
  clear hh
  by_cases hlt : i < kids.length
  · have hg := Go.Cod.rows_get kids i hlt
    have hs1 := hsz (i + 1)
    have hss := T.sizeL_take kids i hlt
    have hc := hT kids[i] (List.getElem_mem _) (k + 1 + T.sizeL (kids.take i)) (by omega) (by omega)
    have hfk := T.freshL_take kids i hlt (k + 1)
    have hrow : T.rows (T.freshL (kids.take (i + 1)) (k + 1)) = T.rows (T.freshL (kids.take i) (k + 1)) ++ [(kids[i].fresh (k + 1 + T.sizeL (kids.take i))).cells] := by
      rw [hfk, T.rows_eq, T.rows_eq, List.map_append]; rfl
    have hsum : k + 1 + (T.sizeL (kids.take i) : Int) + kids[i].size = k + 1 + (T.sizeL (kids.take (i + 1)) : Int) := by rw [hss]; push_cast; omega
    rw [hsum] at hc
    have hlen : (T.rows (T.freshL (kids.take i) (k + 1))).length = i := by rw [Go.Cod.rows_len, T.freshL_len, List.length_take]; omega
    have hwi : IntKind.i64.wrap (i + 1) = (i + 1 : Nat) := by rw [wrap64 (by omega) (by omega)]; simp
    clear hsum hfk hs1 hss
    generalize kids[i] = t at hc hg hrow
    generalize (k + 1 + (T.sizeL (kids.take i) : Int)) = kk at hc hrow ⊢
    generalize t.fresh kk = tf at hc hrow
    cases t with
    | mk id' kind' text' kids' =>
    cases tf with
    | mk fid fk ft fks =>
    rcases hst with ⟨rfl, rfl⟩ | ⟨hi0, rfl⟩
    · conv => whnf
      rw [hlr, ltB_t (by omega)]
      conv => whnf
      refine ⟨by omega, T.rows kids, _, 4, rfl, hg, rfl, rfl, ?_⟩
      conv => whnf
      refine .inl (hc.mono ?_)
      rintro r rfl
      conv => whnf
      refine ⟨fun m hm => by rw [List.mem_singleton.1 hm]; rfl, ?_⟩
      conv => whnf
      refine ⟨by show 1 * 64 ≤ _; omega, .inr ⟨(by intro e; cases e), ?_⟩⟩
      conv => whnf
      refine ⟨n - 1, by omega, some [0, 1, 2, 5], ?_⟩
      conv => whnf
      refine ⟨1, by omega, ⟨rfl, rfl, rfl, rfl, rfl, trivial⟩, .inr ⟨by omega, ?_⟩⟩
      rw [hrow]
      rfl
    · conv => whnf
      rw [hlr, ltB_t (by omega)]
      conv => whnf
      refine ⟨by omega, T.rows kids, _, 4, rfl, hg, rfl, rfl, ?_⟩
      conv => whnf
      refine .inl (hc.mono ?_)
      rintro r rfl
      conv => whnf
      refine ⟨fun m hm => by rw [List.mem_singleton.1 hm]; rfl, ?_⟩
      conv => whnf
      refine ⟨by
        show ((T.rows (T.freshL (kids.take i) (k + 1))).length + 1) * 64 ≤ _
        rw [hlen]; omega, ?_⟩
      conv => whnf
      refine ⟨n - 1, by omega, some [0, 1, 2, 6], ?_⟩
      conv => whnf
      refine ⟨i + 1, by omega, ⟨rfl, rfl, rfl, rfl, ?_, trivial⟩, .inr ⟨by omega, ?_⟩⟩
      · show V.int .i64 (IntKind.i64.wrap (i + 1)) = _
        rw [hwi]
      · rw [hrow]
        rfl
  · have hil : i = kids.length := by omega
    subst hil
    rw [List.take_length] at hst ⊢
    have hkk : k + ((T.mk id kind text kids).size : Int) = k + 1 + (T.sizeL kids : Int) := by simp only [T.size]; push_cast; omega
    rw [hkk]
    generalize (k + 1 + (T.sizeL kids : Int)) = kk
    rcases hst with ⟨hk0, rfl⟩ | ⟨hi0, rfl⟩
    · have : kids = [] := List.eq_nil_of_length_eq_zero hk0
      subst this
      conv => whnf
      rw [ltB_f (by simp [T.rows_eq])]
      conv => whnf
      rfl
    · conv => whnf
      rw [hlr, ltB_f (by omega)]
      conv => whnf
      rfl
theorem l12Fresh_pure (t : T) (ht : t.Small) : ∀ k : Int, 0 ≤ k → k + t.size ≤ 1152921504606846976 → Pure Tryd.prog 23 [.agg t.cells, .int .i64 k] (· = .tup [.agg (t.fresh k).cells, .int .i64 (k + t.size)]) := by
  induction ht with
  | @mk id kind text kids g1 g2 g3 g4 g5 ih => exact fun k h0 h1 => l12Fresh_pure1 _ (.mk g1 g2 g3 g4 g5) k h0 h1 ih
theorem specTreeFresh_pure (t : T) (hs : t.Small) (hn : t.ids.length ≤ 1048577) : Pure Tryd.prog 8 [.agg t.cells] (· = .agg (freshOf t).cells) := by
  have hok := specTreeOk_pure t hs hn
  have hf := l12Fresh_pure t hs 1 (by omega) (by rw [T.ids_size] at hn; omega)
  have hd : freshOf t = if okT t then t.fresh 1 else TZ := rfl
  generalize okT t = okt at *
  generalize freshOf t = fo at *
  generalize t.fresh 1 = tf at *
  generalize (1 + (t.size : Int)) = kk at *
  cases t with
  | mk id kind text kids =>
  cases tf with
  | mk fid fk ft fks =>
  refine pure_of_awp good Tryd.func8 rfl (by kernel_rfl) (by decide) ?_
  conv => whnf
  refine .inl (hok.mono ?_)
  rintro r rfl
  cases okt
  · conv => whnf
    rw [hd]; rfl
  conv => whnf
  refine .inl (hf.mono ?_)
  rintro r rfl
  conv => whnf
  rw [hd, if_pos rfl]
  rfl
end Go.Cod

namespace Go.Cod
open Go Go.Proofs
set_option maxRecDepth 10000

/- A way does not hang on numbers. -/
inductive All2 {α β : Type} (R : α → β → Prop) : List α → List β → Prop where
  | nil : All2 R [] []
  | cons {a b us vs} (h : R a b) (t : All2 R us vs) : All2 R (a :: us) (b :: vs)
theorem All2.append {α β : Type} {R : α → β → Prop} {us us2 : List α} {vs vs2 : List β} (h : All2 R us vs) (h' : All2 R us2 vs2) : All2 R (us ++ us2) (vs ++ vs2) := by
  induction h with
  | nil => exact h'
  | cons h t ih => exact .cons h ih
theorem All2.len {α β : Type} {R : α → β → Prop} {us : List α} {vs : List β} (h : All2 R us vs) : us.length = vs.length := by
  induction h with
  | nil => rfl
  | cons h t ih => simp [ih]
structure RelS (g : Int → Int) (s s' : Sp) : Prop where
  id : s'.1.id = g s.1.id
  kd : s'.1.kd = s.1.kd
  ov : s'.2.1 = g s.2.1
mutual
theorem rel_T (g : Int → Int) : ∀ (t : T) (k ov lv : Int), (∀ (i : Nat) x, t.ids[i]? = some x → g x = k + i) → All2 (RelS g) (spT t ov lv) (spT (t.fresh k) (g ov) lv)
  | .mk id kind text kids, k, ov, lv, h => by
    have h0 : g id = k := by have := h 0 id rfl; simpa using this
    simp only [T.fresh, spT]
    refine .cons ⟨h0.symm, rfl, rfl⟩ ?_
    have := rel_L g kids (k + 1) id (IntKind.i64.wrap (lv + 1)) fun i x hx => by
      have := h (i + 1) x (by simpa only [T.ids, List.getElem?_cons_succ] using hx)
      rw [this]; push_cast; omega
    rw [h0] at this
    exact this
theorem rel_L (g : Int → Int) : ∀ (ts : List T) (k ov lv : Int), (∀ (i : Nat) x, (T.idsL ts)[i]? = some x → g x = k + i) → All2 (RelS g) (spL ts ov lv) (spL (T.freshL ts k) (g ov) lv)
  | [], _, _, _, _ => .nil
  | t :: ts, k, ov, lv, h => by
    simp only [T.freshL, spL]
    refine .append (rel_T g t k ov lv fun i x hx => h i x ?_) (rel_L g ts (k + t.size) ov lv fun i x hx => ?_)
    · simp only [T.idsL]
      rw [List.getElem?_append_left (List.getElem?_eq_some_iff.1 hx).1]; exact hx
    · have := h (i + t.ids.length) x (by
        simp only [T.idsL]
        rw [List.getElem?_append_right (by omega), Nat.add_sub_cancel]; exact hx)
      rw [this, T.ids_size]; push_cast; omega
end
structure RelW (g : Int → Int) (e e' : W) : Prop where
  way : e'.way = e.way
  stem : e'.stem = e.stem
  sp : RelS g e.sp e'.sp
theorem rel_find {g : Int → Int} {i : Int} {acc acc' : List W} (h : All2 (RelW g) acc acc') (hi : ∀ e ∈ acc, g e.sp.1.id = g i → e.sp.1.id = i) : (acc'.find? (W.has (g i))).map W.way = (acc.find? (W.has i)).map W.way := by
  induction h with
  | nil => rfl
  | @cons a b us vs h t ih =>
    have ih := ih fun e he => hi e (List.mem_cons_of_mem _ he)
    have h1 : W.has (g i) b = W.has i a := by
      unfold W.has
      rw [h.sp.id]
      refine decide_eq_decide.2 ⟨fun e => hi a (by simp) e, fun e => by rw [e]⟩
    rw [List.find?_cons, List.find?_cons, h1]
    cases W.has i a with
    | true => simp [h.way]
    | false => exact ih
theorem rel_count {g : Int → Int} (st : List UInt8) {acc acc' : List W} (h : All2 (RelW g) acc acc') : acc'.countP (W.of st) = acc.countP (W.of st) := by
  induction h with
  | nil => rfl
  | @cons a b us vs h t ih =>
    have h1 : W.of st b = W.of st a := by unfold W.of; rw [h.stem]
    rw [List.countP_cons, List.countP_cons, ih, h1]
theorem rel_mkW {g : Int → Int} {acc acc' : List W} {s s' : Sp} (h : All2 (RelW g) acc acc') (hs : RelS g s s') (hi : ∀ e ∈ acc, g e.sp.1.id = g s.2.1 → e.sp.1.id = s.2.1) (h0 : g s.2.1 = 0 ↔ s.2.1 = 0) : RelW g (mkW acc s) (mkW acc' s') := by
  have hst : stemW acc' s' = stemW acc s := by
    have hf : wFind acc' s'.2.1 = wFind acc s.2.1 := by
      rw [hs.ov]; exact rel_find h hi
    unfold stemW
    rw [hf, hs.kd]
  unfold mkW
  by_cases hz : s.2.1 = 0
  · rw [if_pos hz, if_pos (by rw [hs.ov]; exact h0.2 hz)]
    exact ⟨hs.kd, rfl, hs⟩
  · rw [if_neg hz, if_neg (by rw [hs.ov]; exact fun e => hz (h0.1 e)), hst]
    exact ⟨by simp only [rel_count _ h], rfl, hs⟩
theorem rel_ways {g : Int → Int} {P : Int → Prop} (hinj : ∀ a b, P a → P b → g a = g b → a = b) (hP0 : P 0) (g0 : g 0 = 0) : ∀ {l l' : List Sp}, All2 (RelS g) l l' → (∀ s ∈ l, P s.1.id ∧ P s.2.1) →
    ∀ {acc acc' : List W}, All2 (RelW g) acc acc' → (∀ e ∈ acc, P e.sp.1.id) → All2 (RelW g) (waysA acc l) (waysA acc' l') := by
  intro l l' h
  induction h with
  | nil => intro _ acc acc' ha _; exact ha
  | @cons s s' l l' h t ih =>
    intro hl acc acc' ha hp
    obtain ⟨p1, p2⟩ := hl s (by simp)
    simp only [waysA]
    refine ih (fun x hx => hl x (List.mem_cons_of_mem _ hx)) (.append ha (.cons (rel_mkW ha h (fun e he => hinj _ _ (hp e he) p2) ⟨fun e => hinj _ _ p2 hP0 (by rw [e, g0]), fun e => by rw [e, g0]⟩) .nil)) fun e he => ?_
    rcases List.mem_append.1 he with he | he
    · exact hp e he
    · rw [List.mem_singleton.1 he, mkW_sp]; exact p1
/-- The place of a number in a list, from 1 on; 0 if it is not there. -/
def posI (l : List Int) (x : Int) : Int := if x ∈ l then ((l.findIdx (fun y => decide (y = x)) : Nat) : Int) + 1 else 0
theorem posI_at {l : List Int} (hn : l.Nodup) {i : Nat} {x : Int} (h : l[i]? = some x) : posI l x = 1 + (i : Int) := by
  have hm : x ∈ l := List.mem_of_getElem? h
  obtain ⟨hlt, hx⟩ := List.getElem?_eq_some_iff.1 h
  have hf : l.findIdx (fun y => decide (y = x)) = i := by
    have hex : ∃ y ∈ l, decide (y = x) = true := ⟨x, hm, by simp⟩
    have hl : l.findIdx (fun y => decide (y = x)) < l.length := List.findIdx_lt_length_of_exists hex
    have he := List.findIdx_getElem (w := hl)
    simp only [decide_eq_true_eq] at he
    exact (List.getElem_inj hn).1 (he.trans hx.symm)
  unfold posI
  rw [if_pos hm, hf]; omega
theorem posI_inj {l : List Int} (hn : l.Nodup) {a b : Int} (ha : a ∈ l) (hb : b ∈ l) (h : posI l a = posI l b) : a = b := by
  obtain ⟨i, hi⟩ := List.getElem?_of_mem ha
  obtain ⟨j, hj⟩ := List.getElem?_of_mem hb
  rw [posI_at hn hi, posI_at hn hj] at h
  have : i = j := by omega
  subst this
  rw [hi] at hj
  exact Option.some.inj hj
mutual
theorem fresh_plain : ∀ (t : T) (k lv : Int), plainT t lv = true → 1 ≤ k → k + t.size ≤ 1000 → plainT (t.fresh k) lv = true
  | .mk id kind text kids, k, lv, h, h1, h2 => by
    simp only [plainT, Bool.and_eq_true, decide_eq_true_eq] at h
    simp only [T.size] at h2
    simp only [T.fresh, plainT, Bool.and_eq_true, decide_eq_true_eq]
    exact ⟨⟨⟨⟨h.1.1.1.1, by omega⟩, h.1.1.2⟩, h.1.2⟩, fresh_plainL kids (k + 1) (lv + 1) h.2 (by omega) (by omega)⟩
theorem fresh_plainL : ∀ (ts : List T) (k lv : Int), plainL ts lv = true → 1 ≤ k → k + T.sizeL ts ≤ 1000 → plainL (T.freshL ts k) lv = true
  | [], _, _, _, _, _ => rfl
  | t :: ts, k, lv, h, h1, h2 => by
    simp only [plainL, Bool.and_eq_true] at h
    simp only [T.sizeL] at h2
    simp only [T.freshL, plainL, Bool.and_eq_true]
    exact ⟨fresh_plain t k lv h.1 h1 (by push_cast at h2; omega), fresh_plainL ts (k + t.size) lv h.2 (by omega) (by push_cast at h2; omega)⟩
end
mutual
theorem fresh_ids : ∀ (t : T) (k : Int) (i : Nat), i < t.size → (t.fresh k).ids[i]? = some (k + i)
  | .mk id kind text kids, k, i, h => by
    simp only [T.size] at h
    simp only [T.fresh, T.ids]
    cases i with
    | zero => simp
    | succ i =>
      rw [List.getElem?_cons_succ, fresh_idsL kids (k + 1) i (by omega)]
      congr 1; push_cast; omega
theorem fresh_idsL : ∀ (ts : List T) (k : Int) (i : Nat), i < T.sizeL ts → (T.idsL (T.freshL ts k))[i]? = some (k + i)
  | [], _, _, h => by simp [T.sizeL] at h
  | t :: ts, k, i, h => by
    simp only [T.sizeL] at h
    simp only [T.freshL, T.idsL]
    have hl : (t.fresh k).ids.length = t.size := by rw [T.ids_size, T.fresh_size]
    by_cases hi : i < t.size
    · rw [List.getElem?_append_left (by omega), fresh_ids t k i hi]
    · rw [List.getElem?_append_right (by omega), hl, fresh_idsL ts (k + t.size) (i - t.size) (by omega)]
      congr 1; omega
end
theorem fresh_okT {t : T} (h : okT t = true) : okT (t.fresh 1) = true := by
  obtain ⟨h1, h2, h3⟩ := (okT_iff' t).1 h
  rw [T.ids_size] at h3
  have hl : (t.fresh 1).ids.length = t.size := by rw [T.ids_size, T.fresh_size]
  refine (okT_iff' _).2 ⟨fresh_plain t 1 1 h1 (by omega) (by omega), ?_, by omega⟩
  rw [List.nodup_iff_pairwise_ne, List.pairwise_iff_getElem]
  intro i j hi hj hij e
  have e1 := fresh_ids t 1 i (by omega)
  have e2 := fresh_ids t 1 j (by omega)
  rw [List.getElem?_eq_getElem hi, Option.some.injEq] at e1
  rw [List.getElem?_eq_getElem hj, Option.some.injEq] at e2
  omega
theorem path_fresh {t : T} (h : okT t = true) {i : Nat} {x : Int} (hx : t.ids[i]? = some x) : pathOf (t.fresh 1) (i + 1) = pathOf t x := by
  obtain ⟨h1, h2, h3⟩ := (okT_iff' t).1 h
  rw [pathOf_eq, pathOf_eq, if_pos h, if_pos (fresh_okT h)]
  have hpos : ∀ y ∈ t.ids, 1 ≤ y := plainT_pos t 1 h1
  have g0 : posI t.ids 0 = 0 := by
    unfold posI
    rw [if_neg fun hm => by have := hpos 0 hm; omega]
  have hg1 : ∀ y ∈ t.ids, posI t.ids y ≠ 0 := fun y hy => by
    obtain ⟨j, hj⟩ := List.getElem?_of_mem hy
    rw [posI_at h2 hj]; omega
  have hrel := rel_T (posI t.ids) t 1 0 1 fun i x hx => posI_at h2 hx
  rw [g0] at hrel
  have hP : ∀ s ∈ spT t 0 1, (s.1.id = 0 ∨ s.1.id ∈ t.ids) ∧ (s.2.1 = 0 ∨ s.2.1 ∈ t.ids) := fun s hs => by
    refine ⟨.inr ?_, overs_T t 0 1 s hs⟩
    rw [← spT_ids t 0 1]
    exact List.mem_map.2 ⟨s, hs, rfl⟩
  have hinj : ∀ a b, (a = 0 ∨ a ∈ t.ids) → (b = 0 ∨ b ∈ t.ids) → posI t.ids a = posI t.ids b → a = b := by
    rintro a b (rfl | ha) (rfl | hb) e
    · rfl
    · rw [g0] at e; exact absurd e.symm (hg1 b hb)
    · rw [g0] at e; exact absurd e (hg1 a ha)
    · exact posI_inj h2 ha hb e
  have hw := rel_ways (P := fun a => a = 0 ∨ a ∈ t.ids) hinj (.inl rfl) g0 hrel hP .nil (by simp)
  have hi1 : posI t.ids x = i + 1 := by rw [posI_at h2 hx]; omega
  have hf := rel_find (i := x) hw fun e he hh => by
    obtain ⟨pre, s, suf, hsp, rfl⟩ := waysA_mem he
    rw [mkW_sp] at hh ⊢
    exact hinj _ _ (hP s (by rw [hsp]; simp)).1 (.inr (List.mem_of_getElem? hx)) hh
  rw [hi1] at hf
  cases h5 : (waysA [] (spT (t.fresh 1) 0 1)).find? (W.has (i + 1)) with
  | none =>
    rw [h5] at hf
    cases h6 : (waysA [] (spT t 0 1)).find? (W.has x) with
    | none => rfl
    | some e => rw [h6] at hf; cases hf
  | some e' =>
    rw [h5] at hf
    cases h6 : (waysA [] (spT t 0 1)).find? (W.has x) with
    | none => rw [h6] at hf; cases hf
    | some e => rw [h6] at hf; exact Option.some.inj hf
end Go.Cod

namespace Go.Cod
open Go Go.Proofs
set_option maxRecDepth 10000

set_option maxHeartbeats 8000000 in
theorem l11Edits_full (bs : List UInt8) (hb : bs.length ≤ 2000) (t : T) (ht : t.Tried) (p : Int) (p0 : 0 ≤ p) (p1 : p ≤ 2000000) (m : Nat) (hm : m ≤ 10) :
    Full Tryd.prog noY 18 [.ptr 0 0 0, .agg t.cells, .int .i64 m, .int .i64 100, .bool false] [rdO bs p] fun o st' => ∃ (x : T) (p' : Int), x.Tried ∧ p ≤ p' ∧ p' ≤ p + 10000 ∧ o = .ret (.agg x.cells) ∧ st' = [rdO bs p'] := by
  have ht' := ht
  obtain ⟨ti, tk, tx, tks⟩ := t
  refine full_of_awp good Tryd.func18 rfl (by kernel_rfl) (by decide) ?_
  conv => whnf
  refine loop_drop (fun n fr st => ∃ (i : Nat) (x : T) (p' k' : Int), n + i = m ∧ x.Tried ∧ (p ≤ p' ∧ p' + 1000 * n ≤ p + 1000 * m) ∧ (0 ≤ k' ∧ k' + 1000 * n ≤ 100 + 1000 * m) ∧
      Holds fr [(0, .ptr 0 0 0), (2, .int .i64 m), (4, .bool false), (6, .ptr 1 0 0), (10, .ptr 2 0 0), (11, .ptr 3 0 0), (12, .int .i64 i)] ∧
      st = [rdO bs p', bxO x.cells 4, bxO zrow 4, nxO k']) m none
    (by
      conv => whnf
      exact ⟨0, .mk ti tk tx tks, p, 100, by omega, ht', by omega, by omega, ⟨rfl, rfl, rfl, rfl, rfl, rfl, rfl, trivial⟩, rfl⟩) ?_
  rintro n fr st ⟨i, x, p', k', b1, b2, b3, b4, hh, rfl⟩
  obtain ⟨fr, rfl⟩ := hh.split
  clear hh
  have f4 := l2Copy_pure x b2.1
  by_cases hlt : i < m
  · have hed := l11Edit_full bs hb p' k' (by omega) (by omega) (by omega) (by omega) x b2.1 (by have := b2.2.1; omega)
    have hdo := fun s (h : s.Dr) => l4Do_even x s b2.1 (by have := b2.2.1; omega) b2.2.2 h.1 (by have := h.2.1; omega) (by have := h.2.2; omega)
    have htd := fun s y (h : s.Dr) (hd : doT x s = some y) => tried_do b2 h hd
    have hw : V.int .i64 (IntKind.i64.wrap ((i : Int) + 1)) = .int .i64 ((i + 1 : Nat) : Int) := by rw [wrap64 (by omega) (by omega)]; simp
    obtain ⟨xi, xk, xx, xks⟩ := x
    conv => whnf
    rw [ltB_t (by omega)]
    conv => whnf
    repeat' (first
      | (refine ⟨[0, 3], false, ?_⟩
         conv => whnf
         refine hed.mono ?_
         rintro o st' ⟨⟨ek, ei, ea, ⟨ni, nk, nx, nks⟩, ex⟩, p2, k2, d1, d2, d3, d4, d5, rfl, rfl⟩
         have hdo := hdo _ d1
         have htd := fun y => htd _ y d1
         generalize hdoo : doT (T.mk xi xk xx xks) _ = dd at hdo htd
         rcases dd with _ | ⟨yi, yk, yx, yks⟩
         case' none => have hdo : Pure Tryd.prog 38 _ (· = .tup [.agg (T.mk xi xk xx xks).cells, .bool false]) := hdo
         case' some =>
           have hdo : Pure Tryd.prog 38 _ (· = .tup [.agg (T.mk yi yk yx yks).cells, .bool true]) := hdo
           have htd := htd _ rfl
         all_goals conv => whnf)
      | (refine ⟨_, .inl hdo, ?_⟩
         conv => whnf)
      | (refine .inl (hdo.mono ?_)
         rintro r rfl
         conv => whnf)
      | (refine ⟨n - 1, by omega, some [0, 1, 2, 3], ?_⟩
         conv => whnf
         first
           | exact ⟨i + 1, .mk yi yk yx yks, p2, k2, by omega, htd, by omega, by omega, ⟨rfl, rfl, rfl, rfl, rfl, rfl, hw, trivial⟩, rfl⟩
           | exact ⟨i + 1, .mk xi xk xx xks, p2, k2, by omega, b2, by omega, by omega, ⟨rfl, rfl, rfl, rfl, rfl, rfl, hw, trivial⟩, rfl⟩)
      | (refine And.intro ?_ ?_ <;> (conv => whnf)))
    all_goals rfl
  · obtain ⟨xi, xk, xx, xks⟩ := x
    conv => whnf
    rw [ltB_f (by omega)]
    conv => whnf
    refine .inl (f4.mono ?_)
    rintro r rfl
    conv => whnf
    refine ⟨[], false, ?_⟩
    conv => whnf
    exact ⟨.mk xi xk xx xks, p', b2, by omega, by omega, rfl, rfl⟩
def DrawTF (r : V) : Prop := ∃ t : T, t.Small ∧ t.size ≤ 1000 ∧ r = .agg t.cells
set_option maxHeartbeats 8000000 in
theorem drawTreeFresh_pure (bs : List UInt8) (hb : bs.length ≤ 1048576) : Pure Tryd.prog 5 [.sl (brows bs)] DrawTF := by
  have ho := l1Open_full bs hb
  refine pure_of_awp good Tryd.func5 rfl (by kernel_rfl) (by decide) ?_
  conv => whnf
  refine .inr (.inl ⟨[], false, ?_⟩)
  conv => whnf
  refine ho.mono ?_
  rintro o st' ⟨rfl, bs', hb', rfl⟩
  conv => whnf
  refine ⟨[1], false, ?_⟩
  conv => whnf
  refine (l11AnyTree_full bs' hb' 0 (by omega) (by omega)).mono ?_
  rintro o st' ⟨t, p, s1, ⟨s2, s5, s6, s7⟩, s3, s4, rfl, rfl⟩
  have hdr : Drawn t := ⟨t, s5, s6, s7, by omega, .inl rfl⟩
  have htr : t.Tried := ⟨s1, drawn_size hdr, drawn_even hdr⟩
  have hpk := pick_full bs' p 4 hb' (by omega) (by omega)
  have hed := fun (c : Nat) (h : c ≤ 10) => l11Edits_full bs' hb' t htr (p + 1) (by omega) (by omega) c h
  rcases t with ⟨ti, tk, tx, tks⟩
  conv => whnf
  refine ⟨[1], false, ?_⟩
  conv => whnf
  refine hpk.mono ?_
  rintro o st' ⟨c, c0, c1, rfl, rfl⟩
  have c1 := c1 (by omega)
  obtain ⟨c, rfl⟩ : ∃ n : Nat, c = n := ⟨c.toNat, by omega⟩
  have hed := hed c (by omega)
  conv => whnf
  repeat (refine And.intro (by
            (conv => whnf)
            rfl) ?_
          conv => whnf)
  refine ⟨[1], false, ?_⟩
  conv => whnf
  refine hed.mono ?_
  rintro o st' ⟨x, p2, x1, x2, x3, rfl, rfl⟩
  have hpk2 := pick_full bs' p2 12 hb' (by omega) (by omega)
  have hsp := spoil_full bs' hb' x x1.1 (p2 + 1) (by omega) (by have := x1.2.1; omega) (by have := x1.2.1; omega)
  rcases x with ⟨xi, xk, xx, xks⟩
  conv => whnf
  repeat (refine And.intro (by
            (conv => whnf)
            rfl) ?_
          conv => whnf)
  refine ⟨[1], false, ?_⟩
  conv => whnf
  refine hpk2.mono ?_
  rintro o st' ⟨d, d0, d1, rfl, rfl⟩
  conv => whnf
  by_cases hd : d = 0
  · rw [eqB_t hd]
    conv => whnf
    refine ⟨[1], false, ?_⟩
    conv => whnf
    refine hsp.mono ?_
    rintro o st' ⟨y, p3, y1, ⟨y2, y3⟩, y4, y5, rfl, rfl⟩
    rcases y with ⟨yi, yk, yx, yks⟩
    conv => whnf
    exact ⟨.mk yi yk yx yks, y1, by have := x1.2.1; omega, rfl⟩
  · rw [eqB_f hd]
    conv => whnf
    exact ⟨.mk xi xk xx xks, x1.1, by have := x1.2.1; omega, rfl⟩
end Go.Cod

namespace Go.Cod
open Go Go.Proofs Go.ChangeShapes Go.WideShapes Go.ChangeAt Go.RowKit
set_option maxRecDepth 10000

theorem ownK : ownKnob Tryd.prog.godebug = none := by kernel_rfl
def byteOf : List V → UInt8
  | [.int _ i] => UInt8.ofNat i.toNat
  | _ => 0
theorem argBytes {H : Type} {enc : TypeId × Value → H} {W : World} : ReadsA enc Tryd.prog W 22 fun x => ∃ bs : List UInt8, x = .sl (brows bs) := by
  intro base v d p hv h
  obtain ⟨x, ⟨es, hx, _, hr⟩, hrep⟩ := readsA_slice (S := fun vs => ∃ es, vs = [.sl es] ∧ es.length ≤ maxLen ∧ ∀ r ∈ es, (∃ i, r = [.int .u8 i] ∧ IntKind.u8.min ≤ i ∧ i ≤ IntKind.u8.max) ∧ r.length = Tryd.prog.cellsOf 5 ∧ (∀ v ∈ r, v.leaf = true) ∧ V.clean.cleanL 0 r = true)
    Tryd.underlying22 (fun n => reads_slice Tryd.underlying22 (by decide +kernel) fun m _ => reads_int Tryd.underlying5) base v d p hv h
  cases hx
  refine ⟨_, ⟨es.map byteOf, ?_⟩, hrep⟩
  congr 1
  rw [brows, List.map_map]
  refine (List.map_id es).symm.trans (List.map_congr_left fun r hr' => ?_)
  obtain ⟨⟨i, rfl, h1, h2⟩, _⟩ := hr r hr'
  have h1 : 0 ≤ i := h1
  have h2 : i ≤ 255 := h2
  simp only [id_eq, Function.comp, byteOf, cellB]
  congr 2
  simp only [UInt8.toNat_ofNat']
  omega
end Go.Cod

namespace Go.Cod
open Go Go.Proofs Go.ChangeShapes Go.WideShapes Go.ChangeAt Go.RowKit
set_option maxRecDepth 10000

set_option maxHeartbeats 16000000 in
theorem law_fnPathText (bs : List UInt8) : Pure Tryd.prog 3 [.sl (brows bs)] (· = .bool true) := by
  have hl := brows_len bs
  have hd := drawTreeFresh_pure bs
  refine pure_of_awp good Tryd.func3 rfl (by kernel_rfl) (by decide) ?_
  generalize brows bs = R at *
  conv => whnf
  by_cases a : 1048576 < R.length
  · rw [ltB_t (by omega)]
    conv => whnf
  rw [ltB_f (by omega)]
  conv => whnf
  refine .inl ((hd (by omega)).mono ?_)
  rintro r ⟨t, s1, s2, rfl⟩
  have hid := T.ids_size t
  have i1 := implTreeFresh_pure t s1 (by omega)
  have i2 := specTreeFresh_pure t s1 (by omega)
  have i3 := implTreeOk t s1
  have i4 := specTreeOk_pure t s1 (by omega)
  have i5 := implTreeIds_pure t s1
  have i7 := implPathOf_pure t s1
  have hxs : (freshOf t).Small := by
    unfold freshOf
    split
    · exact T.fresh_small t 1 s1 (by omega) (by omega)
    · exact TZ_small
  have i6 := implTreeIds_pure (freshOf t) hxs
  have i8 := implPathOf_pure (freshOf t) hxs
  have wx := wcTree_refl (freshOf t) hxs
  have hI : okT t = true → idsOf t = t.ids := fun h => by unfold idsOf; rw [if_pos h]
  have hX : okT t = true → idsOf (freshOf t) = (t.fresh 1).ids ∧ freshOf t = t.fresh 1 := fun h => by
    have : freshOf t = t.fresh 1 := by unfold freshOf; rw [if_pos h]
    refine ⟨?_, this⟩
    rw [this]; unfold idsOf; rw [if_pos (fresh_okT h)]
  have hP := fun h i x hx => path_fresh (t := t) h (i := i) (x := x) hx
  have hL : okT t = true → t.ids.length ≤ 20 := fun h => okT_len h
  have hF := fun i h => fresh_ids t 1 i h
  have hFl : (t.fresh 1).ids.length = t.size := by rw [T.ids_size, T.fresh_size]
  have heq : ∀ b : Bool, (!(b == b)) = false := by decide
  have heq2 : ∀ b : Bool, (b == b) = true := by decide
  have hpo : ∀ y x, firstS (pathsAt y x) = pathOf y x := fun _ _ => rfl
  simp only [hpo] at i7 i8
  generalize hfo : freshOf t = x at *
  generalize okT t = okt at *
  cases okt with
  | false =>
    obtain ⟨ti, tk, tx, tks⟩ := t
    obtain ⟨xi, xk, xx, xks⟩ := x
    conv => whnf
    refine .inl (i1.mono ?_)
    rintro r rfl
    conv => whnf
    repeat (first
      | (refine ⟨_, .inl i2, ?_⟩
         conv => whnf)
      | (refine ⟨_, .inl wx, ?_⟩
         conv => whnf)
      | (refine ⟨_, .inl i3, ?_⟩
         conv => whnf)
      | (refine ⟨_, .inl i4, ?_⟩
         conv => whnf))
    rfl
  | true =>
    obtain ⟨hX1, hX2⟩ := hX rfl
    have hI := hI rfl
    have hL := hL rfl
    have hP := hP rfl
    rw [hI] at i5
    rw [hX1] at i6
    subst hX2
    have hri := irows_len t.ids
    have hrx := irows_len (t.fresh 1).ids
    have hgi := irows_get t.ids
    have hgx := irows_get (t.fresh 1).ids
    have hgt : ∀ i (h : i < t.ids.length), ∃ y : Int, t.ids[i]? = some y ∧ (irows t.ids)[i]? = some [.int .i64 y] ∧ (irows (t.fresh 1).ids)[i]? = some [.int .i64 (1 + (i : Int))] ∧ pathOf (t.fresh 1) (1 + (i : Int)) = pathOf t y := fun i h => by
      refine ⟨t.ids[i], by simp [h], hgi i h, ?_, ?_⟩
      · have h2 := hF i (by omega)
        rw [irows, List.getElem?_map, h2]; rfl
      · have := hP i t.ids[i] (by simp [h])
        rw [← this, Int.add_comm]
    clear hgi hgx hF hP
    generalize irows t.ids = rows at *
    generalize irows (t.fresh 1).ids = rowx at *
    generalize t.fresh 1 = x at *
    have hlen : t.ids.length = x.ids.length := by omega
    generalize t.ids.length = m at *
    obtain ⟨ti, tk, tx, tks⟩ := t
    obtain ⟨xi, xk, xx, xks⟩ := x
    conv => whnf
    refine .inl (i1.mono ?_)
    rintro r rfl
    conv => whnf
    repeat (first
      | (refine ⟨_, .inl i2, ?_⟩
         conv => whnf)
      | (refine ⟨_, .inl wx, ?_⟩
         conv => whnf)
      | (refine ⟨_, .inl i3, ?_⟩
         conv => whnf)
      | (refine ⟨_, .inl i4, ?_⟩
         conv => whnf))
    refine .inl (i5.mono ?_)
    rintro r rfl
    conv => whnf
    refine .inl (i6.mono ?_)
    rintro r rfl
    conv => whnf
    refine loop_drop (fun n fr st => ∃ i : Nat, n + i = m ∧ st = [bxO [.int .i64 ti, .str tk, .str tx, .sl (T.rows tks)] 4, bxO [.int .i64 xi, .str xk, .str xx, .sl (T.rows xks)] 4] ∧ Holds fr [(3, .ptr 0 0 0), (4, .ptr 1 0 0), (5, .sl rows), (6, .sl rowx), (7, .int .i64 i)]) m none
      ⟨0, by omega, rfl, rfl, rfl, rfl, rfl, rfl, trivial⟩ ?_
    rintro n fr st ⟨i, hi, rfl, hh⟩
    obtain ⟨fr, rfl⟩ := hh.split
    clear hh
    by_cases hlt : i < m
    · obtain ⟨y, h1, h2, h3, h4⟩ := hgt i hlt
      have f1 := i7 y
      have f2 := i8 (1 + (i : Int))
      rw [h4] at f2
      have w1 : IntKind.i64.wrap ((i : Int) + 1) = (i : Int) + 1 := wrap64 (by omega) (by omega)
      have w2 : V.int .i64 (IntKind.i64.wrap ((i : Int) + 1)) = .int .i64 ((i + 1 : Nat) : Int) := by rw [w1]; simp
      generalize pathOf _ y = pth at *
      conv => whnf
      rw [hri, ltB_t (by omega)]
      conv => whnf
      refine ⟨by omega, rowx, _, 1, rfl, h3, rfl, rfl, ?_⟩
      conv => whnf
      rw [eqB_t (by rw [w1]; omega)]
      conv => whnf
      repeat (first
        | (refine ⟨by omega, rows, _, 1, rfl, h2, rfl, rfl, ?_⟩
           conv => whnf)
        | (refine ⟨_, .inl f1, ?_⟩
           conv => whnf)
        | (refine ⟨by omega, rowx, _, 1, rfl, h3, rfl, rfl, ?_⟩
           conv => whnf)
        | (refine ⟨_, .inl f2, ?_⟩
           conv => whnf))
      rw [eqS_refl]
      conv => whnf
      exact ⟨n - 1, by omega, none, i + 1, by omega, rfl, rfl, rfl, rfl, rfl, w2, trivial⟩
    · conv => whnf
      rw [hri, ltB_f (by omega)]
      conv => whnf
      rw [hri, hrx, eqB_t (by omega)]
theorem lawFnPathText (bs : List UInt8) : Pure Tryd.prog 3 [.sl (brows bs)] (· = .bool true) := law_fnPathText bs
theorem conFnPathText (H : Type) (enc : TypeId × Value → H) (W : World) (base : Nat) (args : Array Value) (ds gs : List (DataW H)) (before : List MemPlace)
    (hval : ∀ (j : Nat) t v, Tryd.f3.params[j]? = some t → args[j]? = some v → Value.okWide Tryd.prog W .any base t v)
    (hW : DataW.Whole enc Tryd.prog Tryd.f3.params.toList YtpbomdlknkakgaaDoor.Rows.fnPathTextSpec.vars false W args.toList ds gs before) {fresh handsOn again : Bool} :
    Calls Tryd.prog 3 args W fun e W' => ∃ v, e = .returned v ∧ YtpbomdlknkakgaaDoor.Rows.fnPathTextSpec.post enc Tryd.prog Tryd.f3 false fresh handsOn again W args v W' := by
  refine law_calls kids full (tb := 4) rfl Tryd.underlying4 (by decide +kernel) rfl hW (fun ds h => by match ds, h with | [_], _ => exact ⟨rfl, rfl, rfl⟩) hval
    (Ss := [fun x => ∃ bs : List UInt8, x = .sl (brows bs)]) laid0 ?_ ?_
  · rw [Tryd.params3]
    exact ⟨argBytes, trivial⟩
  · intro xs h
    obtain ⟨_, rfl, ⟨t0, rfl⟩⟩ := hold1 h
    exact lawFnPathText t0

theorem doorFnPathText (os : Os) (args : Array Value) : laidMetH Tryd.prog YtpbomdlknkakgaaDoor.Rows.fnPathTextRow.laid ((World.doorLaid Tryd.prog 400 os).forCall (fun _ _ => 0) ⟨#[], args, []⟩).memory :=
  laidMetH_of_parts3 (fuel := 8) (laidMet_of_run' 8 (by kernel_rfl) (by kernel_rfl)) (by kernel_rfl) (by kernel_rfl)

set_option maxRecDepth 100000 in
theorem rowFnPathText : YtpbomdlknkakgaaDoor.Rows.FnPathTextSaid :=
  OpenClaim.holds_of_wide 3 Tryd.f3 rfl rfl rfl rfl rfl rfl rfl ⟨rfl, rfl, rfl, rfl, rfl⟩ rfl rfl rfl rfl rfl (by kernel_rfl) Tryd.func3 (by kernel_rfl)
    (of_decide_eq_true (by kernel_rfl)) (by unfold Func.isWrapper; first | (rw [if_pos (by decide +kernel)]; kernel_rfl) | (rw [if_neg (by decide +kernel)]; exact ⟨rfl, rfl⟩))
    (fun os started H enc _ => returnsInHanded_of_change_and (C := Tryd.checked) (X := fun w _ => laidMetH Tryd.prog YtpbomdlknkakgaaDoor.Rows.fnPathTextRow.laid w) (fun _ _ _ hh h => h.of_heap hh) ownK started (by kernel_rfl) Tryd.func3
      (ChangeSpec.witness_shaped (enc := enc) (C := Tryd.checked) (os := os) (X := fun w _ => laidMetH Tryd.prog YtpbomdlknkakgaaDoor.Rows.fnPathTextRow.laid w) false (World.doorLaid Tryd.prog 400 os) #[.slice none 0 0] 8 rfl (World.shaped_of_RefB (by kernel_rfl) (by kernel_rfl)) (by kernel_rfl) (by kernel_rfl) (by kernel_rfl) (doorFnPathText os _))
      (fun W base args ds gs before hval hW _ _ _ _ => conFnPathText H enc W base args ds gs before hval hW))

set_option maxRecDepth 100000 in
theorem overFnPathText : YtpbomdlknkakgaaDoor.Rows.FnPathTextCardSaid :=
  Claim7.holds_tied_plain_at .later [] [.data, .data, .data] true (true, "c572a9c328d5bb07d4c72834ee05dfee138d035929f0035f35a877d92cab67b2") false
    rowFnPathText (fun _ h => by cases h) (by kernel_rfl) (fun _ h => by cases h) YtpbomdlknkakgaaDoor.fnPathText_row_tie rfl ⟨rfl, rfl⟩ (by kernel_rfl) rfl
    (fun f fn hf hfn => by
      obtain rfl : f = 3 := Option.some.inj ((show Tryd.prog.funcNamed "loop.example/codicil/laws.FnPathText" = some 3 by kernel_rfl).symm.trans hf) |>.symm
      obtain rfl : fn = Tryd.f3 := (Option.some.inj (Tryd.func3.symm.trans hfn)).symm
      exact ⟨by kernel_rfl, fun j t ht => by
        rw [Tryd.params3] at ht
        have hm : t ∈ ([22] : List Nat) := by simpa using Array.mem_of_getElem? ht
        have hall : (([22] : List Nat).all fun u => !Tryd.prog.wantsStandIn u) = true := by kernel_rfl
        exact (show Tryd.prog.wantsStandIn t = false by simpa using List.all_eq_true.1 hall t hm)⟩)
    (by kernel_rfl)
end Go.Cod

