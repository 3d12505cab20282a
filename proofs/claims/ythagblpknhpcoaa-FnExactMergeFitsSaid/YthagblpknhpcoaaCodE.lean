/- Own texts. -/
import Derived.Test.YthagblpknhpcoaaChecked
import Derived.Test.YthagblpknhpcoaaRows
import Derived.WalkKit
import Derived.ProofKit
import Derived.OpenShut
import Derived.JoinedOf
import Derived.Handed
import Derived.Test.YthagblpknhpcoaaCodD
namespace Go.Cod
open Go Go.Proofs
instance lam0 : Lam := ⟨fun _ => none, fun g => Nat.beq g 999999, fun g => Nat.beq g 999999⟩
theorem laid0 {Pr : Nat → Nat → Prop} {w : World} : Laid Pr w := fun g cs h => by cases h

def tauL : List (Nat × TI) := [
  (1, ⟨.other, 1, 8, .raw .nilFunc, [], []⟩),
  (2, ⟨.int .i64, 1, 8, .int .i64 0, [], []⟩),
  (3, ⟨.int .i64, 1, 8, .int .i64 0, [], []⟩),
  (4, ⟨.bool, 1, 1, .bool false, [], []⟩),
  (5, ⟨.int .u8, 1, 1, .int .u8 0, [], []⟩),
  (6, ⟨.int .u8, 1, 1, .int .u8 0, [], []⟩),
  (7, ⟨.agg, 4, 24, .agg [.int .i64 0, .int .i64 0, .bool false, .int .u8 0], [(0, 1, false), (1, 1, false), (2, 1, false), (3, 1, false)], []⟩),
  (8, ⟨.agg, 4, 24, .agg [.int .i64 0, .int .i64 0, .bool false, .int .u8 0], [(0, 1, false), (1, 1, false), (2, 1, false), (3, 1, false)], []⟩),
  (9, ⟨.str, 1, 16, .str [], [], []⟩),
  (10, ⟨.str, 1, 16, .str [], [], []⟩),
  (11, ⟨.str, 1, 16, .str [], [], []⟩),
  (12, ⟨.int .u64, 1, 8, .int .u64 0, [], []⟩),
  (13, ⟨.agg, 2, 24, .agg [.str [], .int .u64 0], [(0, 1, false), (1, 1, false)], []⟩),
  (14, ⟨.agg, 2, 24, .agg [.str [], .int .u64 0], [(0, 1, false), (1, 1, false)], []⟩),
  (15, ⟨.ptr, 1, 8, .raw (.pointer none), [], []⟩),
  (16, ⟨.ptr, 1, 8, .raw (.pointer none), [], []⟩),
  (17, ⟨.ptr, 1, 8, .raw (.pointer none), [], []⟩),
  (18, ⟨.agg, 1, 8, .agg [.raw (.pointer none)], [(0, 1, false)], []⟩),
  (19, ⟨.agg, 1, 8, .agg [.raw (.pointer none)], [(0, 1, false)], []⟩),
  (20, ⟨.iface, 1, 16, .raw .nilIface, [], []⟩),
  (21, ⟨.int .i32, 1, 4, .int .i32 0, [], []⟩),
  (22, ⟨.slice 24, 1, 24, .nils, [], []⟩),
  (23, ⟨.agg, 4, 64, .agg [.int .i64 0, .str [], .str [], .nils], [(0, 1, false), (1, 1, false), (2, 1, false), (3, 1, false)], []⟩),
  (24, ⟨.agg, 4, 64, .agg [.int .i64 0, .str [], .str [], .nils], [(0, 1, false), (1, 1, false), (2, 1, false), (3, 1, false)], []⟩),
  (25, ⟨.other, 1, 8, .raw .nilFunc, [], []⟩),
  (26, ⟨.other, 1, 8, .raw .nilFunc, [], []⟩),
  (27, ⟨.slice 29, 1, 24, .nils, [], []⟩),
  (28, ⟨.agg, 4, 64, .agg [.int .i64 0, .str [], .str [], .nils], [(0, 1, false), (1, 1, false), (2, 1, false), (3, 1, false)], []⟩),
  (29, ⟨.agg, 4, 64, .agg [.int .i64 0, .str [], .str [], .nils], [(0, 1, false), (1, 1, false), (2, 1, false), (3, 1, false)], []⟩),
  (30, ⟨.other, 1, 8, .raw .nilFunc, [], []⟩),
  (31, ⟨.other, 1, 8, .raw .nilFunc, [], []⟩),
  (32, ⟨.other, 1, 8, .raw .nilFunc, [], []⟩),
  (33, ⟨.other, 1, 8, .raw .nilFunc, [], []⟩),
  (34, ⟨.other, 1, 8, .raw .nilFunc, [], []⟩),
  (35, ⟨.other, 1, 8, .raw .nilFunc, [], []⟩),
  (36, ⟨.other, 1, 8, .raw .nilFunc, [], []⟩),
  (37, ⟨.other, 1, 8, .raw .nilFunc, [], []⟩),
  (38, ⟨.slice 3, 1, 24, .nils, [], []⟩),
  (39, ⟨.other, 1, 8, .raw .nilFunc, [], []⟩),
  (40, ⟨.other, 1, 8, .raw .nilFunc, [], []⟩),
  (41, ⟨.other, 1, 8, .raw .nilFunc, [], []⟩),
  (43, ⟨.other, 1, 8, .raw .nilFunc, [], []⟩),
  (44, ⟨.other, 1, 8, .raw .nilFunc, [], []⟩),
  (45, ⟨.map 3 4, 1, 8, .raw (.map none), [], []⟩),
  (46, ⟨.other, 1, 8, .raw .nilFunc, [], []⟩),
  (47, ⟨.other, 1, 8, .raw .nilFunc, [], []⟩),
  (48, ⟨.other, 1, 8, .raw .nilFunc, [], []⟩),
  (49, ⟨.agg, 6, 80, .agg [.int .i64 0, .str [], .str [], .nils, .int .i64 0, .int .i64 0], [(0, 4, true), (4, 1, false), (5, 1, false)], []⟩),
  (50, ⟨.agg, 6, 80, .agg [.int .i64 0, .str [], .str [], .nils, .int .i64 0, .int .i64 0], [(0, 4, true), (4, 1, false), (5, 1, false)], []⟩),
  (52, ⟨.other, 1, 8, .raw .nilFunc, [], []⟩),
  (53, ⟨.other, 1, 8, .raw .nilFunc, [], []⟩),
  (54, ⟨.other, 1, 8, .raw .nilFunc, [], []⟩),
  (55, ⟨.other, 1, 8, .raw .nilFunc, [], []⟩),
  (56, ⟨.other, 1, 8, .raw .nilFunc, [], []⟩),
  (57, ⟨.other, 1, 8, .raw .nilFunc, [], []⟩),
  (58, ⟨.other, 1, 8, .raw .nilFunc, [], []⟩),
  (59, ⟨.other, 1, 8, .raw .nilFunc, [], []⟩),
  (60, ⟨.other, 1, 8, .raw .nilFunc, [], []⟩),
  (61, ⟨.other, 1, 8, .raw .nilFunc, [], []⟩),
  (62, ⟨.other, 1, 8, .raw .nilFunc, [], []⟩),
  (63, ⟨.other, 1, 8, .raw .nilFunc, [], []⟩),
  (64, ⟨.other, 1, 8, .raw .nilFunc, [], []⟩),
  (65, ⟨.other, 1, 8, .raw .nilFunc, [], []⟩),
  (66, ⟨.agg, 4, 40, .agg [.raw (.pointer none), .raw (.pointer none), .raw (.pointer none), .str []], [(0, 1, false), (1, 1, false), (2, 1, false), (3, 1, false)], []⟩),
  (67, ⟨.agg, 4, 40, .agg [.raw (.pointer none), .raw (.pointer none), .raw (.pointer none), .str []], [(0, 1, false), (1, 1, false), (2, 1, false), (3, 1, false)], []⟩),
  (71, ⟨.other, 1, 8, .raw .nilFunc, [], []⟩),
  (72, ⟨.int .u32, 1, 4, .int .u32 0, [], []⟩),
  (73, ⟨.int .u8, 1, 1, .int .u8 0, [], []⟩),
  (74, ⟨.int .u8, 1, 1, .int .u8 0, [], []⟩),
  (75, ⟨.other, 1, 8, .raw .nilFunc, [], []⟩),
  (76, ⟨.ptr, 1, 8, .raw (.pointer none), [], []⟩),
  (77, ⟨.int .i32, 1, 4, .int .i32 0, [], []⟩),
  (78, ⟨.int .i32, 1, 4, .int .i32 0, [], []⟩),
  (79, ⟨.agg, 11, 48, .agg [.int .u64 0, .int .u64 0, .int .u32 0, .int .u8 0, .int .u8 0, .int .u8 0, .int .u8 0, .raw .nilFunc, .raw (.pointer none), .int .i32 0, .int .i32 0], [(0, 1, false), (1, 1, false), (2, 1, false), (3, 1, false), (4, 1, false), (5, 1, false), (6, 1, false), (7, 1, false), (8, 1, false), (9, 1, false), (10, 1, false)], []⟩),
  (80, ⟨.agg, 11, 48, .agg [.int .u64 0, .int .u64 0, .int .u32 0, .int .u8 0, .int .u8 0, .int .u8 0, .int .u8 0, .raw .nilFunc, .raw (.pointer none), .int .i32 0, .int .i32 0], [(0, 1, false), (1, 1, false), (2, 1, false), (3, 1, false), (4, 1, false), (5, 1, false), (6, 1, false), (7, 1, false), (8, 1, false), (9, 1, false), (10, 1, false)], []⟩)]
theorem good : TauGood Try.prog (tauOf tauL) := tauGood (by kernel_rfl) (by kernel_rfl) (by decide)
end Go.Cod

namespace Go.Cod
open Go Go.Proofs
set_option maxRecDepth 10000
theorem l1In_pure (a b c : Int) : Pure Try.prog 28 [.int .i64 a, .int .i64 b, .int .i64 c] (· = .bool (decide (b ≤ a ∧ a ≤ c))) := by
  refine pure_of_awp good Try.func28 rfl (by kernel_rfl) (by decide) ?_
  conv => whnf
  by_cases h1 : b ≤ a
  · rw [leB_t h1]
    conv => whnf
    simp [h1, leB_def]
  · rw [leB_f (by omega)]
    conv => whnf
    simp [h1]

def lowerB (c : UInt8) : Bool := decide (97 ≤ c.toNat ∧ c.toNat ≤ 122)
def lower (s : List UInt8) : Bool := s.all lowerB
def nameL (s : List UInt8) : Bool := lower s && decide (1 ≤ (s.length : Int) ∧ (s.length : Int) ≤ 8)
theorem take_all {p : UInt8 → Bool} {s : List UInt8} {i : Nat} (h : i < s.length) : (s.take (i + 1)).all p = ((s.take i).all p && p s[i]) := by
  rw [List.take_succ_eq_append_getElem h, List.all_append]; simp
theorem l2Name_pure (s : List UInt8) (hs : s.length ≤ 9223372036854775806) : Pure Try.prog 29 [.str s] (· = .bool (nameL s)) := by
  refine pure_of_awp good Try.func29 rfl (by kernel_rfl) (by decide) ?_
  conv => whnf
  refine loop_intro (fun n fr st => st = [] ∧ ∃ i : Nat, n + i = s.length ∧ lower (s.take i) = true ∧ Holds fr [(0, .str s), (3, .int .i64 i)]) s.length ⟨rfl, 0, rfl, rfl, rfl, rfl, trivial⟩ ?_
  rintro n fr st ⟨rfl, i, hi, hlow, hh⟩
  obtain ⟨fr, rfl⟩ := hh.split
  clear hh
  conv => whnf
  by_cases hlt : i < s.length
  · rw [ltB_t (by omega)]
    have hstep := take_all (p := lowerB) hlt
    conv => whnf
    refine ⟨by omega, s[i], by simp [hlt], ?_⟩
    conv => whnf
    by_cases h1 : (97 : Int) ≤ (s[i].toNat : Int)
    · rw [ltB_f (by omega)]
      conv => whnf
      refine ⟨by omega, s[i], by simp [hlt], ?_⟩
      conv => whnf
      by_cases h2 : (s[i].toNat : Int) ≤ 122
      · rw [ltB_f (by omega)]
        conv => whnf
        refine ⟨n - 1, by omega, rfl, i + 1, by omega, ?_, ?_⟩
        · unfold lower at *; rw [hstep, hlow]; simp [lowerB]; omega
        · refine ⟨rfl, ?_, trivial⟩
          show V.int .i64 (IntKind.i64.wrap (i + 1)) = _
          rw [wrap64 (by omega) (by omega)]; simp
      · rw [ltB_t (by omega)]
        conv => whnf
        have hf : lower s = false := by
          unfold lower
          rw [List.all_eq_false]
          exact ⟨s[i], List.getElem_mem _, by simp only [lowerB, decide_eq_true_eq]; omega⟩
        simp only [nameL, hf, Bool.false_and]
    · rw [ltB_t (by omega)]
      conv => whnf
      have hf : lower s = false := by
        unfold lower
        rw [List.all_eq_false]
        exact ⟨s[i], List.getElem_mem _, by simp only [lowerB, decide_eq_true_eq]; omega⟩
      simp only [nameL, hf, Bool.false_and]
  · rw [ltB_f (by omega)]
    conv => whnf
    refine .inl ((l1In_pure _ _ _).mono ?_)
    rintro r rfl
    conv => whnf
    have : s.take i = s := List.take_of_length_le (by omega)
    rw [this] at hlow
    simp [nameL, hlow]
end Go.Cod

namespace Go.Cod
open Go Go.Proofs Go.ChangeShapes Go.WideShapes Go.ChangeAt Go.RowKit
set_option maxRecDepth 10000

/-- A tree. -/
inductive T where
  | mk (id : Int) (kind text : List UInt8) (kids : List T)

mutual
def T.cells : T → List V
  | .mk id kind text kids => [.int .i64 id, .str kind, .str text, .sl (T.rows kids)]
def T.rows : List T → List (List V)
  | [] => []
  | t :: ts => t.cells :: T.rows ts
end
theorem T.rows_eq (ts : List T) : T.rows ts = ts.map T.cells := by
  induction ts with
  | nil => rfl
  | cons t ts ih => simp [T.rows, ih]

/-- What a number, a text and a list may be at most. -/
inductive T.Ok : T → Prop
  | mk {id kind text kids} (h1 : -9223372036854775808 ≤ id ∧ id ≤ 9223372036854775807) (h2 : kind.length ≤ maxLen) (h3 : text.length ≤ maxLen) (h4 : kids.length ≤ maxLen) (h5 : ∀ t ∈ kids, T.Ok t) : T.Ok (.mk id kind text kids)

theorem map_of_forall {α β : Type} {f : α → β} {p : α → Prop} : ∀ {es : List β}, (∀ e ∈ es, ∃ a, e = f a ∧ p a) → ∃ xs : List α, es = xs.map f ∧ ∀ a ∈ xs, p a
  | [], _ => ⟨[], rfl, by simp⟩
  | e :: es, h => by
    obtain ⟨a, rfl, hp⟩ := h e (by simp)
    obtain ⟨xs, rfl, hq⟩ := map_of_forall (es := es) fun e he => h e (by simp [he])
    exact ⟨a :: xs, rfl, by simpa using ⟨hp, hq⟩⟩

theorem kids : Kids Try.prog (· < Try.prog.types.size) := kids_rows (by kernel_rfl) (by kernel_rfl)
theorem full : ∀ t e, t < Try.prog.types.size → Try.prog.underlying t = some (.slice e) → 0 < Try.prog.cellsOf e := slices_full_of Try.prog (by kernel_rfl)

theorem reads_tree {H : Type} {enc : TypeId × Value → H} {w : World} : ∀ n : Nat, Reads enc Try.prog w n 24 fun vs => ∃ t : T, vs = t.cells ∧ t.Ok := by
  intro n
  induction n using Nat.strongRecOn with
  | ind n ih =>
    have hS := reads_struct (enc := enc) (P := Try.prog) (w := w) (n := n) (t := 24)
      (Ss := [fun vs => ∃ i, vs = [.int .i64 i] ∧ IntKind.i64.min ≤ i ∧ i ≤ IntKind.i64.max, fun vs => ∃ s, vs = [.str s] ∧ s.length ≤ maxLen, fun vs => ∃ s, vs = [.str s] ∧ s.length ≤ maxLen,
        fun vs => ∃ es, vs = [.sl es] ∧ es.length ≤ maxLen ∧ ∀ r ∈ es, (∃ t : T, r = t.cells ∧ t.Ok) ∧ r.length = Try.prog.cellsOf 24 ∧ (∀ v ∈ r, v.leaf = true) ∧ V.clean.cleanL 0 r = true])
      kids (by decide +kernel) Try.underlying24 rfl ?_
    · intro cs x h
      obtain ⟨vs, ⟨_, _, rfl, ⟨i, rfl, hi⟩, _, _, rfl, ⟨s, rfl, hs⟩, _, _, rfl, ⟨s', rfl, hs'⟩, _, _, rfl, ⟨es, rfl, hes, hr⟩, rfl⟩, h2⟩ := hS cs x h
      obtain ⟨ts, rfl, hts⟩ := map_of_forall (f := T.cells) (p := T.Ok) fun e he => (hr e he).1
      refine ⟨_, ⟨.mk i s s' ts, ?_, .mk hi hs hs' (by simpa using hes) hts⟩, h2⟩
      simp [T.cells, T.rows_eq]
    · intro m hm j f S h1 h2
      match j with
      | 0 => simp at h1 h2; subst h1 h2; exact reads_int Try.underlying3
      | 1 => simp at h1 h2; subst h1 h2; exact reads_str Try.underlying9
      | 2 => simp at h1 h2; subst h1 h2; exact reads_str Try.underlying9
      | 3 => simp at h1 h2; subst h1 h2; exact reads_slice Try.underlying22 (by decide +kernel) fun m' hm' => ih m' (by omega)
      | j + 4 => simp at h1

end Go.Cod

namespace Go.Cod
open Go Go.Proofs
set_option maxRecDepth 10000

def T.kids : T → List T
  | .mk _ _ _ kids => kids
mutual
def szT : T → Int → Int
  | .mk _ kind text kids, left =>
    if left - kind.length < 0 then -1 else
    if left - kind.length - text.length < 0 then -1 else
    let l := if left - kind.length - text.length - kids.length < 0 then -1 else szGo kids (left - kind.length - text.length - kids.length)
    if l < 0 then -1 else l
def szGo : List T → Int → Int
  | [], l => l
  | t :: ts, l => if szT t l < 0 then -1 else szGo ts (szT t l)
end
def szL (ts : List T) (left : Int) : Int := if left - ts.length < 0 then -1 else szGo ts (left - ts.length)

mutual
theorem szT_le : ∀ (t : T) (left : Int), 0 ≤ left → szT t left ≤ left ∧ -1 ≤ szT t left
  | .mk id kind text kids, left, h => by
    simp only [szT]
    have := szGo_le kids (left - kind.length - text.length - kids.length)
    split
    · omega
    split
    · omega
    split
    · simp; omega
    · split <;> omega
theorem szGo_le : ∀ (ts : List T) (left : Int), 0 ≤ left → szGo ts left ≤ left ∧ -1 ≤ szGo ts left
  | [], left, h => by simp [szGo]; omega
  | t :: ts, left, h => by
    simp only [szGo]
    have := szT_le t left h
    split
    · omega
    · have := szGo_le ts (szT t left) (by omega)
      omega
end
theorem szL_le (ts : List T) (left : Int) (h : 0 ≤ left) : szL ts left ≤ left ∧ -1 ≤ szL ts left := by
  unfold szL
  split
  · omega
  · have := szGo_le ts (left - ts.length) (by omega)
    omega

theorem szT_pure1 (t : T) (ht : t.Ok) (left : Int) (h0 : 0 ≤ left) (h1 : left ≤ 4611686018427387904)
    (hL : ∀ left : Int, 0 ≤ left → left ≤ 4611686018427387904 → Pure Try.prog 9 [.sl (T.rows t.kids), .int .i64 left] (· = .int .i64 (szL t.kids left))) :
    Pure Try.prog 4 [.agg t.cells, .int .i64 left] (· = .int .i64 (szT t left)) := by
  cases ht with
  | @mk id kind text kids g1 g2 g3 g4 g5 =>
  simp only [maxLen] at g2 g3 g4
  refine pure_of_awp good Try.func4 rfl (by kernel_rfl) (by decide) ?_
  conv => whnf
  rw [wrap64 (by omega) (by omega)]
  by_cases a1 : left - kind.length < 0
  · rw [ltB_t (by omega)]
    conv => whnf
    simp [szT, a1]
  rw [ltB_f (by omega)]
  conv => whnf
  rw [wrap64 (by omega) (by omega)]
  by_cases a2 : left - kind.length - text.length < 0
  · rw [ltB_t (by omega)]
    conv => whnf
    simp [szT, a1, a2]
  rw [ltB_f (by omega)]
  conv => whnf
  refine .inl ((hL (left - kind.length - text.length) (by omega) (by omega)).mono ?_)
  rintro r rfl
  simp only [T.kids]
  have hb := szL_le kids (left - kind.length - text.length) (by omega)
  have he : szT (.mk id kind text kids) left = if szL kids (left - kind.length - text.length) < 0 then -1 else szL kids (left - kind.length - text.length) := by
    simp only [szT, szL, if_neg a1, if_neg a2]
    rfl
  conv => whnf
  by_cases a3 : szL kids (left - kind.length - text.length) < 0
  · rw [ltB_t (by omega)]
    conv => whnf
    rw [he, if_pos a3]
  rw [ltB_f (by omega)]
  conv => whnf
  rw [he, if_neg a3]

theorem rows_get (ts : List T) (i : Nat) (h : i < ts.length) : (T.rows ts)[i]? = some ts[i].cells := by
  rw [T.rows_eq]; simp [h]
theorem rows_len (ts : List T) : (T.rows ts).length = ts.length := by rw [T.rows_eq]; simp
theorem cells_len (t : T) : t.cells.length = 4 := by cases t; rfl

theorem szGo_drop (ts : List T) (i : Nat) (h : i < ts.length) (l : Int) : szGo (ts.drop i) l = if szT ts[i] l < 0 then -1 else szGo (ts.drop (i + 1)) (szT ts[i] l) := by
  rw [List.drop_eq_getElem_cons h]; simp [szGo]

theorem szL_pure1 (ts : List T) (hl : ts.length ≤ 9223372036854775807) (left : Int) (h0 : 0 ≤ left) (h1 : left ≤ 4611686018427387904)
    (hT : ∀ t ∈ ts, ∀ left : Int, 0 ≤ left → left ≤ 4611686018427387904 → Pure Try.prog 4 [.agg t.cells, .int .i64 left] (· = .int .i64 (szT t left))) :
    Pure Try.prog 9 [.sl (T.rows ts), .int .i64 left] (· = .int .i64 (szL ts left)) := by
  have hlr := rows_len ts
  refine pure_of_awp good Try.func9 rfl (by kernel_rfl) (by decide) ?_
  conv => whnf
  rw [wrap64 (by omega) (by omega)]
  by_cases a1 : left - ts.length < 0
  · rw [ltB_t (by omega)]
    conv => whnf
    simp [szL, a1]
  rw [ltB_f (by omega)]
  conv => whnf
  refine loop_intro (fun n fr st => st = [] ∧ ∃ (i : Nat) (l : Int), n + i = ts.length ∧ 0 ≤ l ∧ l ≤ 4611686018427387904 ∧ szL ts left = szGo (ts.drop i) l ∧ Holds fr [(0, .sl (T.rows ts)), (1, .int .i64 l), (5, .int .i64 i)]) ts.length
    ⟨rfl, 0, left - (T.rows ts).length, by simp, by omega, by omega, by simp [szL, hlr, a1], rfl, rfl, rfl, trivial⟩ ?_
  rintro n fr st ⟨rfl, i, l, hi, b0, b1, hsz, hh⟩
  obtain ⟨fr, rfl⟩ := hh.split
  clear hh
  conv => whnf
  by_cases hlt : i < ts.length
  · rw [ltB_t (by omega)]
    conv => whnf
    refine ⟨by omega, T.rows ts, ts[i].cells, 4, rfl, rows_get ts i hlt, rfl, cells_len _, ?_⟩
    have hc := hT ts[i] (List.getElem_mem _) l b0 b1
    have hb := szT_le ts[i] l b0
    rw [szGo_drop ts i hlt] at hsz
    generalize hg : ts[i] = t at hc hb hsz ⊢
    cases t with
    | mk id kind text kids =>
    conv => whnf
    refine .inl (hc.mono ?_)
    rintro r rfl
    conv => whnf
    by_cases a3 : szT (.mk id kind text kids) l < 0
    · rw [ltB_t (by omega)]
      conv => whnf
      rw [hsz, if_pos a3]
    rw [ltB_f (by omega)]
    conv => whnf
    refine ⟨n - 1, by omega, rfl, i + 1, szT (.mk id kind text kids) l, by omega, by omega, by omega, ?_, rfl, rfl, ?_, trivial⟩
    · rw [hsz, if_neg a3]
    · show V.int .i64 (IntKind.i64.wrap (i + 1)) = _
      rw [wrap64 (by omega) (by omega)]; simp
  · rw [ltB_f (by omega)]
    conv => whnf
    rw [hsz, List.drop_of_length_le (by omega)]
    rfl

theorem szT_pure (t : T) (ht : t.Ok) : ∀ (left : Int), 0 ≤ left → left ≤ 4611686018427387904 → Pure Try.prog 4 [.agg t.cells, .int .i64 left] (· = .int .i64 (szT t left)) := by
  induction ht with
  | @mk id kind text kids g1 g2 g3 g4 g5 ih =>
    intro left h0 h1
    exact szT_pure1 _ (.mk g1 g2 g3 g4 g5) left h0 h1 fun left h0 h1 => szL_pure1 kids (by simpa [maxLen] using g4) left h0 h1 ih
end Go.Cod

namespace Go.Cod
open Go Go.Proofs
set_option maxRecDepth 10000

inductive T.Small : T → Prop
  | mk {id kind text kids} (h1 : -9223372036854775808 ≤ id ∧ id ≤ 9223372036854775807) (h2 : kind.length ≤ 1048576) (h3 : text.length ≤ 1048576) (h4 : kids.length ≤ 1048576) (h5 : ∀ t ∈ kids, T.Small t) : T.Small (.mk id kind text kids)

def zrow : List V := [.int .i64 0, .str [], .str [], .nils]
def mix (ts : List T) (i : Nat) : List (List V) := (T.rows ts).take i ++ List.replicate (ts.length - i) zrow
theorem mix_get (ts : List T) (i : Nat) (h : i < ts.length) : (mix ts i)[i]? = some zrow := by
  unfold mix
  rw [List.getElem?_append_right (by rw [List.length_take, rows_len]; omega)]
  rw [List.length_take, rows_len, Nat.min_eq_left (by omega), Nat.sub_self, List.getElem?_replicate, if_pos (by omega)]
theorem mix_set (ts : List T) (i : Nat) (h : i < ts.length) : (mix ts i).set i ts[i].cells = mix ts (i + 1) := by
  unfold mix
  rw [List.set_append_right _ _ (by rw [List.length_take, rows_len]; omega), List.length_take, rows_len, Nat.min_eq_left (by omega), Nat.sub_self]
  rw [show ts.length - i = (ts.length - (i + 1)) + 1 by omega, List.replicate_succ, List.set_cons_zero, List.take_add_one, rows_get ts i h]
  simp
theorem toTreeS_pure1 (ts : List T) (hl : ts.length ≤ 1048576) (hT : ∀ t ∈ ts, Pure Try.prog 6 [.agg t.cells] (· = .agg t.cells)) :
    Pure Try.prog 13 [.sl (T.rows ts)] (· = .sl (T.rows ts)) := by
  have hlr := rows_len ts
  refine pure_of_awp good Try.func13 rfl (by kernel_rfl) (by decide) ?_
  conv => whnf
  refine ⟨by omega, by omega, ?_⟩
  conv => whnf
  refine ⟨by show (Int.toNat _) * 64 ≤ _; omega, by omega, ?_⟩
  conv => whnf
  refine loop_intro (fun n fr st => ∃ i : Nat, n + i = ts.length ∧ st = [⟨mix ts i, 4, true, true, false, .cell⟩] ∧ Holds fr [(0, .sl (T.rows ts)), (3, .own 0), (4, .int .i64 i)]) ts.length
    ⟨0, rfl, by simp [mix, hlr, zrow, V.cells], rfl, rfl, rfl, trivial⟩ ?_
  rintro n fr st ⟨i, hi, rfl, hh⟩
  obtain ⟨fr, rfl⟩ := hh.split
  clear hh
  conv => whnf
  by_cases hlt : i < ts.length
  · rw [ltB_t (by omega)]
    conv => whnf
    refine ⟨by omega, T.rows ts, ts[i].cells, 4, rfl, rows_get ts i hlt, rfl, cells_len _, ?_⟩
    have hc := hT ts[i] (List.getElem_mem _)
    have hm := mix_set ts i hlt
    have hmg := mix_get ts i hlt
    generalize ts[i] = t at hc hm
    cases t with
    | mk id kind text kids =>
    conv => whnf
    refine .inl (hc.mono ?_)
    rintro r rfl
    conv => whnf
    refine ⟨by omega, mix ts i, zrow, 4, rfl, hmg, rfl, rfl, ?_⟩
    conv => whnf
    refine AtRow_intro zrow hmg ?_
    conv => whnf
    refine ⟨n - 1, by omega, i + 1, by omega, ?_, rfl, rfl, ?_, trivial⟩
    · rw [← hm]; rfl
    · show V.int .i64 (IntKind.i64.wrap (i + 1)) = _
      rw [wrap64 (by omega) (by omega)]; simp
  · rw [ltB_f (by omega)]
    conv => whnf
    show V.sl (mix ts i) = _
    rw [mix, show ts.length - i = 0 by omega, List.take_of_length_le (by rw [hlr]; omega)]
    simp

theorem toTree_pure1 (t : T) (ht : t.Small)
    (hL : Pure Try.prog 13 [.sl (T.rows t.kids)] (· = .sl (T.rows t.kids))) :
    Pure Try.prog 6 [.agg t.cells] (· = .agg t.cells) := by
  cases ht with
  | @mk id kind text kids g1 g2 g3 g4 g5 =>
  simp only [T.kids] at hL
  refine pure_of_awp good Try.func6 rfl (by kernel_rfl) (by decide) ?_
  conv => whnf
  refine .inl (hL.mono ?_)
  rintro r rfl
  conv => whnf
  rfl
end Go.Cod

namespace Go.Cod
open Go Go.Proofs
set_option maxRecDepth 10000

theorem eqB_refl (a : Int) : eqB a a = true := by rw [eqB_def]; simp
theorem eqS_refl (a : List UInt8) : eqS a a = true := by rw [eqS_def]; simp

theorem eqTreeS_pure1 (ts : List T) (hl : ts.length ≤ 1048576) (hT : ∀ t ∈ ts, Pure Try.prog 8 [.agg t.cells, .agg t.cells] (· = .bool true)) :
    Pure Try.prog 16 [.sl (T.rows ts), .sl (T.rows ts)] (· = .bool true) := by
  have hlr := rows_len ts
  refine pure_of_awp good Try.func16 rfl (by kernel_rfl) (by decide) ?_
  conv => whnf
  rw [eqB_refl]
  conv => whnf
  refine loop_intro (fun n fr st => ∃ i : Nat, n + i = ts.length ∧ st = [] ∧ Holds fr [(0, .sl (T.rows ts)), (1, .sl (T.rows ts)), (5, .int .i64 i)]) ts.length
    ⟨0, rfl, rfl, rfl, rfl, rfl, trivial⟩ ?_
  rintro n fr st ⟨i, hi, rfl, hh⟩
  obtain ⟨fr, rfl⟩ := hh.split
  clear hh
  conv => whnf
  by_cases hlt : i < ts.length
  · rw [ltB_t (by omega)]
    conv => whnf
    refine ⟨by omega, T.rows ts, ts[i].cells, 4, rfl, rows_get ts i hlt, rfl, cells_len _, ?_⟩
    have hc := hT ts[i] (List.getElem_mem _)
    have hmg := rows_get ts i hlt
    generalize ts[i] = t at hc hmg
    cases t with
    | mk id kind text kids =>
    conv => whnf
    refine ⟨by omega, T.rows ts, _, 4, rfl, hmg, rfl, rfl, ?_⟩
    conv => whnf
    refine ⟨_, .inl hc, ?_⟩
    conv => whnf
    refine ⟨n - 1, by omega, i + 1, by omega, rfl, rfl, rfl, ?_, trivial⟩
    · show V.int .i64 (IntKind.i64.wrap (i + 1)) = _
      rw [wrap64 (by omega) (by omega)]; simp
  · rw [ltB_f (by omega)]
    conv => whnf

theorem eqTree_pure1 (t : T) (hL : Pure Try.prog 16 [.sl (T.rows t.kids), .sl (T.rows t.kids)] (· = .bool true)) :
    Pure Try.prog 8 [.agg t.cells, .agg t.cells] (· = .bool true) := by
  cases t with
  | mk id kind text kids =>
  simp only [T.kids] at hL
  refine pure_of_awp good Try.func8 rfl (by kernel_rfl) (by decide) ?_
  conv => whnf
  rw [eqB_refl]
  conv => whnf
  rw [eqS_refl]
  conv => whnf
  rw [eqS_refl]
  conv => whnf
  refine .inl (hL.mono ?_)
  rintro r rfl
  conv => whnf

theorem toTree_pure (t : T) (ht : t.Small) : Pure Try.prog 6 [.agg t.cells] (· = .agg t.cells) := by
  induction ht with
  | @mk id kind text kids g1 g2 g3 g4 g5 ih => exact toTree_pure1 _ (.mk g1 g2 g3 g4 g5) (toTreeS_pure1 kids g4 ih)
theorem eqTree_pure (t : T) (ht : t.Small) : Pure Try.prog 8 [.agg t.cells, .agg t.cells] (· = .bool true) := by
  induction ht with
  | @mk id kind text kids g1 g2 g3 g4 g5 ih => exact eqTree_pure1 _ (eqTreeS_pure1 kids g4 ih)

mutual
theorem small_of_sz : ∀ (t : T), t.Ok → ∀ left : Int, left ≤ 1048576 → 0 ≤ szT t left → t.Small
  | .mk id kind text kids, ht, left, h1, h2 => by
    cases ht with
    | mk g1 g2 g3 g4 g5 =>
      simp only [szT] at h2
      split at h2
      · omega
      split at h2
      · omega
      split at h2
      · simp at h2
      rename_i a1 a2 a3
      split at h2
      · omega
      refine .mk g1 (by omega) (by omega) (by omega) (small_of_szGo kids g5 _ (by omega) h2)
theorem small_of_szGo : ∀ (ts : List T), (∀ t ∈ ts, t.Ok) → ∀ left : Int, left ≤ 1048576 → 0 ≤ szGo ts left → ∀ t ∈ ts, t.Small
  | [], _, _, _, _ => by simp
  | t :: ts, h, left, h1, h2 => by
    simp only [szGo] at h2
    split at h2
    · omega
    rename_i a1
    by_cases h0 : 0 ≤ left
    · have h3 := (szT_le t left h0).1
      intro t' ht'
      have hh := small_of_sz t (h _ (by simp)) left h1 (by omega)
      rcases List.mem_cons.1 ht' with rfl | ht'
      · exact hh
      · exact small_of_szGo ts (fun t ht => h t (by simp [ht])) _ (by omega) h2 t' ht'
    · exfalso
      have : szT t left < 0 := by
        cases t with
        | mk id kind text kids => simp only [szT]; rw [if_pos (by omega)]; omega
      omega
end

end Go.Cod

namespace Go.Cod
open Go Go.Proofs
set_option maxRecDepth 10000

/-- Rows of numbers. -/
def irows (ns : List Int) : List (List V) := ns.map fun n => [.int .i64 n]
theorem irows_len (ns : List Int) : (irows ns).length = ns.length := by simp [irows]
theorem irows_get (ns : List Int) (i : Nat) (h : i < ns.length) : (irows ns)[i]? = some [.int .i64 ns[i]] := by simp [irows, h]

theorem l2Has_pure (ns : List Int) (x : Int) (hl : ns.length ≤ 9223372036854775806) : Pure Try.prog 19 [.sl (irows ns), .int .i64 x] (· = .bool (decide (x ∈ ns))) := by
  have hlr := irows_len ns
  refine pure_of_awp good Try.func19 rfl (by kernel_rfl) (by decide) ?_
  conv => whnf
  refine loop_intro (fun n fr st => ∃ i : Nat, n + i = ns.length ∧ st = [] ∧ x ∉ ns.take i ∧ Holds fr [(0, .sl (irows ns)), (1, .int .i64 x), (5, .int .i64 i)]) ns.length
    ⟨0, rfl, rfl, by simp, rfl, rfl, rfl, trivial⟩ ?_
  rintro n fr st ⟨i, hi, rfl, hx, hh⟩
  obtain ⟨fr, rfl⟩ := hh.split
  clear hh
  conv => whnf
  by_cases hlt : i < ns.length
  · rw [ltB_t (by omega)]
    conv => whnf
    refine ⟨by omega, irows ns, _, 1, rfl, irows_get ns i hlt, rfl, rfl, ?_⟩
    conv => whnf
    by_cases he : ns[i] = x
    · rw [eqB_t he]
      conv => whnf
      have : x ∈ ns := he ▸ List.getElem_mem _
      simp [this]
    · rw [eqB_f he]
      conv => whnf
      refine ⟨n - 1, by omega, i + 1, by omega, rfl, ?_, rfl, rfl, ?_, trivial⟩
      · rw [List.take_succ_eq_append_getElem hlt]
        simp only [List.mem_append, List.mem_singleton, not_or]
        exact ⟨hx, fun h => he h.symm⟩
      · show V.int .i64 (IntKind.i64.wrap (i + 1)) = _
        rw [wrap64 (by omega) (by omega)]; simp
  · rw [ltB_f (by omega)]
    conv => whnf
    rw [List.take_of_length_le (by omega)] at hx
    simp [hx]

mutual
def T.ids : T → List Int
  | .mk id _ _ kids => id :: T.idsL kids
def T.idsL : List T → List Int
  | [] => []
  | t :: ts => t.ids ++ T.idsL ts
end
theorem idsL_append (a b : List T) : T.idsL (a ++ b) = T.idsL a ++ T.idsL b := by
  induction a with
  | nil => rfl
  | cons x xs ih => simp [T.idsL, ih]
theorem idsL_take (ts : List T) (i : Nat) (h : i < ts.length) : T.idsL (ts.take (i + 1)) = T.idsL (ts.take i) ++ ts[i].ids := by
  rw [List.take_succ_eq_append_getElem h, idsL_append]; simp [T.idsL]
def textB (c : UInt8) : Bool := decide (32 ≤ c.toNat ∧ c.toNat ≤ 126 ∧ c.toNat ≠ 34)
def textL (s : List UInt8) : Bool := s.all textB && decide ((s.length : Int) ≤ 12)
theorem l2Text_pure (s : List UInt8) (hs : s.length ≤ 9223372036854775806) : Pure Try.prog 30 [.str s] (· = .bool (textL s)) := by
  have hno : ∀ (i : Nat) (h : i < s.length), textB s[i] = false → textL s = false := by
    intro i h hb
    have : s.all textB = false := by rw [List.all_eq_false]; exact ⟨s[i], List.getElem_mem _, by simp [hb]⟩
    simp only [textL, this, Bool.false_and]
  refine pure_of_awp good Try.func30 rfl (by kernel_rfl) (by decide) ?_
  conv => whnf
  refine loop_intro (fun n fr st => st = [] ∧ ∃ i : Nat, n + i = s.length ∧ (s.take i).all textB = true ∧ Holds fr [(0, .str s), (3, .int .i64 i)]) s.length ⟨rfl, 0, rfl, rfl, rfl, rfl, trivial⟩ ?_
  rintro n fr st ⟨rfl, i, hi, hlow, hh⟩
  obtain ⟨fr, rfl⟩ := hh.split
  clear hh
  conv => whnf
  by_cases hlt : i < s.length
  · rw [ltB_t (by omega)]
    have hstep := take_all (p := textB) hlt
    have hn := hno i hlt
    conv => whnf
    refine ⟨by omega, s[i], by simp [hlt], ?_⟩
    conv => whnf
    by_cases h1 : (s[i].toNat : Int) < 32
    · rw [ltB_t h1]
      conv => whnf
      rw [hn (by simp only [textB, decide_eq_false_iff_not]; omega)]
    rw [ltB_f (by omega)]
    conv => whnf
    refine ⟨by omega, s[i], by simp [hlt], ?_⟩
    conv => whnf
    by_cases h2 : (126 : Int) < s[i].toNat
    · rw [ltB_t h2]
      conv => whnf
      rw [hn (by simp only [textB, decide_eq_false_iff_not]; omega)]
    rw [ltB_f (by omega)]
    conv => whnf
    refine ⟨by omega, s[i], by simp [hlt], ?_⟩
    conv => whnf
    by_cases h3 : (s[i].toNat : Int) = 34
    · rw [eqB_t h3]
      conv => whnf
      rw [hn (by simp only [textB, decide_eq_false_iff_not]; omega)]
    rw [eqB_f h3]
    conv => whnf
    refine ⟨n - 1, by omega, rfl, i + 1, by omega, ?_, rfl, ?_, trivial⟩
    · rw [hstep, hlow]; simp only [textB, Bool.true_and, decide_eq_true_eq]; omega
    · show V.int .i64 (IntKind.i64.wrap (i + 1)) = _
      rw [wrap64 (by omega) (by omega)]; simp
  · rw [ltB_f (by omega)]
    conv => whnf
    rw [List.take_of_length_le (by omega)] at hlow
    show V.bool (leB _ _) = _
    simp [textL, hlow, leB_def]
end Go.Cod

namespace Go.Cod
open Go Go.Proofs
set_option maxRecDepth 10000

mutual
def plainT : T → Int → Bool
  | .mk id kind text kids, lv => !decide (6 < lv) && decide (1 ≤ id ∧ id ≤ 999) && nameL kind && textL text && plainL kids (lv + 1)
def plainL : List T → Int → Bool
  | [], _ => true
  | t :: ts, lv => plainT t lv && plainL ts lv
end
theorem plainL_eq (ts : List T) (lv : Int) : plainL ts lv = ts.all fun t => plainT t lv := by
  induction ts with
  | nil => rfl
  | cons t ts ih => simp [plainL, ih]

theorem l2Plain_pure1 (t : T) (hs : t.Small) (lv : Int) (h0 : 0 ≤ lv) (h7 : lv ≤ 1000) (hT : lv ≤ 6 → ∀ t' ∈ t.kids, Pure Try.prog 17 [.agg t'.cells, .int .i64 (lv + 1)] (· = .bool (plainT t' (lv + 1)))) :
    Pure Try.prog 17 [.agg t.cells, .int .i64 lv] (· = .bool (plainT t lv)) := by
  cases hs with
  | @mk id kind text kids g1 g2 g3 g4 g5 =>
  simp only [T.kids] at hT
  have hlr := rows_len kids
  refine pure_of_awp good Try.func17 rfl (by kernel_rfl) (by decide) ?_
  conv => whnf
  by_cases a1 : 6 < lv
  · rw [ltB_t a1]
    conv => whnf
    simp [plainT, a1]
  rw [ltB_f (by omega)]
  conv => whnf
  refine .inl ((l1In_pure _ _ _).mono ?_)
  rintro r rfl
  by_cases a2 : 1 ≤ id ∧ id ≤ 999
  case neg =>
    rw [decide_eq_false a2]
    conv => whnf
    simp [plainT, a2]
  rw [decide_eq_true a2]
  conv => whnf
  refine .inl ((l2Name_pure kind (by omega)).mono ?_)
  rintro r rfl
  cases a3 : nameL kind
  · conv => whnf
    simp [plainT, a3]
  conv => whnf
  refine .inl ((l2Text_pure text (by omega)).mono ?_)
  rintro r rfl
  cases a4 : textL text
  · conv => whnf
    simp [plainT, a4]
  conv => whnf
  have hp : plainT (.mk id kind text kids) lv = plainL kids (lv + 1) := by simp [plainT, a1, a2, a3, a4]
  rw [plainL_eq] at hp
  refine loop_intro (fun n fr st => ∃ i : Nat, n + i = kids.length ∧ st = [⟨[[.int .i64 id, .str kind, .str text, .sl (T.rows kids)]], 4, true, true, true, .cell⟩] ∧ (kids.take i).all (fun t => plainT t (lv + 1)) = true ∧ Holds fr [(1, .int .i64 lv), (2, .ptr 0 0 0), (5, .int .i64 i)]) kids.length
    ⟨0, rfl, rfl, rfl, rfl, rfl, rfl, trivial⟩ ?_
  rintro n fr st ⟨i, hi, rfl, hx, hh⟩
  obtain ⟨fr, rfl⟩ := hh.split
  clear hh
  conv => whnf
  by_cases hlt : i < kids.length
  · rw [ltB_t (by omega)]
    conv => whnf
    refine ⟨by omega, T.rows kids, kids[i].cells, 4, rfl, rows_get kids i hlt, rfl, cells_len _, ?_⟩
    have hc := hT (by omega) kids[i] (List.getElem_mem _)
    have hst : (kids.take (i + 1)).all (fun t => plainT t (lv + 1)) = plainT kids[i] (lv + 1) := by
      rw [List.take_succ_eq_append_getElem hlt, List.all_append, hx]; simp
    have hno : plainT kids[i] (lv + 1) = false → kids.all (fun t => plainT t (lv + 1)) = false := by
      intro h; rw [List.all_eq_false]; exact ⟨kids[i], List.getElem_mem _, by simp [h]⟩
    generalize kids[i] = t at hc hst hno ⊢
    cases t with
    | mk id' kind' text' kids' =>
    conv => whnf
    rw [wrap64 (by omega) (by omega)]
    refine .inl (hc.mono ?_)
    rintro r rfl
    cases a5 : plainT (.mk id' kind' text' kids') (lv + 1)
    · conv => whnf
      rw [hp, hno a5]
    conv => whnf
    refine ⟨n - 1, by omega, i + 1, by omega, rfl, by rw [hst, a5], rfl, rfl, ?_, trivial⟩
    show V.int .i64 (IntKind.i64.wrap (i + 1)) = _
    rw [wrap64 (by omega) (by omega)]; simp
  · rw [ltB_f (by omega)]
    conv => whnf
    rw [List.take_of_length_le (by omega)] at hx
    rw [hp, hx]

theorem l2Plain_pure (t : T) (hs : t.Small) : ∀ lv : Int, 0 ≤ lv → lv ≤ 1000 → Pure Try.prog 17 [.agg t.cells, .int .i64 lv] (· = .bool (plainT t lv)) := by
  induction hs with
  | @mk id kind text kids g1 g2 g3 g4 g5 ih =>
    intro lv h0 h7
    exact l2Plain_pure1 _ (.mk g1 g2 g3 g4 g5) lv h0 h7 fun h t' ht' => ih t' ht' (lv + 1) (by omega) (by omega)
end Go.Cod

namespace Go.Cod
open Go Go.Proofs
set_option maxRecDepth 10000

mutual
theorem ids_sz : ∀ (t : T) (left : Int), 0 ≤ szT t left → szT t left + t.ids.length ≤ left + 1
  | .mk id kind text kids, left, h => by
    simp only [szT] at h ⊢
    split at h
    · omega
    split at h
    · omega
    split at h
    · simp at h
    rename_i a1 a2 a3
    rw [if_neg a1, if_neg a2, if_neg a3]
    split at h
    · omega
    rename_i a4
    rw [if_neg a4]
    have := ids_szGo kids _ h
    simp only [T.ids, List.length_cons]
    omega
theorem ids_szGo : ∀ (ts : List T) (left : Int), 0 ≤ szGo ts left → szGo ts left + (T.idsL ts).length ≤ left + ts.length
  | [], left, h => by simp [szGo, T.idsL]
  | t :: ts, left, h => by
    simp only [szGo] at h ⊢
    split at h
    · omega
    rename_i a1
    rw [if_neg a1]
    have h1 := ids_sz t left (by omega)
    have h2 := ids_szGo ts _ h
    simp only [T.idsL, List.length_append, List.length_cons]
    omega
end
theorem idsL_split (ts : List T) (i : Nat) : T.idsL ts = T.idsL (ts.take i) ++ T.idsL (ts.drop i) := by
  induction ts generalizing i with
  | nil => simp [T.idsL]
  | cons t ts ih => cases i with
    | zero => simp [T.idsL]
    | succ i => simp only [List.take_succ_cons, List.drop_succ_cons, T.idsL, List.append_assoc]; rw [← ih i]
theorem irows_wid (l : List Int) : ∀ m ∈ irows l, m.length = 1 := by simp [irows]

theorem l2Ids_pure1 (t : T) (hs : t.Small) (hn : t.ids.length ≤ 1048577) (hT : ∀ t' ∈ t.kids, (t'.ids).length ≤ 1048577 → Pure Try.prog 18 [.agg t'.cells] (· = .sl (irows (t'.ids)))) :
    Pure Try.prog 18 [.agg t.cells] (· = .sl (irows t.ids)) := by
  cases hs with
  | @mk id kind text kids g1 g2 g3 g4 g5 =>
  simp only [T.kids, T.ids, List.length_cons] at hT hn ⊢
  have hlr := rows_len kids
  refine pure_of_awp good Try.func18 rfl (by kernel_rfl) (by decide) ?_
  conv => whnf
  refine loop_drop (fun n fr st => ∃ i : Nat, n + i = kids.length ∧ st = [⟨[[.int .i64 id, .str kind, .str text, .sl (T.rows kids)]], 4, true, true, true, .cell⟩, ⟨irows (id :: T.idsL (kids.take i)), 1, true, true, false, .cell⟩] ∧ Holds fr [(1, .ptr 0 0 0), (3, .own 1), (4, .int .i64 i)]) kids.length none
    ⟨0, rfl, rfl, rfl, rfl, rfl, trivial⟩ ?_
  rintro n fr st ⟨i, hi, rfl, hh⟩
  obtain ⟨fr, rfl⟩ := hh.split
  clear hh
  conv => whnf
  by_cases hlt : i < kids.length
  · rw [ltB_t (by omega)]
    conv => whnf
    refine ⟨by omega, T.rows kids, kids[i].cells, 4, rfl, rows_get kids i hlt, rfl, cells_len _, ?_⟩
    have hsp := idsL_split kids (i + 1)
    have htk := idsL_take kids i hlt
    have hl1 : (T.idsL kids).length = (T.idsL (kids.take (i + 1))).length + (T.idsL (kids.drop (i + 1))).length := by rw [hsp]; simp
    have hl2 : (T.idsL (kids.take (i + 1))).length = (T.idsL (kids.take i)).length + (kids[i].ids).length := by rw [htk]; simp
    have hc := hT kids[i] (List.getElem_mem _) (by omega)
    generalize kids[i] = t at hc htk hl2 ⊢
    cases t with
    | mk id' kind' text' kids' =>
    conv => whnf
    refine .inl (hc.mono ?_)
    rintro r rfl
    conv => whnf
    refine ⟨irows_wid _, ?_⟩
    conv => whnf
    refine ⟨by rw [irows_len, irows_len]; show (_ + _) * 8 ≤ _; simp only [List.length_cons]; omega, ?_⟩
    conv => whnf
    refine ⟨n - 1, by omega, some [0, 2], ?_⟩
    conv => whnf
    refine ⟨i + 1, by omega, ?_, rfl, rfl, ?_, trivial⟩
    · show [_, _] = [_, _]
      rw [htk]
      simp only [irows, List.map_cons, List.map_append]
      rfl
    · show V.int .i64 (IntKind.i64.wrap (i + 1)) = _
      rw [wrap64 (by omega) (by omega)]; simp
  · rw [ltB_f (by omega)]
    conv => whnf
    rw [List.take_of_length_le (by omega)]

theorem l2Ids_pure (t : T) (hs : t.Small) : t.ids.length ≤ 1048577 → Pure Try.prog 18 [.agg t.cells] (· = .sl (irows t.ids)) := by
  induction hs with
  | @mk id kind text kids g1 g2 g3 g4 g5 ih =>
    intro hn
    exact l2Ids_pure1 _ (.mk g1 g2 g3 g4 g5) hn fun t' ht' h => ih t' ht' h

theorem nodup_take {l : List Int} {i : Nat} (h : i < l.length) : (l.take (i + 1)).Nodup ↔ (l.take i).Nodup ∧ l[i] ∉ l.take i := by
  rw [List.take_succ_eq_append_getElem h, List.nodup_append]
  simp
  intro _
  constructor
  · intro h h2; exact h _ h2 rfl
  · intro h a ha e; exact h (e ▸ ha)

def okT (t : T) : Bool := plainT t 1 && decide t.ids.Nodup && decide (t.ids.length ≤ 20)

theorem specTreeOk_pure (t : T) (hs : t.Small) (hn : t.ids.length ≤ 1048577) : Pure Try.prog 10 [.agg t.cells] (· = .bool (okT t)) := by
  have hp := l2Plain_pure t hs 1 (by omega) (by omega)
  have hi := l2Ids_pure t hs hn
  have hok : okT t = (plainT t 1 && decide t.ids.Nodup && decide (t.ids.length ≤ 20)) := rfl
  generalize okT t = ok at *
  generalize plainT t 1 = pl at *
  generalize t.ids = ids at *
  cases t with
  | mk id kind text kids =>
  refine pure_of_awp good Try.func10 rfl (by kernel_rfl) (by decide) ?_
  conv => whnf
  refine .inl (hp.mono ?_)
  rintro r rfl
  cases pl
  · conv => whnf
    simp at hok; rw [hok]
  conv => whnf
  refine .inl (hi.mono ?_)
  rintro r rfl
  conv => whnf
  refine loop_intro (fun n fr st => ∃ i : Nat, n + i = ids.length ∧ st = [⟨[[.int .i64 id, .str kind, .str text, .sl (T.rows kids)]], 4, true, true, true, .cell⟩] ∧ (ids.take i).Nodup ∧ Holds fr [(3, .sl (irows ids)), (4, .int .i64 i)]) ids.length
    ⟨0, rfl, rfl, by simp, rfl, rfl, trivial⟩ ?_
  rintro n fr st ⟨i, hi, rfl, hx, hh⟩
  obtain ⟨fr, rfl⟩ := hh.split
  clear hh
  conv => whnf
  have hlr := irows_len ids
  by_cases hlt : i < ids.length
  · rw [ltB_t (by omega)]
    conv => whnf
    refine ⟨irows_wid _, ?_⟩
    conv => whnf
    refine ⟨by omega, by show Int.toNat (i : Int) ≤ _; rw [hlr]; omega, rfl, ?_⟩
    conv => whnf
    refine ⟨by omega, irows ids, _, 1, rfl, irows_get ids i hlt, rfl, rfl, ?_⟩
    conv => whnf
    have hcut : ((irows ids).take (Int.toNat (i : Int))).drop 0 = irows (ids.take i) := by simp [irows]
    have hc := l2Has_pure (ids.take i) ids[i] (by simp; omega)
    rw [← hcut] at hc
    refine ⟨_, .inl hc, ?_⟩
    have hnd := nodup_take hlt
    by_cases hm : ids[i] ∈ ids.take i
    · rw [decide_eq_true hm]
      conv => whnf
      have : ¬ ids.Nodup := fun h => (hnd.1 (h.sublist (List.take_sublist _ _))).2 hm
      simp [this] at hok; rw [hok]
    · rw [decide_eq_false hm]
      conv => whnf
      refine ⟨n - 1, by omega, i + 1, by omega, rfl, hnd.2 ⟨hx, hm⟩, rfl, ?_, trivial⟩
      show V.int .i64 (IntKind.i64.wrap (i + 1)) = _
      rw [wrap64 (by omega) (by omega)]; simp
  · rw [ltB_f (by omega)]
    conv => whnf
    rw [List.take_of_length_le (by omega)] at hx
    simp only [hx, decide_true, Bool.true_and, Bool.and_true] at hok
    rw [hok, leB_def, hlr]
    congr 1
    exact decide_eq_decide.2 (by omega)
end Go.Cod

namespace Go.Cod
open Go Go.Proofs
set_option maxRecDepth 10000

theorem textHasOnly_pure (s : List UInt8) (hs : s.length ≤ 9223372036854775806) (g : Nat) (p : UInt8 → Bool) (hp : ∀ b : UInt8, Pure Try.prog g [cellB b] (· = .bool (p b))) :
    Pure Try.prog 34 [.str s, .fn g []] (· = .bool (s.all p)) := by
  refine pure_of_awp good Try.func34 rfl (by kernel_rfl) (by decide) ?_
  conv => whnf
  refine loop_intro (fun n fr st => st = [] ∧ ∃ i : Nat, n + i = s.length ∧ (s.take i).all p = true ∧ Holds fr [(0, .str s), (1, .fn g []), (7, .int .i64 s.length), (8, .int .i64 i)]) s.length ⟨rfl, 0, rfl, rfl, rfl, rfl, rfl, rfl, trivial⟩ ?_
  rintro n fr st ⟨rfl, i, hi, hx, hh⟩
  obtain ⟨fr, rfl⟩ := hh.split
  clear hh
  conv => whnf
  by_cases hlt : i < s.length
  · rw [ltB_t (by omega)]
    conv => whnf
    refine ⟨by omega, s[i], by simp [hlt], ?_⟩
    conv => whnf
    have hst := take_all (p := p) hlt
    have hno : p s[i] = false → s.all p = false := by
      intro h; rw [List.all_eq_false]; exact ⟨s[i], List.getElem_mem _, by simp [h]⟩
    refine .inl ((hp s[i]).mono ?_)
    rintro r rfl
    cases a : p s[i]
    · conv => whnf
      rw [hno a]
    conv => whnf
    refine ⟨n - 1, by omega, rfl, i + 1, by omega, by rw [hst, hx, a]; rfl, rfl, rfl, rfl, ?_, trivial⟩
    show V.int .i64 (IntKind.i64.wrap (i + 1)) = _
    rw [wrap64 (by omega) (by omega)]; simp
  · rw [ltB_f (by omega)]
    conv => whnf
    rw [List.take_of_length_le (by omega)] at hx
    rw [hx]

theorem isLetter_pure (b : UInt8) : Pure Try.prog 38 [cellB b] (· = .bool (lowerB b)) := by
  refine pure_of_awp good Try.func38 rfl (by kernel_rfl) (by decide) ?_
  conv => whnf
  by_cases h1 : (97 : Int) ≤ (b.toNat : Int)
  · rw [leB_t (by omega)]
    conv => whnf
    congr 1
    rw [leB_def, lowerB]
    exact decide_eq_decide.2 (by omega)
  · rw [leB_f (by omega)]
    conv => whnf
    have : lowerB b = false := by unfold lowerB; simp; omega
    rw [this]
theorem isTreeText_pure (b : UInt8) : Pure Try.prog 35 [cellB b] (· = .bool (textB b)) := by
  refine pure_of_awp good Try.func35 rfl (by kernel_rfl) (by decide) ?_
  conv => whnf
  by_cases h1 : (32 : Int) ≤ (b.toNat : Int)
  · rw [leB_t (by omega)]
    conv => whnf
    by_cases h2 : (b.toNat : Int) ≤ 126
    · rw [leB_t (by omega)]
      conv => whnf
      congr 1
      rw [eqB_def]
      have : negB (decide ((b.toNat : Int) = 34)) = decide (b.toNat ≠ 34) := by
        by_cases h : b.toNat = 34
        · simp [h, negB]
        · have : ¬ (b.toNat : Int) = 34 := by omega
          simp [h, this, negB]
      rw [this, textB]
      exact decide_eq_decide.2 (by omega)
    · rw [leB_f (by omega)]
      conv => whnf
      have : textB b = false := by unfold textB; simp; omega
      rw [this]
  · rw [leB_f (by omega)]
    conv => whnf
    have : textB b = false := by unfold textB; simp; omega
    rw [this]
theorem nameOk_pure (s : List UInt8) (hs : s.length ≤ 9223372036854775806) : Pure Try.prog 33 [.str s] (· = .bool (nameL s)) := by
  refine pure_of_awp good Try.func33 rfl (by kernel_rfl) (by decide) ?_
  conv => whnf
  by_cases h1 : (1 : Int) ≤ (s.length : Int)
  case neg =>
    rw [leB_f (by omega)]
    conv => whnf
    simp [nameL]; omega
  rw [leB_t (by omega)]
  conv => whnf
  by_cases h2 : (s.length : Int) ≤ 8
  case neg =>
    rw [leB_f (by omega)]
    conv => whnf
    simp [nameL]; omega
  rw [leB_t (by omega)]
  conv => whnf
  refine .inl ((textHasOnly_pure s hs _ lowerB isLetter_pure).mono ?_)
  rintro r rfl
  conv => whnf
  simp [nameL, lower, h1, h2]

def thingB (id : Int) (kind text : List UInt8) : Bool := decide (1 ≤ id ∧ id ≤ 999) && nameL kind && textL text
theorem treeThingOk_pure (id : Int) (kind text : List UInt8) (kids : List T) (h2 : kind.length ≤ 9223372036854775806) (h3 : text.length ≤ 9223372036854775806) :
    Pure Try.prog 25 [.agg (T.mk id kind text kids).cells] (· = .bool (thingB id kind text)) := by
  refine pure_of_awp good Try.func25 rfl (by kernel_rfl) (by decide) ?_
  conv => whnf
  by_cases a1 : 1 ≤ id
  case neg =>
    rw [leB_f (by omega)]
    conv => whnf
    simp [thingB]; omega
  rw [leB_t (by omega)]
  conv => whnf
  by_cases a2 : id ≤ 999
  case neg =>
    rw [leB_f (by omega)]
    conv => whnf
    simp [thingB]; omega
  rw [leB_t (by omega)]
  conv => whnf
  refine .inl ((nameOk_pure kind (by omega)).mono ?_)
  rintro r rfl
  cases a3 : nameL kind
  · conv => whnf
    simp [thingB, a3]
  conv => whnf
  by_cases a4 : (text.length : Int) ≤ 12
  case neg =>
    rw [leB_f (by omega)]
    conv => whnf
    simp [thingB, textL]; omega
  rw [leB_t (by omega)]
  conv => whnf
  refine .inl ((textHasOnly_pure text (by omega) _ textB isTreeText_pure).mono ?_)
  rintro r rfl
  conv => whnf
  simp [thingB, textL, a1, a2, a3, a4]
end Go.Cod

namespace Go.Cod
open Go Go.Proofs
set_option maxRecDepth 10000

/-- A thing, that in which it is, its level. -/
abbrev Sp := T × Int × Int
def spV (s : Sp) : V := .agg (s.1.cells ++ [.int .i64 s.2.1, .int .i64 s.2.2])
mutual
def spT : T → Int → Int → List Sp
  | .mk id kind text kids, ov, lv => (.mk id kind text kids, ov, lv) :: spL kids id (IntKind.i64.wrap (lv + 1))
def spL : List T → Int → Int → List Sp
  | [], _, _ => []
  | t :: ts, ov, lv => spT t ov lv ++ spL ts ov lv
end
theorem spL_append (a b : List T) (ov lv : Int) : spL (a ++ b) ov lv = spL a ov lv ++ spL b ov lv := by
  induction a with
  | nil => rfl
  | cons t ts ih => simp [spL, ih]
def spRows (l : List Sp) : List (List V) := l.map fun s => [spV s]
theorem spRows_append (a b : List Sp) : spRows (a ++ b) = spRows a ++ spRows b := by simp [spRows]

/-- What is yielded in order is taken. -/
def Takes (ok : OkY) (log : List (List V)) (l : List Sp) : Prop := ∀ pre v suf, l = pre ++ v :: suf → ok (log ++ spRows pre) [spV v]
theorem Takes.left {ok : OkY} {log : List (List V)} {a b : List Sp} (h : Takes ok log (a ++ b)) : Takes ok log a := fun pre v suf e => h pre v (suf ++ b) (by rw [e]; simp)
theorem Takes.right {ok : OkY} {log : List (List V)} {a b : List Sp} (h : Takes ok log (a ++ b)) : Takes ok (log ++ spRows a) b := fun pre v suf e => by
  have := h (a ++ pre) v suf (by rw [e]; simp)
  rwa [spRows_append, ← List.append_assoc] at this
def Walked (log : List (List V)) (l : List Sp) (o : Out) (st' : St) : Prop := ∃ b log', o = .ret (.bool b) ∧ st' = [logO log' b] ∧ (b = true → log' = log ++ spRows l)

theorem treeWalk_full1 (t : T) (hs : t.Small) (ov lv : Int) (ok : OkY) (log : List (List V)) (hok : Takes ok log (spT t ov lv))
    (hT : ∀ t' ∈ t.kids, ∀ (ov lv : Int) (log : List (List V)), Takes ok log (spT t' ov lv) → Full Try.prog ok 32 [spV (t', ov, lv), .yld 0] [logO log true] (Walked log (spT t' ov lv))) :
    Full Try.prog ok 32 [spV (t, ov, lv), .yld 0] [logO log true] (Walked log (spT t ov lv)) := by
  cases hs with
  | @mk id kind text kids g1 g2 g3 g4 g5 =>
  simp only [T.kids] at hT
  have hlr := rows_len kids
  have hok0 : ok log [spV (.mk id kind text kids, ov, lv)] := by simpa [spRows] using hok [] _ _ rfl
  have hokL : Takes ok (log ++ [[spV (.mk id kind text kids, ov, lv)]]) (spL kids id (IntKind.i64.wrap (lv + 1))) := Takes.right (a := [(.mk id kind text kids, ov, lv)]) hok
  refine full_of_awp good Try.func32 rfl (by kernel_rfl) (by decide) ?_
  conv => whnf
  refine ⟨hok0, ?_⟩
  intro b
  have hfin : log ++ [[spV (.mk id kind text kids, ov, lv)]] ++ spRows (spL kids id (IntKind.i64.wrap (lv + 1))) = log ++ spRows (spT (.mk id kind text kids) ov lv) := by simp [spT, spRows]
  cases b
  · conv => whnf
    refine ⟨[], false, ?_⟩
    conv => whnf
    exact ⟨false, _, rfl, rfl, by simp⟩
  conv => whnf
  refine loop_drop (fun n fr st => ∃ i : Nat, n + i = kids.length ∧ st = [logO (log ++ [[spV (.mk id kind text kids, ov, lv)]] ++ spRows (spL (kids.take i) id (IntKind.i64.wrap (lv + 1)))) true, ⟨[[.int .i64 id, .str kind, .str text, .sl (T.rows kids), .int .i64 ov, .int .i64 lv]], 6, true, true, true, .cell⟩] ∧ Holds fr [(1, .yld 0), (2, .ptr 1 0 0), (13, .sl (T.rows kids)), (14, .int .i64 kids.length), (15, .int .i64 i)]) kids.length none
    ⟨0, rfl, by show [_, _] = [logO (_ ++ []) true, _]; rw [List.append_nil]; rfl, rfl, rfl, rfl, by rw [← hlr]; rfl, rfl, trivial⟩ ?_
  rintro n fr st ⟨i, hi, rfl, hh⟩
  obtain ⟨fr, rfl⟩ := hh.split
  clear hh
  conv => whnf
  by_cases hlt : i < kids.length
  · rw [ltB_t (by omega)]
    conv => whnf
    refine ⟨by omega, T.rows kids, kids[i].cells, 4, rfl, rows_get kids i hlt, rfl, cells_len _, ?_⟩
    have hc := hT kids[i] (List.getElem_mem _) id (IntKind.i64.wrap (lv + 1)) (log ++ [[spV (.mk id kind text kids, ov, lv)]] ++ spRows (spL (kids.take i) id (IntKind.i64.wrap (lv + 1)))) (by
      refine Takes.right (Takes.left (b := spL (kids.drop (i + 1)) id (IntKind.i64.wrap (lv + 1))) ?_)
      refine cast ?_ hokL
      congr 1
      conv => lhs; rw [← List.take_append_drop i kids, List.drop_eq_getElem_cons hlt]
      rw [spL_append]; simp [spL])
    have htk : spL (kids.take (i + 1)) id (IntKind.i64.wrap (lv + 1)) = spL (kids.take i) id (IntKind.i64.wrap (lv + 1)) ++ spT kids[i] id (IntKind.i64.wrap (lv + 1)) := by
      rw [List.take_succ_eq_append_getElem hlt, spL_append]; simp [spL]
    generalize kids[i] = t at hc htk ⊢
    cases t with
    | mk id' kind' text' kids' =>
    conv => whnf
    refine ⟨[0], false, ?_⟩
    conv => whnf
    refine hc.mono ?_
    rintro o st' ⟨b, log', rfl, rfl, hl⟩
    cases b
    · conv => whnf
      refine ⟨[], false, ?_⟩
      conv => whnf
      exact ⟨false, _, rfl, rfl, by simp⟩
    conv => whnf
    refine ⟨n - 1, by omega, some [0, 1], ?_⟩
    conv => whnf
    refine ⟨i + 1, by omega, ?_, rfl, rfl, rfl, rfl, ?_, trivial⟩
    · show [logO _ _, _] = [logO _ _, _]
      rw [hl rfl, htk, spRows_append, List.append_assoc]
      rfl
    · show V.int .i64 (IntKind.i64.wrap (i + 1)) = _
      rw [wrap64 (by omega) (by omega)]; simp
  · rw [ltB_f (by omega)]
    conv => whnf
    rw [List.take_of_length_le (by omega)]
    refine ⟨[], false, ?_⟩
    conv => whnf
    exact ⟨true, _, rfl, rfl, fun _ => hfin⟩
theorem treeWalk_full (t : T) (hs : t.Small) (ok : OkY) : ∀ (ov lv : Int) (log : List (List V)), Takes ok log (spT t ov lv) → Full Try.prog ok 32 [spV (t, ov, lv), .yld 0] [logO log true] (Walked log (spT t ov lv)) := by
  induction hs with
  | @mk id kind text kids g1 g2 g3 g4 g5 ih =>
    intro ov lv log hok
    exact treeWalk_full1 _ (.mk g1 g2 g3 g4 g5) ov lv ok log hok fun t' ht' => ih t' ht'
end Go.Cod

namespace Go.Cod
open Go Go.Proofs
set_option maxRecDepth 10000

def boxT (t : T) : O := ⟨[t.cells], 4, true, true, true, .cell⟩
theorem treeSpots1_full (t : T) (hs : t.Small) (ok : OkY) (hok : Takes ok [] (spT t 0 1)) : Full Try.prog ok 31 [.yld 0, .ptr 1 0 0] [logO [] true, boxT t] (fun o st' => ∃ r b log', o = .ret r ∧ st' = [logO log' b, boxT t] ∧ (b = true → log' = spRows (spT t 0 1))) := by
  have hc := treeWalk_full t hs ok 0 1 [] hok
  cases t with
  | mk id kind text kids =>
  refine full_of_awp good Try.func31 rfl (by kernel_rfl) (by decide) ?_
  conv => whnf
  refine ⟨[0], false, ?_⟩
  conv => whnf
  refine hc.mono ?_
  rintro o st' ⟨b, log', rfl, rfl, hl⟩
  conv => whnf
  refine ⟨[], false, ?_⟩
  conv => whnf
  exact ⟨_, b, log', rfl, rfl, hl⟩

theorem treeSpots_full (t : T) : Full Try.prog noY 24 [.agg t.cells] [] (fun o st' => o = .ret (.fn 31 [.ptr 0 0 0]) ∧ st' = [boxT t]) := by
  cases t with
  | mk id kind text kids =>
  refine full_of_awp good Try.func24 rfl (by kernel_rfl) (by decide) ?_
  conv => whnf
  refine ⟨[0], false, ?_⟩
  conv => whnf
  exact ⟨rfl, rfl⟩
end Go.Cod

namespace Go.Cod
open Go Go.Proofs
set_option maxRecDepth 10000

def T.id : T → Int
  | .mk id _ _ _ => id
def T.thing : T → Bool
  | .mk id kind text _ => thingB id kind text
def idS (s : Sp) : Int := s.1.id
theorem T.thing_mk (id : Int) (kind text : List UInt8) (kids : List T) : (T.mk id kind text kids).thing = thingB id kind text := rfl
mutual
theorem spT_ids : ∀ (t : T) (ov lv : Int), (spT t ov lv).map idS = t.ids
  | .mk id kind text kids, ov, lv => by simp [spT, T.ids, spL_ids kids, idS, T.id]
theorem spL_ids : ∀ (ts : List T) (ov lv : Int), (spL ts ov lv).map idS = T.idsL ts
  | [], _, _ => rfl
  | t :: ts, ov, lv => by simp [spL, T.idsL, spT_ids t, spL_ids ts]
end
mutual
theorem plainT_sp : ∀ (t : T) (ov lv : Int), 0 ≤ lv → lv ≤ 7 → (plainT t lv = true ↔ ∀ s ∈ spT t ov lv, s.2.2 ≤ 6 ∧ s.1.thing = true)
  | .mk id kind text kids, ov, lv, h0, h7 => by
    have hw : IntKind.i64.wrap (lv + 1) = lv + 1 := wrap64 (by omega) (by omega)
    simp only [plainT, spT, hw, List.mem_cons, forall_eq_or_imp, T.thing_mk, thingB, Bool.and_eq_true]
    by_cases h6 : lv ≤ 6
    · rw [plainL_sp kids id (lv + 1) (by omega) (by omega)]
      have : ¬ 6 < lv := by omega
      simp [this, h6, and_assoc]
    · have : 6 < lv := by omega
      simp [this, h6]
theorem plainL_sp : ∀ (ts : List T) (ov lv : Int), 0 ≤ lv → lv ≤ 7 → (plainL ts lv = true ↔ ∀ s ∈ spL ts ov lv, s.2.2 ≤ 6 ∧ s.1.thing = true)
  | [], _, _, _, _ => by simp [plainL, spL]
  | t :: ts, ov, lv, h0, h7 => by
    simp only [plainL, spL, Bool.and_eq_true, List.mem_append, plainT_sp t ov lv h0 h7, plainL_sp ts ov lv h0 h7]
    constructor
    · rintro ⟨a, b⟩ s (h | h)
      · exact a s h
      · exact b s h
    · intro h
      exact ⟨fun s hs => h s (.inl hs), fun s hs => h s (.inr hs)⟩
end
def AllOk (l : List Sp) : Prop := (∀ s ∈ l, s.2.2 ≤ 6 ∧ s.1.thing = true) ∧ (l.map idS).Nodup ∧ l.length ≤ 20
theorem AllOk.pre {a b : List Sp} (h : AllOk (a ++ b)) : AllOk a := by
  obtain ⟨h1, h2, h3⟩ := h
  refine ⟨fun s hs => h1 s (by simp [hs]), ?_, by simp at h3; omega⟩
  rw [List.map_append, List.nodup_append] at h2
  exact h2.1
theorem okT_iff (t : T) : okT t = true ↔ AllOk (spT t 0 1) := by
  have h := spT_ids t 0 1
  unfold okT AllOk
  rw [h]
  simp only [Bool.and_eq_true, decide_eq_true_eq, plainT_sp t 0 1 (by omega) (by omega), and_assoc]
  rw [← h, List.length_map]
theorem AllOk.snoc {l : List Sp} {s : Sp} : AllOk (l ++ [s]) ↔ AllOk l ∧ s.2.2 ≤ 6 ∧ s.1.thing = true ∧ idS s ∉ l.map idS ∧ l.length ≠ 20 := by
  unfold AllOk
  simp only [List.mem_append, List.mem_singleton, List.map_append, List.map_cons, List.map_nil, List.nodup_append, List.length_append, List.length_singleton]
  constructor
  · rintro ⟨h1, ⟨h2, _, h3⟩, h4⟩
    refine ⟨⟨fun s hs => h1 s (.inl hs), h2, by omega⟩, (h1 s (.inr rfl)).1, (h1 s (.inr rfl)).2, fun hm => h3 _ hm _ (by simp) rfl, by omega⟩
  · rintro ⟨⟨h1, h2, h4⟩, h5, h6, h7, h8⟩
    refine ⟨?_, ⟨h2, by simp, ?_⟩, by omega⟩
    · rintro s' (h | rfl)
      · exact h1 s' h
      · exact ⟨h5, h6⟩
    · intro a ha b hb e
      subst e; rw [hb] at ha; exact h7 ha

def seenRows (l : List Int) : List (List V) := l.map fun i => [.int .i64 i, .bool true]
theorem seenRows_len (l : List Int) : (seenRows l).length = l.length := by simp [seenRows]
theorem findRow_seen (l : List Int) (x : Int) : findRow (.int .i64 x) (seenRows l) = if x ∈ l then some (.bool true) else none := by
  induction l with
  | nil => rfl
  | cons a l ih =>
    by_cases h : a = x
    · subst h; simp [seenRows, findRow, rowKey, keyEq, rowVal]
    · have : ¬ x = a := fun e => h e.symm
      have e : findRow (.int .i64 x) ([.int .i64 a, .bool true] :: seenRows l) = findRow (.int .i64 x) (seenRows l) := by
        show (if decide (a = x) = true then _ else _) = _
        rw [if_neg (by simpa using h)]
      refine e.trans (ih.trans ?_)
      simp [this]
theorem putRow_seen (l : List Int) (x : Int) (h : x ∉ l) : putRow (.int .i64 x) (.bool true) (seenRows l) = seenRows (l ++ [x]) := by
  induction l with
  | nil => rfl
  | cons a l ih =>
    simp only [List.mem_cons, not_or] at h
    simp only [seenRows, List.map_cons, List.cons_append] at ih ⊢
    have h' : ¬ a = x := fun e => h.1 e.symm
    simp only [putRow, rowKey, keyEq, h', decide_false, Bool.false_eq_true, if_false, ih h.2]

def okbT (t : T) : OkY := fun log vs => ∃ pre s suf, spT t 0 1 = pre ++ s :: suf ∧ log = spRows pre ∧ vs = [spV s]
theorem okbT_takes (t : T) : Takes (okbT t) [] (spT t 0 1) := fun pre v suf e => ⟨pre, v, suf, e, by simp, rfl⟩
theorem spRows_len (l : List Sp) : (spRows l).length = l.length := by simp [spRows]
theorem implTreeOk_pure (t : T) (hs : t.Small) (hsps : ∀ s ∈ spT t 0 1, s.1.Small) : Pure Try.prog 14 [.agg t.cells] (· = .bool (okT t)) := by
  have hsp := treeSpots_full t
  have hok := okT_iff t
  have hcl := treeSpots1_full t hs _ (okbT_takes t)
  have hbox : boxT t = ⟨[t.cells], 4, true, true, true, .cell⟩ := rfl
  generalize okT t = okt at *
  have hobt : okbT t = fun log vs => ∃ pre s suf, spT t 0 1 = pre ++ s :: suf ∧ log = spRows pre ∧ vs = [spV s] := rfl
  generalize okbT t = okb at *
  generalize spT t 0 1 = sps at *
  cases t with
  | mk id kind text kids =>
  refine pure_of_awp good Try.func14 rfl (by kernel_rfl) (by decide) ?_
  conv => whnf
  refine .inr (.inl ⟨[], false, ?_⟩)
  conv => whnf
  refine hsp.mono ?_
  rintro o st' ⟨rfl, rfl⟩
  conv => whnf
  refine ⟨[4], false, okb, fun log st' => AllOk (sps.take log.length) ∧ st' = [⟨[(T.mk id kind text kids).cells], 4, true, true, true, .cell⟩, ⟨[[.bool false]], 1, true, true, true, .cell⟩, ⟨seenRows ((sps.take log.length).map idS), kindCode .i64, false, true, false, .map⟩, ⟨[[.map 2]], 1, true, true, true, .cell⟩, ⟨[(T.mk id kind text kids).cells], 4, false, true, true, .cell⟩], ?_⟩
  conv => whnf
  refine ⟨⟨⟨by simp, by simp, by simp⟩, rfl⟩, ?_, ?_⟩
  · rintro log vs st' ⟨hall, rfl⟩ ho
    rw [hobt] at ho
    obtain ⟨pre, s, suf, rfl, rfl, rfl⟩ := ho
    have htk : (pre ++ s :: suf).take (spRows pre).length = pre := by rw [spRows_len]; simp
    have htk1 : (pre ++ s :: suf).take (spRows pre ++ [[spV s]]).length = pre ++ [s] := by rw [List.length_append, spRows_len]; show List.take (pre.length + 1) _ = _; rw [List.take_append, List.take_of_length_le (by omega)]; simp
    rw [htk] at hall ⊢
    refine ⟨rfl, ?_⟩
    have hsn := AllOk.snoc (l := pre) (s := s)
    have hno : ¬ AllOk (pre ++ [s]) → okt = false := fun h => by
      cases e : okt
      · rfl
      · exact absurd (AllOk.pre (b := suf) (by simpa using hok.1 e)) h
    obtain ⟨⟨id', kind', text', kids'⟩, ov, lv⟩ := s
    simp only [T.thing_mk, idS, T.id] at hsn
    have hfr := findRow_seen (pre.map idS) id'
    have hpr := putRow_seen (pre.map idS) id'
    conv => whnf
    by_cases a1 : 6 < lv
    · rw [ltB_t a1]
      conv => whnf
      rw [hno fun h => by have : lv ≤ 6 := (hsn.1 h).2.1; omega]
    rw [ltB_f (show lv ≤ 6 by omega)]
    conv => whnf
    rw [seenRows_len, List.length_map]
    by_cases a2 : pre.length = 20
    · rw [eqB_t (by omega)]
      conv => whnf
      rw [hno fun h => by have := (hsn.1 h).2.2.2.2; omega]
    rw [eqB_f (by omega)]
    conv => whnf
    by_cases a3 : id' ∈ pre.map idS
    · rw [if_pos a3] at hfr
      refine AtKey_intro _ hfr ?_
      conv => whnf
      rw [hno fun h => (hsn.1 h).2.2.2.1 a3]
    rw [if_neg a3] at hfr
    refine AtKey_intro _ hfr ?_
    conv => whnf
    obtain ⟨b2, b3⟩ : kind'.length ≤ 1048576 ∧ text'.length ≤ 1048576 := by
      have h := hsps (.mk id' kind' text' kids', ov, lv) (by simp)
      cases h
      exact ⟨by assumption, by assumption⟩
    refine .inl ((treeThingOk_pure id' kind' text' kids' (by omega) (by omega)).mono ?_)
    rintro r rfl
    cases a4 : thingB id' kind' text'
    · conv => whnf
      rw [hno fun h => by have := (hsn.1 h).2.2.1; rw [a4] at this; cases this]
    conv => whnf
    refine ⟨some [0, 1, 2, 3, 4], ?_⟩
    conv => whnf
    have hall' : AllOk (pre ++ [(.mk id' kind' text' kids', ov, lv)]) := hsn.2 ⟨hall, (show lv ≤ 6 by omega), a4, a3, a2⟩
    have hpr := hpr a3
    rw [htk1]
    refine ⟨hall', ?_⟩
    have hse : seenRows ((pre ++ [((.mk id' kind' text' kids', ov, lv) : Sp)]).map idS) = putRow (.int .i64 id') (.bool true) (seenRows (pre.map idS)) := by
      rw [hpr, List.map_append]; rfl
    rw [hse]
    rfl
  · refine hcl.mono ?_
    rintro o st' ⟨r, b, log', rfl, rfl, hl⟩
    refine ⟨_, _, _, rfl, rfl, fun hb st' hI => ?_⟩
    obtain ⟨hall, rfl⟩ := hI
    rw [hl hb, List.take_of_length_le (by rw [spRows_len]; omega)] at hall
    conv => whnf
    rw [hok.2 hall]
end Go.Cod

namespace Go.Cod
open Go Go.Proofs
set_option maxRecDepth 10000

mutual
theorem spT_small : ∀ (t : T) (ov lv : Int), t.Small → ∀ s ∈ spT t ov lv, s.1.Small
  | .mk id kind text kids, ov, lv, h => by
    intro s hs
    rcases List.mem_cons.1 hs with rfl | hs
    · exact h
    · cases h with
      | mk g1 g2 g3 g4 g5 => exact spL_small kids _ _ g5 s hs
theorem spL_small : ∀ (ts : List T) (ov lv : Int), (∀ t ∈ ts, t.Small) → ∀ s ∈ spL ts ov lv, s.1.Small
  | [], _, _, _ => by simp [spL]
  | t :: ts, ov, lv, h => by
    intro s hs
    rcases List.mem_append.1 hs with hs | hs
    · exact spT_small t ov lv (h t (by simp)) s hs
    · exact spL_small ts ov lv (fun t ht => h t (by simp [ht])) s hs
end
theorem implTreeOk (t : T) (hs : t.Small) : Pure Try.prog 14 [.agg t.cells] (· = .bool (okT t)) := implTreeOk_pure t hs (spT_small t 0 1 hs)

def spZ : V := .agg [.int .i64 0, .str [], .str [], .nils, .int .i64 0, .int .i64 0]
def isId (id : Int) (s : Sp) : Bool := decide (idS s = id)
def spotR : Option Sp → V
  | some s => .tup [spV s, .bool true]
  | none => .tup [spV (.mk 0 [] [] [], 0, 0), .bool false]
def spotOf (t : T) (id : Int) : Option Sp := if okT t then (spT t 0 1).find? (isId id) else none

theorem treeSpotOf_pure (t : T) (hs : t.Small) (x : Int) : Pure Try.prog 26 [.agg t.cells, .int .i64 x] (· = spotR (spotOf t x)) := by
  have hio := implTreeOk t hs
  have hsp := treeSpots_full t
  have hcl := treeSpots1_full t hs _ (okbT_takes t)
  have hbox : boxT t = ⟨[t.cells], 4, true, true, true, .cell⟩ := rfl
  have hso : spotOf t x = if okT t then (spT t 0 1).find? (isId x) else none := rfl
  generalize okT t = okt at *
  generalize spotOf t x = so at *
  have hobt : okbT t = fun log vs => ∃ pre s suf, spT t 0 1 = pre ++ s :: suf ∧ log = spRows pre ∧ vs = [spV s] := rfl
  generalize okbT t = okb at *
  generalize spT t 0 1 = sps at *
  cases t with
  | mk id kind text kids =>
  refine pure_of_awp good Try.func26 rfl (by kernel_rfl) (by decide) ?_
  conv => whnf
  refine .inl (hio.mono ?_)
  rintro r rfl
  cases okt
  · conv => whnf
    rw [hso]; rfl
  conv => whnf
  refine .inr (.inl ⟨[], false, ?_⟩)
  conv => whnf
  refine hsp.mono ?_
  rintro o st' ⟨rfl, rfl⟩
  conv => whnf
  refine ⟨[4], false, okb, fun log st' => (sps.take log.length).find? (isId x) = none ∧ st' = [⟨[(T.mk id kind text kids).cells], 4, true, true, true, .cell⟩, ⟨[[.int .i64 x]], 1, true, true, true, .cell⟩, ⟨[spZ.cells], 6, true, true, true, .cell⟩, ⟨[[.bool false]], 1, true, true, true, .cell⟩, ⟨[(T.mk id kind text kids).cells], 4, false, true, true, .cell⟩], ?_⟩
  conv => whnf
  refine ⟨⟨by simp, rfl⟩, ?_, ?_⟩
  · rintro log vs st' ⟨hall, rfl⟩ ho
    rw [hobt] at ho
    obtain ⟨pre, s, suf, rfl, rfl, rfl⟩ := ho
    have htk : (pre ++ s :: suf).take (spRows pre).length = pre := by rw [spRows_len]; simp
    have htk1 : (pre ++ s :: suf).take (spRows pre ++ [[spV s]]).length = pre ++ [s] := by rw [List.length_append, spRows_len]; show List.take (pre.length + 1) _ = _; rw [List.take_append, List.take_of_length_le (by omega)]; simp
    rw [htk] at hall
    refine ⟨rfl, ?_⟩
    have hfs : isId x s = true → so = some s := fun h => by
      rw [hso, if_pos rfl, List.find?_append, hall]; simp [h]
    have hfn : isId x s = false → (pre ++ [s]).find? (isId x) = none := fun h => by
      rw [List.find?_append, hall]; simp [h]
    obtain ⟨⟨id', kind', text', kids'⟩, ov, lv⟩ := s
    have hid : isId x (T.mk id' kind' text' kids', ov, lv) = decide (id' = x) := rfl
    rw [hid] at hfs hfn
    conv => whnf
    by_cases a1 : id' = x
    · rw [eqB_t a1]
      conv => whnf
      rw [hfs (by simpa using a1)]
      rfl
    · rw [eqB_f a1]
      conv => whnf
      refine ⟨some [0, 1, 2, 3, 4], ?_⟩
      conv => whnf
      rw [htk1]
      exact ⟨hfn (by simpa using a1), rfl⟩
  · refine hcl.mono ?_
    rintro o st' ⟨r, b, log', rfl, rfl, hl⟩
    refine ⟨_, _, _, rfl, rfl, fun hb st' hI => ?_⟩
    obtain ⟨hall, rfl⟩ := hI
    rw [hl hb, List.take_of_length_le (by rw [spRows_len]; omega)] at hall
    conv => whnf
    rw [hso, if_pos rfl, hall]
    rfl

mutual
def overT : T → Int → Int → Int
  | .mk i _ _ kids, x, ov => if i = x then ov else overL kids x i
def overL : List T → Int → Int → Int
  | [], _, _ => -1
  | t :: ts, x, ov => if 0 ≤ overT t x ov then overT t x ov else overL ts x ov
end
def ovO : Option Sp → Int
  | some s => s.2.1
  | none => -1
mutual
theorem overT_eq : ∀ (t : T) (x ov lv : Int), 0 ≤ ov → (∀ i ∈ t.ids, 0 ≤ i) → overT t x ov = ovO ((spT t ov lv).find? (isId x)) ∧ (0 ≤ overT t x ov ↔ ((spT t ov lv).find? (isId x)).isSome = true)
  | .mk i k tx kids, x, ov, lv, h0, hi => by
    have e : isId x (T.mk i k tx kids, ov, lv) = decide (i = x) := rfl
    simp only [T.ids, List.mem_cons, forall_eq_or_imp] at hi
    simp only [overT, spT, List.find?_cons, e]
    by_cases h : i = x
    · simp [h, ovO, h0]
    · simpa [h] using overL_eq kids x i (IntKind.i64.wrap (lv + 1)) hi.1 hi.2
theorem overL_eq : ∀ (ts : List T) (x ov lv : Int), 0 ≤ ov → (∀ i ∈ T.idsL ts, 0 ≤ i) → overL ts x ov = ovO ((spL ts ov lv).find? (isId x)) ∧ (0 ≤ overL ts x ov ↔ ((spL ts ov lv).find? (isId x)).isSome = true)
  | [], x, ov, lv, h0, hi => by simp [overL, spL, ovO]
  | t :: ts, x, ov, lv, h0, hi => by
    simp only [T.idsL, List.mem_append] at hi
    obtain ⟨h1, h2⟩ := overT_eq t x ov lv h0 fun i h => hi i (.inl h)
    obtain ⟨h3, h4⟩ := overL_eq ts x ov lv h0 fun i h => hi i (.inr h)
    simp only [overL, spL, List.find?_append]
    by_cases h : 0 ≤ overT t x ov
    · rw [if_pos h]
      obtain ⟨s, e⟩ := Option.isSome_iff_exists.1 (h2.1 h)
      rw [e] at h1 ⊢
      simp [h1, ovO] at h ⊢
      exact h
    · rw [if_neg h]
      have : (spT t ov lv).find? (isId x) = none := by
        cases e : (spT t ov lv).find? (isId x) with
        | none => rfl
        | some s => exact absurd (h2.2 (by rw [e]; rfl)) h
      rw [this, Option.none_or]
      exact ⟨h3, h4⟩
end

theorem overL_drop (ts : List T) (i : Nat) (h : i < ts.length) (x ov : Int) : overL (ts.drop i) x ov = if 0 ≤ overT ts[i] x ov then overT ts[i] x ov else overL (ts.drop (i + 1)) x ov := by
  rw [List.drop_eq_getElem_cons h]; simp [overL]

theorem l2Over_pure1 (t : T) (hs : t.Small) (x ov : Int) (hT : ∀ t' ∈ t.kids, ∀ ov : Int, Pure Try.prog 20 [.agg t'.cells, .int .i64 x, .int .i64 ov] (· = .int .i64 (overT t' x ov))) :
    Pure Try.prog 20 [.agg t.cells, .int .i64 x, .int .i64 ov] (· = .int .i64 (overT t x ov)) := by
  cases hs with
  | @mk id kind text kids g1 g2 g3 g4 g5 =>
  simp only [T.kids] at hT
  have hlr := rows_len kids
  have hov : overT (.mk id kind text kids) x ov = if id = x then ov else overL kids x id := rfl
  refine pure_of_awp good Try.func20 rfl (by kernel_rfl) (by decide) ?_
  conv => whnf
  by_cases a1 : id = x
  · rw [eqB_t a1]
    conv => whnf
    rw [hov, if_pos a1]
  rw [eqB_f a1]
  conv => whnf
  rw [if_neg a1] at hov
  refine loop_intro (fun n fr st => ∃ i : Nat, n + i = kids.length ∧ st = [⟨[[.int .i64 id, .str kind, .str text, .sl (T.rows kids)]], 4, true, true, true, .cell⟩] ∧ overL kids x id = overL (kids.drop i) x id ∧ Holds fr [(1, .int .i64 x), (3, .ptr 0 0 0), (7, .int .i64 i)]) kids.length
    ⟨0, rfl, rfl, rfl, rfl, rfl, rfl, trivial⟩ ?_
  rintro n fr st ⟨i, hi, rfl, hx, hh⟩
  obtain ⟨fr, rfl⟩ := hh.split
  clear hh
  conv => whnf
  by_cases hlt : i < kids.length
  · rw [ltB_t (by omega)]
    conv => whnf
    refine ⟨by omega, T.rows kids, kids[i].cells, 4, rfl, rows_get kids i hlt, rfl, cells_len _, ?_⟩
    have hc := hT kids[i] (List.getElem_mem _) id
    rw [overL_drop kids i hlt] at hx
    generalize kids[i] = t at hc hx ⊢
    cases t with
    | mk id' kind' text' kids' =>
    conv => whnf
    refine ⟨_, .inl hc, ?_⟩
    by_cases a2 : 0 ≤ overT (.mk id' kind' text' kids') x id
    · conv => whnf
      rw [leB_t a2]
      conv => whnf
      rw [hov, hx, if_pos a2]
    · conv => whnf
      rw [leB_f (by omega)]
      conv => whnf
      rw [if_neg a2] at hx
      refine ⟨n - 1, by omega, i + 1, by omega, rfl, hx, rfl, rfl, ?_, trivial⟩
      show V.int .i64 (IntKind.i64.wrap (i + 1)) = _
      rw [wrap64 (by omega) (by omega)]; simp
  · rw [ltB_f (by omega)]
    conv => whnf
    rw [List.drop_of_length_le (by omega)] at hx
    rw [hov, hx]
    rfl
theorem l2Over_pure (t : T) (hs : t.Small) (x : Int) : ∀ ov : Int, Pure Try.prog 20 [.agg t.cells, .int .i64 x, .int .i64 ov] (· = .int .i64 (overT t x ov)) := by
  induction hs with
  | @mk id kind text kids g1 g2 g3 g4 g5 ih =>
    intro ov
    exact l2Over_pure1 _ (.mk g1 g2 g3 g4 g5) x ov ih

mutual
theorem plainT_ids : ∀ (t : T) (lv : Int), plainT t lv = true → ∀ i ∈ t.ids, 0 ≤ i
  | .mk id kind text kids, lv, h => by
    simp only [plainT, Bool.and_eq_true, decide_eq_true_eq] at h
    simp only [T.ids, List.mem_cons, forall_eq_or_imp]
    exact ⟨by omega, plainL_ids kids _ h.2⟩
theorem plainL_ids : ∀ (ts : List T) (lv : Int), plainL ts lv = true → ∀ i ∈ T.idsL ts, 0 ≤ i
  | [], _, _ => by simp [T.idsL]
  | t :: ts, lv, h => by
    simp only [plainL, Bool.and_eq_true] at h
    simp only [T.idsL, List.mem_append]
    rintro i (hi | hi)
    · exact plainT_ids t lv h.1 i hi
    · exact plainL_ids ts lv h.2 i hi
end
theorem okT_ids {t : T} (h : okT t = true) : ∀ i ∈ t.ids, 0 ≤ i := by
  unfold okT at h
  simp only [Bool.and_eq_true] at h
  exact plainT_ids t 1 h.1.1
end Go.Cod

namespace Go.Cod
open Go Go.Proofs
set_option maxRecDepth 10000

end Go.Cod

namespace Go.Cod
open Go Go.Proofs
set_option maxRecDepth 10000

end Go.Cod

namespace Go.Cod
open Go Go.Proofs
set_option maxRecDepth 10000

/-- A tree whose slices lie in a pool: block and capacity of what is in a thing. -/
inductive LT where
  | mk (id : Int) (kind text : List UInt8) (h : Option (Nat × Nat)) (kids : List LT)

def hdV : Option (Nat × Nat) → Nat → V
  | none, _ => .nils
  | some (b, c), n => .dref b n c
def LT.cells : LT → List V
  | .mk id kind text h kids => [.int .i64 id, .str kind, .str text, hdV h kids.length]
def LT.rows (ls : List LT) : List (List V) := ls.map LT.cells
/-- The blocks of a list and of all in it. -/
def rootE : Option (Nat × Nat) → List LT → List (List V)
  | none, _ => []
  | some (b, c), kids => [ent b c 4 (LT.rows kids)]
mutual
def LT.ents : LT → List (List V)
  | .mk _ _ _ h kids => LT.entsL kids ++ rootE h kids
def LT.entsL : List LT → List (List V)
  | [] => []
  | l :: ls => l.ents ++ LT.entsL ls
end
theorem LT.rows_len (ls : List LT) : (LT.rows ls).length = ls.length := by simp [LT.rows]
theorem LT.cells_len (l : LT) : l.cells.length = 4 := by cases l; rfl
theorem LT.rows_get (ls : List LT) (i : Nat) (h : i < ls.length) : (LT.rows ls)[i]? = some ls[i].cells := by simp [LT.rows, h]
theorem hdV_ok (h : Option (Nat × Nat)) (n : Nat) : (hdV h n).leaf = true ∧ (hdV h n).clean 0 = true ∧ (hdV h n).flat = true := by
  rcases h with _ | ⟨b, c⟩ <;> exact ⟨rfl, rfl, rfl⟩
end Go.Cod

namespace Go.Cod
open Go Go.Proofs
set_option maxRecDepth 10000

end Go.Cod

namespace Go.Cod
open Go Go.Proofs
set_option maxRecDepth 10000

/- Things counted; marked. -/
mutual
def LT.size : LT → Nat
  | .mk _ _ _ _ kids => 1 + LT.sizeL kids
def LT.sizeL : List LT → Nat
  | [] => 0
  | l :: ls => l.size + LT.sizeL ls
end
/- Trees, marked. -/
mutual
def T.size : T → Nat
  | .mk _ _ _ kids => 1 + T.sizeL kids
def T.sizeL : List T → Nat
  | [] => 0
  | t :: ts => t.size + T.sizeL ts
end

end Go.Cod

namespace Go.Cod
open Go Go.Proofs
set_option maxRecDepth 10000

end Go.Cod

namespace Go.Cod
open Go Go.Proofs
set_option maxRecDepth 10000

def LT.kids : LT → List LT
  | .mk _ _ _ _ kids => kids

end Go.Cod

namespace Go.Cod
open Go Go.Proofs
set_option maxRecDepth 10000

end Go.Cod

namespace Go.Cod
open Go Go.Proofs
set_option maxRecDepth 10000

end Go.Cod

namespace Go.Cod
open Go Go.Proofs
set_option maxRecDepth 10000

def TZ : T := .mk 0 [] [] []
mutual
def fT : T → Int → Option T
  | .mk id kind text kids, x => if id = x then some (.mk id kind text kids) else fL kids x
def fL : List T → Int → Option T
  | [], _ => none
  | t :: ts, x => match fT t x with
    | some s => some s
    | none => fL ts x
end
def fR : Option T → V
  | some t => .tup [.agg t.cells, .bool true]
  | none => .tup [.agg TZ.cells, .bool false]
mutual
theorem fT_sp : ∀ (t : T) (x ov lv : Int), fT t x = ((spT t ov lv).find? (isId x)).map (·.1)
  | .mk id kind text kids, x, ov, lv => by
    simp only [fT, spT, List.find?_cons]
    by_cases h : id = x
    · have : isId x (.mk id kind text kids, ov, lv) = true := by simp [isId, idS, T.id, h]
      rw [if_pos h, this]; rfl
    · have : isId x (.mk id kind text kids, ov, lv) = false := by simp [isId, idS, T.id, h]
      rw [if_neg h, this]
      exact fL_sp kids x _ _
theorem fL_sp : ∀ (ts : List T) (x ov lv : Int), fL ts x = ((spL ts ov lv).find? (isId x)).map (·.1)
  | [], _, _, _ => rfl
  | t :: ts, x, ov, lv => by
    simp only [fL, spL, List.find?_append, fT_sp t x ov lv, fL_sp ts x ov lv]
    cases (spT t ov lv).find? (isId x) <;> rfl
end
theorem fL_drop (ts : List T) (i : Nat) (h : i < ts.length) (x : Int) : fL (ts.drop i) x = match fT ts[i] x with
    | some s => some s
    | none => fL (ts.drop (i + 1)) x := by
  rw [List.drop_eq_getElem_cons h]; simp [fL]
theorem l2Find_pure1 (t : T) (hs : t.Small) (x : Int) (hT : ∀ t' ∈ t.kids, Pure Try.prog 21 [.agg t'.cells, .int .i64 x] (· = fR (fT t' x))) :
    Pure Try.prog 21 [.agg t.cells, .int .i64 x] (· = fR (fT t x)) := by
  cases hs with
  | @mk id kind text kids g1 g2 g3 g4 g5 =>
  simp only [T.kids] at hT
  have hlr := Go.Cod.rows_len kids
  have hov : fT (.mk id kind text kids) x = if id = x then some (.mk id kind text kids) else fL kids x := rfl
  refine pure_of_awp good Try.func21 rfl (by kernel_rfl) (by decide) ?_
  conv => whnf
  by_cases a1 : id = x
  · rw [eqB_t a1]
    conv => whnf
    rw [hov, if_pos a1]
    rfl
  rw [eqB_f a1]
  conv => whnf
  rw [if_neg a1] at hov
  refine loop_drop (fun n fr st => ∃ i : Nat, n + i = kids.length ∧ st = [⟨[[.int .i64 id, .str kind, .str text, .sl (T.rows kids)]], 4, true, true, true, .cell⟩, ⟨[zrow], 4, true, true, true, .cell⟩] ∧ fL kids x = fL (kids.drop i) x ∧ Holds fr [(1, .int .i64 x), (2, .ptr 0 0 0), (4, .ptr 1 0 0), (6, .int .i64 i)]) kids.length none
    ⟨0, rfl, rfl, rfl, rfl, rfl, rfl, rfl, trivial⟩ ?_
  rintro n fr st ⟨i, hi, rfl, hx, hh⟩
  obtain ⟨fr, rfl⟩ := hh.split
  clear hh
  conv => whnf
  by_cases hlt : i < kids.length
  · rw [hlr, ltB_t (by omega)]
    conv => whnf
    refine ⟨by omega, T.rows kids, kids[i].cells, 4, rfl, Go.Cod.rows_get kids i hlt, rfl, Go.Cod.cells_len _, ?_⟩
    have hc := hT kids[i] (List.getElem_mem _)
    rw [fL_drop kids i hlt] at hx
    generalize kids[i] = t at hc hx ⊢
    cases t with
    | mk id' kind' text' kids' =>
    conv => whnf
    refine .inl (hc.mono ?_)
    rintro r rfl
    cases hf : fT (.mk id' kind' text' kids') x with
    | some s =>
      rw [hf] at hx
      simp only at hx
      cases s with
      | mk sid sk st sks =>
      conv => whnf
      rw [hov, hx]
      rfl
    | none =>
      rw [hf] at hx
      simp only at hx
      conv => whnf
      refine ⟨n - 1, by omega, some [0, 1], ?_⟩
      conv => whnf
      refine ⟨i + 1, by omega, rfl, hx, rfl, rfl, rfl, ?_, trivial⟩
      show V.int .i64 (IntKind.i64.wrap (i + 1)) = _
      rw [wrap64 (by omega) (by omega)]; simp
  · rw [hlr, ltB_f (by omega)]
    conv => whnf
    rw [List.drop_of_length_le (by omega)] at hx
    rw [hov, hx]
    rfl
theorem l2Find_pure (t : T) (hs : t.Small) (x : Int) : Pure Try.prog 21 [.agg t.cells, .int .i64 x] (· = fR (fT t x)) := by
  induction hs with
  | @mk id kind text kids g1 g2 g3 g4 g5 ih => exact l2Find_pure1 _ (.mk g1 g2 g3 g4 g5) x ih

/-- What has a number in a tree that is ok. -/
def findT (t : T) (x : Int) : Option T := if okT t then fT t x else none
end Go.Cod

namespace Go.Cod
open Go Go.Proofs
set_option maxRecDepth 10000

theorem nodup_of_labs {es : List (List V)} (h : ∀ (i j : Nat) e e', es[i]? = some e → es[j]? = some e' → labOf e = labOf e' → i = j) : (es.map labOf).Nodup := by
  induction es with
  | nil => simp
  | cons e es ih =>
    rw [List.map_cons, List.nodup_cons]
    refine ⟨fun hm => ?_, ih fun i j a b h1 h2 h3 => ?_⟩
    · obtain ⟨e', he', hl⟩ := List.mem_map.1 hm
      obtain ⟨j, hj⟩ := List.getElem?_of_mem he'
      have := h 0 (j + 1) e e' rfl (by simpa using hj) hl.symm
      omega
    · have := h (i + 1) (j + 1) a b (by simpa using h1) (by simpa using h2) h3
      omega
theorem LabsOk.nodup {st : St} (h : LabsOk st) {k : Nat} {es : List (List V)} (hk : st[k]? = some (poolO es)) : (es.map labOf).Nodup :=
  nodup_of_labs fun i j e e' h1 h2 h3 => (h k k _ _ i j e e' hk hk rfl rfl h1 h2 h3).2
mutual
theorem LT.flat : ∀ (l : LT), ∀ e ∈ l.ents, ∀ r ∈ rowsOf e, ∀ x ∈ r, x.flat = true
  | .mk id kind text h kids => by
    intro e he
    simp only [LT.ents, List.mem_append] at he
    rcases he with he | he
    · exact LT.flatL kids e he
    · rcases h with _ | ⟨b, c⟩
      · simp [rootE] at he
      · simp only [rootE, List.mem_singleton] at he
        subst he
        intro r hr x hx
        simp only [rowsOf, ent, LT.rows, List.mem_map] at hr
        obtain ⟨l, _, rfl⟩ := hr
        cases l with
        | mk lid lk lt lh lks =>
        simp only [LT.cells, List.mem_cons, List.not_mem_nil, or_false] at hx
        rcases hx with rfl | rfl | rfl | rfl
        · rfl
        · rfl
        · rfl
        · exact (hdV_ok _ _).2.2
theorem LT.flatL : ∀ (ls : List LT), ∀ e ∈ LT.entsL ls, ∀ r ∈ rowsOf e, ∀ x ∈ r, x.flat = true
  | [] => by simp [LT.entsL]
  | l :: ls => by
    intro e he
    simp only [LT.entsL, List.mem_append] at he
    rcases he with he | he
    · exact LT.flat l e he
    · exact LT.flatL ls e he
end
theorem FlatO.pool (l : LT) : FlatO (poolO l.ents) := ⟨rfl, .inr ⟨rfl, rfl, l.flat⟩⟩
def T.kind : T → List UInt8
  | .mk _ kind _ _ => kind
def T.text : T → List UInt8
  | .mk _ _ text _ => text
end Go.Cod

namespace Go.Cod
open Go Go.Proofs
set_option maxRecDepth 10000

def rootI (h : Option (Nat × Nat)) (ns : List Int) : List (List V) := match h with
  | none => []
  | some (b, c) => [ent b c 1 (irows ns)]
theorem irows_ok (ns : List Int) : V.clean.cleanLL 0 (irows ns) = true ∧ (∀ e ∈ irows ns, ∀ x ∈ e, x.leaf = true) ∧ ∀ e ∈ irows ns, ∀ x ∈ e, x.flat = true := by
  refine ⟨?_, fun e he x hx => ?_, fun e he x hx => ?_⟩
  · rw [cleanLL_iff]
    intro e he
    obtain ⟨n, _, rfl⟩ := List.mem_map.1 he
    rfl
  · obtain ⟨n, _, rfl⟩ := List.mem_map.1 he
    simp at hx; subst hx; rfl
  · obtain ⟨n, _, rfl⟩ := List.mem_map.1 he
    simp at hx; subst hx; rfl
theorem viewI (es : List (List V)) (h : Option (Nat × Nat)) (ns : List Int) (hw : h = none → ns = []) (he : ∀ e ∈ rootI h ns, e ∈ es) : View es (hdV h ns.length) (.sl (irows ns)) := by
  rcases h with _ | ⟨b, c⟩
  · rw [hw rfl]; exact .nils
  · refine .dref (sz := 1) (rows := irows ns) (he _ (by simp [rootI])) (irows_len ns).symm rfl (irows_ok ns).1 (irows_ok ns).2.1 (fun i r r' p q => ?_) (fun i r r' j x y p q u v => ?_)
    · rw [p] at q; cases q; rfl
    · rw [p] at q; cases q; rw [u] at v; cases v; exact .same _
def idsOf (t : T) : List Int := if okT t then t.ids else []

def NewI (ns : List Int) (o : Out) (st' : St) : Prop := ∃ h : Option (Nat × Nat), (h = none → ns = []) ∧ o = .ret (hdV h ns.length) ∧ st' = [poolO (rootI h ns)]
theorem irows_snoc (a : List Int) (x : Int) : irows (a ++ [x]) = irows a ++ [[.int .i64 x]] := by simp [irows]
end Go.Cod

namespace Go.Cod
open Go Go.Proofs
set_option maxRecDepth 10000

/- What is found. -/
mutual
theorem plainT_mono : ∀ (t : T) (a b : Int), b ≤ a → plainT t a = true → plainT t b = true
  | .mk id kind text kids, a, b, h, hp => by
    simp only [plainT, Bool.and_eq_true, Bool.not_eq_true', decide_eq_true_eq, decide_eq_false_iff_not] at hp ⊢
    obtain ⟨⟨⟨⟨h1, h2⟩, h3⟩, h4⟩, h5⟩ := hp
    exact ⟨⟨⟨⟨by omega, h2⟩, h3⟩, h4⟩, plainL_mono kids _ _ (by omega) h5⟩
theorem plainL_mono : ∀ (ts : List T) (a b : Int), b ≤ a → plainL ts a = true → plainL ts b = true
  | [], _, _, _, _ => rfl
  | t :: ts, a, b, h, hp => by
    simp only [plainL, Bool.and_eq_true] at hp ⊢
    exact ⟨plainT_mono t a b h hp.1, plainL_mono ts a b h hp.2⟩
end
mutual
theorem fT_spec : ∀ (t : T) (x : Int) (s : T), fT t x = some s → s.id = x ∧ s.ids.Sublist t.ids ∧ ∀ lv, plainT t lv = true → plainT s lv = true
  | .mk id kind text kids, x, s, h => by
    simp only [fT] at h
    split at h
    · rename_i e; cases h; exact ⟨e, .refl _, fun _ h => h⟩
    · obtain ⟨h1, h2, h3⟩ := fL_spec kids x s h
      refine ⟨h1, h2.cons _, fun lv hp => ?_⟩
      simp only [plainT, Bool.and_eq_true] at hp
      exact plainT_mono s _ _ (by omega) (h3 _ hp.2)
theorem fL_spec : ∀ (ts : List T) (x : Int) (s : T), fL ts x = some s → s.id = x ∧ s.ids.Sublist (T.idsL ts) ∧ ∀ lv, plainL ts lv = true → plainT s lv = true
  | [], _, _, h => by simp [fL] at h
  | t :: ts, x, s, h => by
    simp only [fL] at h
    split at h
    · rename_i s' hs'; cases h
      obtain ⟨h1, h2, h3⟩ := fT_spec t x _ hs'
      refine ⟨h1, h2.trans (List.sublist_append_left _ _), fun lv hp => ?_⟩
      simp only [plainL, Bool.and_eq_true] at hp
      exact h3 lv hp.1
    · obtain ⟨h1, h2, h3⟩ := fL_spec ts x s h
      refine ⟨h1, h2.trans (List.sublist_append_right _ _), fun lv hp => ?_⟩
      simp only [plainL, Bool.and_eq_true] at hp
      exact h3 lv hp.2
end
mutual
theorem fT_none : ∀ (t : T) (x : Int), fT t x = none ↔ x ∉ t.ids
  | .mk id kind text kids, x => by
    simp only [fT, T.ids, List.mem_cons, not_or]
    by_cases e : id = x
    · simp [e]
    · rw [if_neg e, fL_none kids x]
      exact ⟨fun h => ⟨fun e' => e e'.symm, h⟩, fun h => h.2⟩
theorem fL_none : ∀ (ts : List T) (x : Int), fL ts x = none ↔ x ∉ T.idsL ts
  | [], x => by simp [fL, T.idsL]
  | t :: ts, x => by
    have h1 := fT_none t x
    have h2 := fL_none ts x
    simp only [fL, T.idsL, List.mem_append, not_or]
    cases e : fT t x with
    | none => simp only [h2]; exact ⟨fun h => ⟨h1.1 e, h⟩, fun h => h.2⟩
    | some s => rw [e] at h1; simp at h1; simp [h1]
end
theorem okT_iff' (t : T) : okT t = true ↔ plainT t 1 = true ∧ t.ids.Nodup ∧ t.ids.length ≤ 20 := by
  unfold okT
  simp [and_assoc]
theorem findT_spec {t : T} {x : Int} {s : T} (h : findT t x = some s) : okT t = true ∧ fT t x = some s ∧ s.id = x ∧ okT s = true ∧ idsOf s = s.ids ∧ ∀ i ∈ s.ids, i ∈ idsOf t := by
  unfold findT at h
  split at h
  · rename_i hok
    obtain ⟨h1, h2, h3⟩ := fT_spec t x s h
    obtain ⟨p1, p2, p3⟩ := (okT_iff' t).1 hok
    have hos : okT s = true := (okT_iff' s).2 ⟨h3 1 p1, h2.nodup p2, Nat.le_trans h2.length_le p3⟩
    refine ⟨hok, h, h1, hos, by rw [idsOf, if_pos hos], fun i hi => ?_⟩
    rw [idsOf, if_pos hok]
    exact h2.subset hi
  · cases h
/- What something is in. -/
theorem kidIds_sub : ∀ (ts : List T), (ts.map T.id).Sublist (T.idsL ts)
  | [] => .refl _
  | t :: ts => by
    cases t with
    | mk id kind text kids =>
    simp only [List.map_cons, T.id, T.idsL, T.ids, List.cons_append]
    exact ((kidIds_sub ts).trans (List.sublist_append_right _ _)).cons_cons _
theorem okT_kids {s : T} (h : okT s = true) : (s.kids.map T.id).Nodup := by
  obtain ⟨_, h2, _⟩ := (okT_iff' s).1 h
  cases s with
  | mk id kind text kids =>
  simp only [T.ids, List.nodup_cons] at h2
  exact (kidIds_sub kids).nodup h2.2
end Go.Cod

namespace Go.Cod
open Go Go.Proofs
set_option maxRecDepth 10000

theorem putEnt_fresh {b c sz : Nat} {rows rows' : List (List V)} {es : List (List V)} (h : ∀ e ∈ es, labOf e ≠ b) : putEnt b rows' (es ++ [ent b c sz rows]) = es ++ [ent b c sz rows'] := by
  unfold putEnt
  rw [List.map_append]
  congr 1
  · refine (List.map_congr_left fun e he => ?_).trans (List.map_id _)
    rw [if_neg (h e he)]; rfl
  · simp [labOf, ent, capOf, szOfE]
end Go.Cod

namespace Go.Cod
open Go Go.Proofs
set_option maxRecDepth 10000

end Go.Cod

namespace Go.Cod
open Go Go.Proofs
set_option maxRecDepth 10000

end Go.Cod

namespace Go.Cod
open Go Go.Proofs
set_option maxRecDepth 10000

def placeGo (x : Int) : Nat → List T → Int
  | _, [] => -1
  | i, t :: ts => if t.id = x then (i : Int) else placeGo x (i + 1) ts
def intO (x : Int) : O := ⟨[[.int .i64 x]], 1, true, true, true, .cell⟩
theorem treePlace1_full (t : T) (x : Int) : Full Try.prog noY 45 [.agg t.cells, .ptr 0 0 0] [intO x] fun o st' => o = .ret (.bool (eqB t.id x)) ∧ st' = [intO x] := by
  cases t with
  | mk id kind text kids =>
  refine full_of_awp good Try.func45 rfl (by kernel_rfl) (by decide) ?_
  conv => whnf
  refine ⟨[], false, ?_⟩
  conv => whnf
  exact ⟨rfl, rfl⟩
theorem placeGo_drop (x : Int) (ts : List T) (i : Nat) (h : i < ts.length) : placeGo x i (ts.drop i) = if ts[i].id = x then (i : Int) else placeGo x (i + 1) (ts.drop (i + 1)) := by
  rw [List.drop_eq_getElem_cons h]; rfl
theorem indexFunc_full (ts : List T) (x : Int) (hl : ts.length ≤ 1048576) : Full Try.prog noY 44 [.sl (T.rows ts), .fn 45 [.ptr 0 0 0]] [intO x] fun o st' => o = .ret (.int .i64 (placeGo x 0 ts)) ∧ st' = [intO x] := by
  have hlr := Go.Cod.rows_len ts
  refine full_of_awp good Try.func44 rfl (by kernel_rfl) (by decide) ?_
  conv => whnf
  refine loop_drop (fun n fr st => ∃ (i : Nat), n + i = ts.length ∧ st = [intO x] ∧ placeGo x 0 ts = placeGo x i (ts.drop i) ∧ Holds fr [(0, .sl (T.rows ts)), (1, .fn 45 [.ptr 0 0 0]), (7, .int .i64 ts.length), (8, .int .i64 i)]) ts.length none
    ⟨0, rfl, rfl, by simp, rfl, rfl, by rw [← hlr]; rfl, rfl, trivial⟩ ?_
  rintro n fr st ⟨i, hi, rfl, hpl, hh⟩
  obtain ⟨fr, rfl⟩ := hh.split
  clear hh
  conv => whnf
  by_cases hlt : i < ts.length
  · rw [ltB_t (by omega)]
    conv => whnf
    have hg := Go.Cod.rows_get ts i hlt
    have hd := placeGo_drop x ts i hlt
    generalize ts[i] = t at hg hd
    have hc := treePlace1_full t x
    have hd1 : t.id = x → placeGo x i (ts.drop i) = i := fun h => by rw [hd, if_pos h]
    have hd2 : ¬ t.id = x → placeGo x i (ts.drop i) = placeGo x (i + 1) (ts.drop (i + 1)) := fun h => by rw [hd, if_neg h]
    clear hd
    have w1 : IntKind.i64.wrap ((i : Int) + 1) = ((i + 1 : Nat) : Int) := by rw [wrap64 (by omega) (by omega)]; simp
    cases t with
    | mk id kind text kids =>
    refine ⟨by omega, T.rows ts, _, 4, rfl, hg, rfl, rfl, ?_⟩
    conv => whnf
    refine ⟨[0], false, ?_⟩
    conv => whnf
    refine hc.mono ?_
    rintro o st' ⟨rfl, rfl⟩
    by_cases hid : id = x
    · rw [eqB_t (show (T.mk id kind text kids).id = x from hid)]
      conv => whnf
      refine ⟨[], false, ?_⟩
      conv => whnf
      exact ⟨by rw [hpl, hd1 hid], rfl⟩
    · rw [eqB_f (show ¬ (T.mk id kind text kids).id = x from hid)]
      conv => whnf
      refine ⟨n - 1, by omega, none, i + 1, by omega, rfl, by rw [hpl, hd2 hid], ⟨rfl, rfl, rfl, ?_, trivial⟩⟩
      show V.int .i64 (IntKind.i64.wrap (i + 1)) = _
      rw [w1]
  · rw [ltB_f (by omega)]
    conv => whnf
    refine ⟨[], false, ?_⟩
    conv => whnf
    refine ⟨?_, rfl⟩
    rw [hpl, List.drop_eq_nil_of_le (by omega)]; rfl
theorem treePlace_pure (t : T) (x : Int) (hl : t.kids.length ≤ 1048576) : Pure Try.prog 42 [.agg t.cells, .int .i64 x] (· = .int .i64 (placeGo x 0 t.kids)) := by
  have hc := indexFunc_full t.kids x hl
  cases t with
  | mk id kind text kids =>
  simp only [T.kids] at hc hl
  refine pure_of_awp good Try.func42 rfl (by kernel_rfl) (by decide) ?_
  conv => whnf
  refine ⟨[1], false, ?_⟩
  conv => whnf
  refine hc.mono ?_
  rintro o st' ⟨rfl, rfl⟩
  conv => whnf
  rfl
end Go.Cod

namespace Go.Cod
open Go Go.Proofs
set_option maxRecDepth 10000

/- The numbers of what is in a thing. -/
def T.kidIds (t : T) : List Int := t.kids.map T.id
theorem kids_take (ts : List T) (i : Nat) (h : i < ts.length) : irows ((ts.map T.id).take (i + 1)) = irows ((ts.map T.id).take i) ++ [[.int .i64 ts[i].id]] := by
  have h2 : i < (ts.map T.id).length := by rw [List.length_map]; exact h
  rw [List.take_succ_eq_append_getElem h2, irows_snoc, List.getElem_map]
theorem l5Numbers_pure (t : T) (hl : t.kids.length ≤ 1048576) : Pure Try.prog 23 [.agg t.cells] (· = .sl (irows t.kidIds)) := by
  cases t with
  | mk id kind text kids =>
  simp only [T.kids] at hl
  have hlr := Go.Cod.rows_len kids
  refine pure_of_awp good Try.func23 rfl (by kernel_rfl) (by decide) ?_
  conv => whnf
  refine loop_drop (fun n fr st => ∃ i : Nat, n + i = kids.length ∧
      ((i = 0 ∧ Holds fr [(1, .ptr 0 0 0), (3, .nils), (4, .int .i64 i)] ∧ st = [⟨[[.int .i64 id, .str kind, .str text, .sl (T.rows kids)]], 4, true, true, true, .cell⟩]) ∨
       (0 < i ∧ Holds fr [(1, .ptr 0 0 0), (3, .own 1), (4, .int .i64 i)] ∧ st = [⟨[[.int .i64 id, .str kind, .str text, .sl (T.rows kids)]], 4, true, true, true, .cell⟩, ⟨irows ((kids.map T.id).take i), 1, true, true, false, .cell⟩]))) kids.length none
    ⟨0, rfl, .inl ⟨rfl, ⟨rfl, rfl, rfl, trivial⟩, rfl⟩⟩ ?_
  rintro n fr st ⟨i, hi, hst⟩
  rcases hst with ⟨rfl, hh, rfl⟩ | ⟨hi0, hh, rfl⟩
  · obtain ⟨fr, rfl⟩ := hh.split
    clear hh
    conv => whnf
    by_cases hlt : 0 < kids.length
    · rw [hlr, ltB_t (by omega)]
      conv => whnf
      have hg := rows_get kids 0 hlt
      have htk := kids_take kids 0 hlt
      generalize kids[0] = t at hg htk
      cases t with
      | mk id' kind' text' kids' =>
      refine ⟨by omega, T.rows kids, _, 4, rfl, hg, rfl, rfl, ?_⟩
      conv => whnf
      refine ⟨fun m hm => by rw [List.mem_singleton.1 hm]; rfl, ?_⟩
      conv => whnf
      refine ⟨by show 1 * 8 ≤ _; omega, .inr ⟨(by intro e; cases e), ?_⟩⟩
      conv => whnf
      refine ⟨n - 1, by omega, some [0, 2], ?_⟩
      conv => whnf
      refine ⟨1, by omega, .inr ⟨by omega, ⟨rfl, rfl, rfl, trivial⟩, ?_⟩⟩
      rw [htk]
      rfl
    · rw [hlr, ltB_f (by omega)]
      conv => whnf
      have : kids = [] := List.eq_nil_of_length_eq_zero (by omega)
      subst this
      rfl
  · obtain ⟨fr, rfl⟩ := hh.split
    clear hh
    conv => whnf
    by_cases hlt : i < kids.length
    · rw [hlr, ltB_t (by omega)]
      conv => whnf
      have hg := rows_get kids i hlt
      have htk := kids_take kids i hlt
      have hln : (irows ((kids.map T.id).take i)).length = i := by rw [irows_len, List.length_take, List.length_map]; omega
      generalize kids[i] = t at hg htk
      cases t with
      | mk id' kind' text' kids' =>
      refine ⟨by omega, T.rows kids, _, 4, rfl, hg, rfl, rfl, ?_⟩
      conv => whnf
      refine ⟨fun m hm => by rw [List.mem_singleton.1 hm]; rfl, ?_⟩
      conv => whnf
      refine ⟨by
        show ((irows ((kids.map T.id).take i)).length + 1) * 8 ≤ _
        rw [hln]; omega, ?_⟩
      conv => whnf
      refine ⟨n - 1, by omega, some [0, 3], ?_⟩
      conv => whnf
      refine ⟨i + 1, by omega, .inr ⟨by omega, ⟨rfl, rfl, ?_, trivial⟩, ?_⟩⟩
      · show V.int .i64 (IntKind.i64.wrap (i + 1)) = _
        rw [wrap64 (by omega) (by omega)]; simp
      · rw [htk]
        rfl
    · rw [hlr, ltB_f (by omega)]
      conv => whnf
      rw [List.take_of_length_le (by rw [List.length_map]; omega)]
      rfl
theorem treeKidIds_any (t : T) (hl : t.kids.length ≤ 1048576) : Full Try.prog noY 40 [.agg t.cells] [poolO []] fun o st' => (t.kids = [] ∧ o = .ret .nils ∧ st' = [poolO []]) ∨ (t.kids ≠ [] ∧ o = .ret (.own 1) ∧ st' = [poolO [], ⟨irows t.kidIds, 1, true, true, false, .cell⟩]) := by
  cases t with
  | mk id kind text kids =>
  simp only [T.kids] at hl ⊢
  have hlr := Go.Cod.rows_len kids
  refine full_of_awp good Try.func40 rfl (by kernel_rfl) (by decide) ?_
  conv => whnf
  refine loop_drop (fun n fr st => ∃ i : Nat, n + i = kids.length ∧
      ((i = 0 ∧ Holds fr [(3, .nils), (7, .sl (T.rows kids)), (8, .int .i64 kids.length), (9, .int .i64 i)] ∧ st = [poolO [], ⟨[[.int .i64 id, .str kind, .str text, .sl (T.rows kids)]], 4, true, true, true, .cell⟩]) ∨
       (0 < i ∧ Holds fr [(3, .own 2), (7, .sl (T.rows kids)), (8, .int .i64 kids.length), (9, .int .i64 i)] ∧ st = [poolO [], ⟨[[.int .i64 id, .str kind, .str text, .sl (T.rows kids)]], 4, true, true, true, .cell⟩, ⟨irows ((kids.map T.id).take i), 1, true, true, false, .cell⟩]))) kids.length none
    ⟨0, rfl, .inl ⟨rfl, ⟨rfl, rfl, by rw [← hlr]; rfl, rfl, trivial⟩, rfl⟩⟩ ?_
  rintro n fr st ⟨i, hi, hst⟩
  rcases hst with ⟨rfl, hh, rfl⟩ | ⟨hi0, hh, rfl⟩
  · obtain ⟨fr, rfl⟩ := hh.split
    clear hh
    conv => whnf
    by_cases hlt : 0 < kids.length
    · rw [ltB_t (by omega)]
      conv => whnf
      have hg := rows_get kids 0 hlt
      have htk := kids_take kids 0 hlt
      generalize kids[0] = t at hg htk
      cases t with
      | mk id' kind' text' kids' =>
      refine ⟨by omega, T.rows kids, _, 4, rfl, hg, rfl, rfl, ?_⟩
      conv => whnf
      refine ⟨fun m hm => by rw [List.mem_singleton.1 hm]; rfl, ?_⟩
      conv => whnf
      refine ⟨by show 1 * 8 ≤ _; omega, .inr ⟨(by intro e; cases e), ?_⟩⟩
      conv => whnf
      refine ⟨n - 1, by omega, some [0, 1, 4], ?_⟩
      conv => whnf
      refine ⟨1, by omega, .inr ⟨by omega, ⟨rfl, rfl, rfl, rfl, trivial⟩, ?_⟩⟩
      rw [htk]
      rfl
    · rw [ltB_f (by omega)]
      conv => whnf
      have : kids = [] := List.eq_nil_of_length_eq_zero (by omega)
      subst this
      refine ⟨[], true, ?_⟩
      conv => whnf
      exact .inl ⟨rfl, rfl, rfl⟩
  · obtain ⟨fr, rfl⟩ := hh.split
    clear hh
    conv => whnf
    by_cases hlt : i < kids.length
    · rw [ltB_t (by omega)]
      conv => whnf
      have hg := rows_get kids i hlt
      have htk := kids_take kids i hlt
      have hln : (irows ((kids.map T.id).take i)).length = i := by rw [irows_len, List.length_take, List.length_map]; omega
      generalize kids[i] = t at hg htk
      cases t with
      | mk id' kind' text' kids' =>
      refine ⟨by omega, T.rows kids, _, 4, rfl, hg, rfl, rfl, ?_⟩
      conv => whnf
      refine ⟨fun m hm => by rw [List.mem_singleton.1 hm]; rfl, ?_⟩
      conv => whnf
      refine ⟨by
        show ((irows ((kids.map T.id).take i)).length + 1) * 8 ≤ _
        rw [hln]; omega, ?_⟩
      conv => whnf
      refine ⟨n - 1, by omega, some [0, 1, 5], ?_⟩
      conv => whnf
      refine ⟨i + 1, by omega, .inr ⟨by omega, ⟨rfl, rfl, rfl, ?_, trivial⟩, ?_⟩⟩
      · show V.int .i64 (IntKind.i64.wrap (i + 1)) = _
        rw [wrap64 (by omega) (by omega)]; simp
      · rw [htk]
        rfl
    · rw [ltB_f (by omega)]
      conv => whnf
      refine ⟨[2], true, ?_⟩
      conv => whnf
      refine .inr ⟨?_, rfl, ?_⟩
      · intro e; rw [e] at hi; simp at hi; omega
      · rw [List.take_of_length_le (by rw [List.length_map]; omega)]
        rfl
theorem treeKidIds_new (t : T) (hl : t.kids.length ≤ 1048576) : Full Try.prog noY 40 [.agg t.cells] [] (NewI t.kidIds) := by
  refine Full.start ?_
  by_cases hk : t.kids = []
  · refine (treeKidIds_any t hl).mono ?_
    rintro o st' (⟨h, rfl, rfl⟩ | ⟨h, rfl, rfl⟩)
    · have e : t.kidIds = [] := by unfold T.kidIds; rw [hk]; rfl
      rw [e]
      exact ⟨none, fun _ => rfl, rfl, rfl⟩
    · exact absurd hk h
  · refine Full.absorb (treeKidIds_any t hl) ?_
    rintro o st' (⟨h, rfl, rfl⟩ | ⟨h, rfl, rfl⟩)
    · exact absurd h hk
    · refine ⟨.own 1, [poolO []], 0, [], irows t.kidIds, 1, rfl, rfl, rfl, Nat.le_refl _, by simp [poolO], fun b c => ⟨rfl, some (b, c), by simp, ?_, rfl⟩⟩
      rw [irows_len]; rfl
end Go.Cod

namespace Go.Cod
open Go Go.Proofs
set_option maxRecDepth 10000

theorem equalInts_pure (ns bs : List Int) (hl : ns.length ≤ 1048576) (hl2 : bs.length ≤ 1048576) : Pure Try.prog 36 [.sl (irows ns), .sl (irows bs)] (· = .bool (decide (ns = bs))) := by
  have hla := irows_len ns
  have hlb := irows_len bs
  have hga := irows_get ns
  have hgb := irows_get bs
  refine pure_of_awp good Try.func36 rfl (by kernel_rfl) (by decide) ?_
  conv => whnf
  by_cases hle : ns.length = bs.length
  · rw [eqB_t (show (((irows ns).length : Nat) : Int) = ((irows bs).length : Nat) by omega)]
    conv => whnf
    refine loop_intro (fun n fr st => ∃ i : Nat, n + i = ns.length ∧ ns.take i = bs.take i ∧ st = [] ∧ Holds fr [(0, .sl (irows ns)), (1, .sl (irows bs)), (12, .int .i64 ns.length), (13, .int .i64 i)]) ns.length
      ⟨0, rfl, rfl, rfl, rfl, rfl, by rw [← hla]; rfl, rfl, trivial⟩ ?_
    rintro n fr st ⟨i, hi, htk, rfl, hh⟩
    obtain ⟨fr, rfl⟩ := hh.split
    clear hh
    conv => whnf
    by_cases hlt : i < ns.length
    · rw [ltB_t (by omega)]
      conv => whnf
      have ha := hga i hlt
      have hb := hgb i (by omega)
      have hta := List.take_succ_eq_append_getElem hlt
      have htb := List.take_succ_eq_append_getElem (show i < bs.length by omega)
      have hne : ns[i] ≠ bs[i] → ns ≠ bs := fun h e => by subst e; exact h rfl
      generalize ns[i] = x at *
      generalize bs[i] = y at *
      repeat (first
        | (refine And.intro (by
                (conv => whnf)
                first
                  | exact ⟨by omega, irows ns, _, 1, rfl, ha, rfl, rfl, rfl⟩
                  | exact ⟨by omega, irows bs, _, 1, rfl, hb, rfl, rfl, rfl⟩) ?_
           conv => whnf)
        | (refine ⟨by omega, irows ns, _, 1, rfl, ha, rfl, rfl, ?_⟩
           conv => whnf)
        | (refine ⟨by omega, irows bs, _, 1, rfl, hb, rfl, rfl, ?_⟩
           conv => whnf))
      by_cases he : x = y
      · rw [eqB_t he]
        conv => whnf
        refine ⟨n - 1, by omega, i + 1, by omega, by rw [hta, htb, htk, he], rfl, rfl, rfl, rfl, ?_, trivial⟩
        · show V.int .i64 (IntKind.i64.wrap (i + 1)) = _
          rw [wrap64 (by omega) (by omega)]; simp
      · rw [eqB_f he]
        conv => whnf
        simp [hne he]
    · rw [ltB_f (by omega)]
      conv => whnf
      rw [List.take_of_length_le (by omega), List.take_of_length_le (by omega)] at htk
      simp [htk]
  · rw [eqB_f (show ¬ (((irows ns).length : Nat) : Int) = ((irows bs).length : Nat) by omega)]
    conv => whnf
    have : ns ≠ bs := fun e => hle (by rw [e])
    simp [this]

/- The spec's way: places that go up. -/
def ordIn (x : Int) : Nat → Int → List Int → Option Int
  | _, last, [] => some last
  | j, last, y :: ys => if x = y then (if (j : Int) < last then none else ordIn x (j + 1) j ys) else ordIn x (j + 1) last ys
def ordGo (bs : List Int) : Int → List Int → Bool
  | _, [] => true
  | last, x :: xs => match ordIn x 0 last bs with
    | none => false
    | some l => ordGo bs l xs
theorem ordIn_drop (x : Int) (bs : List Int) (j : Nat) (last : Int) (h : j < bs.length) : ordIn x j last (bs.drop j) = if x = bs[j] then (if (j : Int) < last then none else ordIn x (j + 1) j (bs.drop (j + 1))) else ordIn x (j + 1) last (bs.drop (j + 1)) := by
  rw [List.drop_eq_getElem_cons h]; rfl
theorem ordGo_drop (bs ns : List Int) (i : Nat) (last : Int) (h : i < ns.length) : ordGo bs last (ns.drop i) = match ordIn ns[i] 0 last bs with
    | none => false
    | some l => ordGo bs l (ns.drop (i + 1)) := by
  rw [List.drop_eq_getElem_cons h]; rfl
set_option maxHeartbeats 4000000 in
theorem l6Order_pure (ns bs : List Int) (hl : ns.length ≤ 1048576) (hl2 : bs.length ≤ 1048576) : Pure Try.prog 22 [.sl (irows ns), .sl (irows bs)] (· = .bool (ordGo bs (-1) ns)) := by
  have hla := irows_len ns
  have hlb := irows_len bs
  have hga := irows_get ns
  have hgb := irows_get bs
  refine pure_of_awp good Try.func22 rfl (by kernel_rfl) (by decide) ?_
  conv => whnf
  refine loop_intro (fun n fr st => ∃ (i : Nat) (last : Int), n + i = ns.length ∧ -1 ≤ last ∧ last ≤ 1048576 ∧ ordGo bs (-1) ns = ordGo bs last (ns.drop i) ∧ st = [] ∧ Holds fr [(0, .sl (irows ns)), (1, .sl (irows bs)), (5, .int .i64 last), (6, .int .i64 i)]) ns.length
    ⟨0, -1, rfl, by omega, by omega, rfl, rfl, rfl, rfl, rfl, rfl, trivial⟩ ?_
  rintro n fr st ⟨i, last, hi, hb1, hb2, hgo, rfl, hh⟩
  obtain ⟨fr, rfl⟩ := hh.split
  clear hh
  conv => whnf
  by_cases hlt : i < ns.length
  · rw [ltB_t (by omega)]
    conv => whnf
    have ha := hga i hlt
    have hgd := ordGo_drop bs ns i last hlt
    generalize ns[i] = x at *
    refine loop_intro (fun m fr st => ∃ (j : Nat) (lst : Int), m + j = bs.length ∧ -1 ≤ lst ∧ lst ≤ 1048576 ∧ ordIn x 0 last bs = ordIn x j lst (bs.drop j) ∧ st = [] ∧ Holds fr [(0, .sl (irows ns)), (1, .sl (irows bs)), (5, .int .i64 lst), (6, .int .i64 i), (7, .int .i64 j)]) bs.length
      ⟨0, last, rfl, by omega, by omega, rfl, rfl, rfl, rfl, rfl, rfl, rfl, trivial⟩ ?_
    rintro m fr st ⟨j, lst, hj, hc1, hc2, hin, rfl, hh⟩
    obtain ⟨fr, rfl⟩ := hh.split
    clear hh
    conv => whnf
    by_cases hjt : j < bs.length
    · rw [ltB_t (by omega)]
      conv => whnf
      have hb := hgb j hjt
      have hid := ordIn_drop x bs j lst hjt
      generalize bs[j] = y at *
      repeat (first
        | (refine And.intro (by
                (conv => whnf)
                first
                  | exact ⟨by omega, irows ns, _, 1, rfl, ha, rfl, rfl, rfl⟩
                  | exact ⟨by omega, irows bs, _, 1, rfl, hb, rfl, rfl, rfl⟩) ?_
           conv => whnf)
        | (refine ⟨by omega, irows ns, _, 1, rfl, ha, rfl, rfl, ?_⟩
           conv => whnf)
        | (refine ⟨by omega, irows bs, _, 1, rfl, hb, rfl, rfl, ?_⟩
           conv => whnf))
      by_cases he : x = y
      · rw [eqB_t he]
        conv => whnf
        rw [if_pos he] at hid
        by_cases hjl : (j : Int) < lst
        · rw [ltB_t hjl]
          conv => whnf
          rw [if_pos hjl] at hid
          rw [hgo, hgd, hin, hid]
        · rw [ltB_f (by omega)]
          conv => whnf
          rw [if_neg hjl] at hid
          refine ⟨m - 1, by omega, j + 1, j, by omega, by omega, by omega, by rw [hin, hid], rfl, rfl, rfl, rfl, rfl, ?_, trivial⟩
          · show V.int .i64 (IntKind.i64.wrap (j + 1)) = _
            rw [wrap64 (by omega) (by omega)]; simp
      · rw [eqB_f he]
        conv => whnf
        rw [if_neg he] at hid
        refine ⟨m - 1, by omega, j + 1, lst, by omega, by omega, by omega, by rw [hin, hid], rfl, rfl, rfl, rfl, rfl, ?_, trivial⟩
        · show V.int .i64 (IntKind.i64.wrap (j + 1)) = _
          rw [wrap64 (by omega) (by omega)]; simp
    · rw [ltB_f (by omega)]
      conv => whnf
      rw [List.drop_eq_nil_of_le (by omega)] at hin
      have hin2 : ordIn x 0 last bs = some lst := hin
      refine ⟨n - 1, by omega, i + 1, lst, by omega, by omega, by omega, by rw [hgo, hgd, hin2], rfl, rfl, rfl, rfl, ?_, trivial⟩
      · show V.int .i64 (IntKind.i64.wrap (i + 1)) = _
        rw [wrap64 (by omega) (by omega)]; simp
  · rw [ltB_f (by omega)]
    conv => whnf
    rw [List.drop_eq_nil_of_le (by omega)] at hgo
    rw [hgo]; rfl
end Go.Cod

namespace Go.Cod
open Go Go.Proofs
set_option maxRecDepth 10000

/- The numbers that two have. -/
def inB (b : T) (x : Int) : Bool := decide (x ∈ b.kidIds)
def sharedT (a b : T) : List Int := a.kidIds.filter (inB b)
theorem placeGo_neg (x : Int) (ts : List T) : (placeGo x 0 ts < 0) ↔ x ∉ ts.map T.id := by
  have key : ∀ (ts : List T) (i : Nat), (x ∈ ts.map T.id → 0 ≤ placeGo x i ts) ∧ (x ∉ ts.map T.id → placeGo x i ts = -1) := by
    intro ts
    induction ts with
    | nil => intro i; simp [placeGo]
    | cons t ts ih =>
      intro i
      obtain ⟨h1, h2⟩ := ih (i + 1)
      by_cases e : t.id = x
      · simp only [placeGo, if_pos e]
        refine ⟨fun _ => by omega, fun h => absurd (by simp [e]) h⟩
      · simp only [placeGo, if_neg e, List.map_cons, List.mem_cons, Ne.symm e, false_or]
        exact ⟨h1, h2⟩
  obtain ⟨h1, h2⟩ := key ts 0
  by_cases h : x ∈ ts.map T.id
  · have := h1 h
    exact ⟨fun h' => by omega, fun h' => absurd h h'⟩
  · rw [h2 h]; simp [h]
theorem mergeShared1_full (b : T) (x : Int) (hl : b.kids.length ≤ 1048576) : Full Try.prog noY 41 [.int .i64 x, .ptr 0 0 0] [boxT b] fun o st' => o = .ret (.bool (!(inB b x))) ∧ st' = [boxT b] := by
  have hp := treePlace_pure b x hl
  have hn := placeGo_neg x b.kids
  have hin : inB b x = decide (x ∈ b.kids.map T.id) := rfl
  rw [hin]
  cases b with
  | mk id kind text kids =>
  simp only [T.kids] at hp hn ⊢
  generalize placeGo x 0 kids = p at *
  refine full_of_awp good Try.func41 rfl (by kernel_rfl) (by decide) ?_
  conv => whnf
  refine .inl (hp.mono ?_)
  rintro r rfl
  conv => whnf
  refine ⟨[], false, ?_⟩
  conv => whnf
  by_cases h : p < 0
  · have := hn.1 h
    rw [ltB_t h]
    exact ⟨by simp [this], rfl⟩
  · rw [ltB_f (by omega)]
    have h2 : x ∈ kids.map T.id := Decidable.byContradiction fun h' => h (hn.2 h')
    exact ⟨by simp [h2], rfl⟩
def idxGo (p : Int → Bool) : Nat → List Int → Int
  | _, [] => -1
  | i, x :: xs => if p x = false then (i : Int) else idxGo p (i + 1) xs
theorem idxGo_drop (p : Int → Bool) (ns : List Int) (i : Nat) (h : i < ns.length) : idxGo p i (ns.drop i) = if p ns[i] = false then (i : Int) else idxGo p (i + 1) (ns.drop (i + 1)) := by
  rw [List.drop_eq_getElem_cons h]; rfl
theorem idxGo_spec (p : Int → Bool) : ∀ (ns : List Int) (i : Nat), (idxGo p i ns = -1 ∧ ns.filter p = ns) ∨ ∃ k : Nat, k < ns.length ∧ idxGo p i ns = ((i + k : Nat) : Int) ∧ (ns.take (k + 1)).filter p = ns.take k
  | [], _ => .inl ⟨rfl, rfl⟩
  | x :: xs, i => by
    simp only [idxGo]
    by_cases h : p x = false
    · rw [if_pos h]
      exact .inr ⟨0, by simp, rfl, by simp [h]⟩
    · rw [if_neg h]
      have hx : p x = true := by simpa using h
      rcases idxGo_spec p xs (i + 1) with ⟨h1, h2⟩ | ⟨k, h1, h2, h3⟩
      · exact .inl ⟨h1, by simp [hx, h2]⟩
      · exact .inr ⟨k + 1, by simp; omega, by rw [h2]; omega, by simp only [List.take_succ_cons, List.filter_cons, hx, if_true]; rw [h3]⟩
theorem indexFuncInt_full (es : List (List V)) (blk n c : Nat) (ns : List Int) (b : T) (hm : ent blk c 1 (irows ns) ∈ es) (hn : ns.length = n) (hnc : n ≤ c) (hl : b.kids.length ≤ 1048576) (hl2 : n ≤ 1048576) :
    Full Try.prog noY 43 [.dref blk n c, .fn 41 [.ptr 1 0 0]] [poolO es, boxT b] fun o st' => o = .ret (.int .i64 (idxGo (inB b) 0 ns)) ∧ st' = [poolO es, boxT b] := by
  have hg := irows_get ns
  have hc := fun x => mergeShared1_full b x hl
  generalize inB b = p at *
  cases b with
  | mk bid bkind btext bkids =>
  refine full_of_awp good Try.func43 rfl (by kernel_rfl) (by decide) ?_
  conv => whnf
  refine loop_drop (fun m fr st => ∃ (i : Nat), m + i = n ∧ st = [poolO es, boxT (.mk bid bkind btext bkids)] ∧ idxGo p 0 ns = idxGo p i (ns.drop i) ∧ Holds fr [(0, .dref blk n c), (1, .fn 41 [.ptr 1 0 0]), (7, .int .i64 n), (8, .int .i64 i)]) n none ?_ ?_
  · exact ⟨0, rfl, rfl, by simp, rfl, rfl, rfl, rfl, trivial⟩
  rintro m fr st ⟨i, hi, rfl, hpl, hh⟩
  obtain ⟨fr, rfl⟩ := hh.split
  clear hh
  conv => whnf
  by_cases hlt : i < n
  · rw [ltB_t (by omega)]
    conv => whnf
    have hgi := hg i (by omega)
    have hd := idxGo_drop p ns i (by omega)
    generalize ns[i] = x at hgi hd
    have hcx := hc x
    have w1 : IntKind.i64.wrap ((i : Int) + 1) = ((i + 1 : Nat) : Int) := by rw [wrap64 (by omega) (by omega)]; simp
    refine ⟨by omega, by omega, 0, c, irows ns, _, hm, hgi, ?_⟩
    conv => whnf
    refine ⟨[1], false, ?_⟩
    conv => whnf
    refine hcx.mono ?_
    rintro o st' ⟨rfl, rfl⟩
    cases hpx : p x with
    | false =>
      rw [if_pos hpx] at hd
      conv => whnf
      refine ⟨[], false, ?_⟩
      conv => whnf
      exact ⟨by rw [hpl, hd], rfl⟩
    | true =>
      rw [if_neg (by rw [hpx]; decide)] at hd
      conv => whnf
      refine ⟨m - 1, by omega, none, i + 1, by omega, rfl, by rw [hpl, hd], ⟨rfl, rfl, rfl, ?_, trivial⟩⟩
      show V.int .i64 (IntKind.i64.wrap (i + 1)) = _
      rw [w1]
  · rw [ltB_f (by omega)]
    conv => whnf
    refine ⟨[], false, ?_⟩
    conv => whnf
    refine ⟨?_, rfl⟩
    rw [hpl, List.drop_eq_nil_of_le (by omega)]; rfl
end Go.Cod

namespace Go.Cod
open Go Go.Proofs
set_option maxRecDepth 10000

theorem irows_take (ns : List Int) (k : Nat) : (irows ns).take k = irows (ns.take k) := by simp [irows]
theorem irows_set (ns : List Int) (k : Nat) (x : Int) : (irows ns).set k [.int .i64 x] = irows (ns.set k x) := by simp [irows, List.map_set]
theorem take_set_succ (R : List Int) (i : Nat) (x : Int) (h : i < R.length) : (R.set i x).take (i + 1) = R.take i ++ [x] := by
  rw [List.take_succ_eq_append_getElem (by simpa using h), List.take_set_of_le (Nat.le_refl _)]
  simp
set_option maxHeartbeats 8000000 in
theorem deleteFunc_full (blk n c : Nat) (ns : List Int) (b : T) (hn : ns.length = n) (hnc : n ≤ c) (hl : b.kids.length ≤ 1048576) (hl2 : n ≤ 1048576) :
    Full Try.prog noY 39 [.dref blk n c, .fn 41 [.ptr 1 0 0]] [poolO [ent blk c 1 (irows ns)], boxT b] fun o st' => o = .ret (.dref blk (ns.filter (inB b)).length c) ∧ st' = [poolO [ent blk c 1 (irows (ns.filter (inB b)))], boxT b] := by
  have hix := indexFuncInt_full [ent blk c 1 (irows ns)] blk n c ns b (by simp) hn hnc hl hl2
  have hsp := idxGo_spec (inB b) ns 0
  have hc := fun x => mergeShared1_full b x hl
  generalize inB b = p at *
  cases b with
  | mk bid bkind btext bkids =>
  generalize idxGo p 0 ns = ix at *
  refine full_of_awp good Try.func39 rfl (by kernel_rfl) (by decide) ?_
  conv => whnf
  refine ⟨[0, 1], false, ?_⟩
  conv => whnf
  refine hix.mono ?_
  rintro o st' ⟨rfl, rfl⟩
  conv => whnf
  rcases hsp with ⟨rfl, hf⟩ | ⟨k, hk, rfl, hf⟩
  · rw [eqB_refl]
    conv => whnf
    refine ⟨[], false, ?_⟩
    conv => whnf
    rw [hf, hn]
    exact ⟨rfl, rfl⟩
  · rw [eqB_f (by omega)]
    conv => whnf
    refine loop_drop (fun m fr st => ∃ (i j : Nat) (R : List Int), m + j = n + k + 1 ∧ i < j ∧ j ≤ n ∧ R.length = n ∧ R.take i = (ns.take j).filter p ∧ R.drop j = ns.drop j ∧ st = [poolO [ent blk c 1 (irows R)], boxT (.mk bid bkind btext bkids)] ∧
        Holds fr [(0, .dref blk n c), (1, .fn 41 [.ptr 1 0 0]), (5, .int .i64 i), (6, .int .i64 j)]) n none ?_ ?_
    · refine ⟨k, k + 1, ns, by omega, by omega, by omega, hn, hf.symm, rfl, rfl, rfl, rfl, ?_, ?_, trivial⟩
      · show V.int .i64 _ = V.int .i64 _
        congr 1; omega
      · show V.int .i64 (IntKind.i64.wrap _) = _
        rw [wrap64 (by omega) (by omega)]; congr 1; omega
    rintro m fr st ⟨i, j, R, hm, hij, hjn, hR, htk, hdr, rfl, hh⟩
    obtain ⟨fr, rfl⟩ := hh.split
    clear hh
    conv => whnf
    have w1 : ∀ q : Nat, q ≤ n → IntKind.i64.wrap ((q : Int) + 1) = ((q + 1 : Nat) : Int) := fun q hq => by rw [wrap64 (by omega) (by omega)]; simp
    have hmm : ent blk c 1 (irows R) ∈ [ent blk c 1 (irows R)] := List.mem_singleton.2 rfl
    have hes : ∀ x, [ent blk c 1 (irows (R.set i x))] = putEnt blk ((irows R).set i [.int .i64 x]) [ent blk c 1 (irows R)] := fun x => by
      rw [irows_set]
      exact (putEnt_fresh (es := []) (fun e he => by cases he)).symm
    by_cases hlt : j < n
    · rw [ltB_t (by omega)]
      conv => whnf
      have hgj := irows_get R j (by omega)
      have hgi := irows_get R i (by omega)
      have hRj : R[j]? = ns[j]? := by
        have := congrArg (fun l => l[0]?) hdr
        simpa using this
      have e2 : R[j] = ns[j] := by
        rw [List.getElem?_eq_getElem (by omega), List.getElem?_eq_getElem (by omega)] at hRj
        exact Option.some.inj hRj
      have hts : (ns.take (j + 1)).filter p = (ns.take j).filter p ++ if p ns[j] then [ns[j]] else [] := by
        rw [List.take_succ_eq_append_getElem (by omega), List.filter_append]
        congr 1
        by_cases hq : p ns[j] = true <;> simp [hq]
      have hcx := hc R[j]
      rw [← e2] at hts
      generalize R[j] = x at hgj hts hcx
      refine ⟨by omega, by omega, 0, c, irows R, _, hmm, hgj, ?_⟩
      conv => whnf
      refine ⟨[1], false, ?_⟩
      conv => whnf
      refine hcx.mono ?_
      rintro o st' ⟨rfl, rfl⟩
      have hdr1 : R.drop (j + 1) = ns.drop (j + 1) := by
        have := congrArg (List.drop 1) hdr
        simpa using this
      cases hpx : p x with
      | false =>
        rw [hpx] at hts
        conv => whnf
        refine ⟨m - 1, by omega, none, i, j + 1, R, by omega, by omega, by omega, hR, by rw [htk, hts]; simp, hdr1, rfl, rfl, rfl, rfl, ?_, trivial⟩
        show V.int .i64 (IntKind.i64.wrap (j + 1)) = _
        rw [w1 j hjn]
      | true =>
        rw [hpx] at hts
        conv => whnf
        refine ⟨by omega, by omega, 0, c, irows R, _, [ent blk c 1 (irows (R.set i x))], hmm, hgi, hes x, ?_⟩
        conv => whnf
        refine ⟨m - 1, by omega, none, i + 1, j + 1, R.set i x, by omega, by omega, by omega, by simpa using hR, ?_, ?_, ?_, rfl, rfl, ?_, ?_, trivial⟩
        · rw [take_set_succ R i x (by omega), htk, hts]; simp
        · rw [List.drop_set_of_lt (by omega)]; exact hdr1
        · rfl
        · show V.int .i64 (IntKind.i64.wrap (i + 1)) = _
          rw [w1 i (by omega)]
        · show V.int .i64 (IntKind.i64.wrap (j + 1)) = _
          rw [w1 j hjn]
    · rw [ltB_f (by omega)]
      conv => whnf
      obtain rfl : j = n := by omega
      rw [List.take_of_length_le (l := ns) (by omega)] at htk
      have hli : (ns.filter p).length = i := by rw [← htk, List.length_take]; omega
      have hes2 : [ent blk c 1 (irows (ns.filter p))] = putEnt blk ((irows R).take i) [ent blk c 1 (irows R)] := by
        rw [irows_take, htk]
        exact (putEnt_fresh (es := []) (fun e he => by cases he)).symm
      have hlr : (irows R).length = j := by rw [irows_len]; exact hR
      refine ⟨hnc, by omega, by omega, fun h => absurd h (by omega), fun _ => ?_⟩
      conv => whnf
      refine semClearE (k := 0) (od := i) (n := j - i) (c := c - i) (cap := c) (es' := [ent blk c 1 (irows (ns.filter p))]) good rfl rfl rfl rfl (by decide) (by decide) rfl (.inl rfl) hmm (by omega) (by omega) (by omega) hes2 ?_
      conv => whnf
      refine ⟨hnc, by omega, by omega, ?_⟩
      conv => whnf
      refine ⟨[], false, ?_⟩
      conv => whnf
      rw [hli]
      exact ⟨rfl, rfl⟩
end Go.Cod

namespace Go.Cod
open Go Go.Proofs
set_option maxRecDepth 10000

theorem deleteFunc_nil (b : T) : Full Try.prog noY 39 [.nils, .fn 41 [.ptr 0 0 0]] [boxT b] fun o st' => o = .ret .nils ∧ st' = [boxT b] := by
  have hix : Full Try.prog noY 43 [.nils, .fn 41 [.ptr 0 0 0]] [boxT b] fun o st' => o = .ret (.int .i64 (-1)) ∧ st' = [boxT b] := by
    cases b with
    | mk bid bkind btext bkids =>
    refine full_of_awp good Try.func43 rfl (by kernel_rfl) (by decide) ?_
    conv => whnf
    refine loop_drop (fun m fr st => st = [boxT (.mk bid bkind btext bkids)] ∧ Holds fr [(7, .int .i64 0), (8, .int .i64 0)]) 0 none ?_ ?_
    · exact ⟨rfl, rfl, rfl, trivial⟩
    rintro m fr st ⟨rfl, hh⟩
    obtain ⟨fr, rfl⟩ := hh.split
    clear hh
    conv => whnf
    rw [ltB_f (by omega)]
    conv => whnf
    refine ⟨[], false, ?_⟩
    conv => whnf
    exact ⟨rfl, rfl⟩
  cases b with
  | mk bid bkind btext bkids =>
  refine full_of_awp good Try.func39 rfl (by kernel_rfl) (by decide) ?_
  conv => whnf
  refine ⟨[0], true, ?_⟩
  conv => whnf
  refine hix.mono ?_
  rintro o st' ⟨rfl, rfl⟩
  conv => whnf
  rw [eqB_refl]
  conv => whnf
  refine ⟨[], true, ?_⟩
  conv => whnf
  exact ⟨rfl, rfl⟩
theorem deleteFunc_any (blk c : Nat) (ns : List Int) (b : T) (hl : b.kids.length ≤ 1048576) (hl2 : ns.length ≤ 1048576) :
    Full Try.prog noY 39 [.dref blk ns.length c, .fn 41 [.ptr 1 0 0]] [poolO [ent blk c 1 (irows ns)], boxT b] fun o st' => o = .ret (.dref blk (ns.filter (inB b)).length c) ∧ st' = [poolO [ent blk c 1 (irows (ns.filter (inB b)))], boxT b] :=
  Full.room 0 (deleteFunc_nil b).1 fun hrm => deleteFunc_full blk ns.length c ns b rfl (by
    have := hrm blk c 1 (irows ns) (List.mem_singleton.2 rfl)
    rwa [irows_len] at this) hl hl2
theorem mergeShared_new (a b : T) (ha : a.kids.length ≤ 1048576) (hl : b.kids.length ≤ 1048576) : Full Try.prog noY 37 [.agg a.cells, .agg b.cells] [] (NewI (sharedT a b)) := by
  have hk := treeKidIds_new a ha
  have h0 := deleteFunc_nil b
  have h1 := fun blk c => deleteFunc_any blk c a.kidIds b hl (by unfold T.kidIds; rw [List.length_map]; exact ha)
  unfold sharedT
  generalize inB b = p at *
  generalize a.kidIds = ns at *
  cases a with
  | mk id kind text kids =>
  cases b with
  | mk bid bkind btext bkids =>
  refine full_of_awp good Try.func37 rfl (by kernel_rfl) (by decide) ?_
  conv => whnf
  refine .inr (.inl ⟨[], false, ?_⟩)
  conv => whnf
  refine hk.mono ?_
  rintro o st' ⟨h, hh, rfl, rfl⟩
  rcases h with _ | ⟨blk, c⟩
  · obtain rfl := hh rfl
    conv => whnf
    refine ⟨[1], true, ?_⟩
    conv => whnf
    refine h0.mono ?_
    rintro o st' ⟨rfl, rfl⟩
    conv => whnf
    refine ⟨[2], true, ?_⟩
    conv => whnf
    exact ⟨none, fun _ => rfl, rfl, rfl⟩
  · conv => whnf
    refine ⟨[2, 1], true, ?_⟩
    conv => whnf
    refine (h1 blk c).mono ?_
    rintro o st' ⟨rfl, rfl⟩
    conv => whnf
    refine ⟨[2], true, ?_⟩
    conv => whnf
    exact ⟨some (blk, c), (by intro h; cases h), rfl, rfl⟩
end Go.Cod

namespace Go.Cod
open Go Go.Proofs
set_option maxRecDepth 10000

theorem mergeShared_pure (a b : T) (ha : a.kids.length ≤ 1048576) (hl : b.kids.length ≤ 1048576) : Pure Try.prog 37 [.agg a.cells, .agg b.cells] (· = .sl (irows (sharedT a b))) := by
  refine Full.freeze (mergeShared_new a b ha hl) ?_
  rintro o st' ⟨h, h1, rfl, rfl⟩
  refine ⟨_, _, .sl (irows (sharedT a b)), rfl, rfl, viewI _ h _ h1 (fun _ h => h), ?_, rfl⟩
  rcases h with _ | ⟨b, c⟩ <;> rfl
theorem sharedT_len (a b : T) : (sharedT a b).length ≤ a.kids.length := by
  unfold sharedT
  refine Nat.le_trans (List.length_filter_le _ _) ?_
  unfold T.kidIds
  rw [List.length_map]
  exact Nat.le_refl _
def sameOrd (a b : T) : Bool := decide (sharedT a b = sharedT b a)
theorem mergeOneOrder_pure (a b : T) (ha : a.kids.length ≤ 1048576) (hl : b.kids.length ≤ 1048576) : Pure Try.prog 27 [.agg a.cells, .agg b.cells] (· = .bool (sameOrd a b)) := by
  have h1 := mergeShared_pure a b ha hl
  have h2 := mergeShared_pure b a hl ha
  have h3 := equalInts_pure (sharedT a b) (sharedT b a) (by have := sharedT_len a b; omega) (by have := sharedT_len b a; omega)
  unfold sameOrd
  generalize sharedT a b = x at *
  generalize sharedT b a = y at *
  generalize decide (x = y) = r at *
  generalize irows x = xr at *
  generalize irows y = yr at *
  cases a with
  | mk id kind text kids =>
  cases b with
  | mk bid bkind btext bkids =>
  refine pure_of_awp good Try.func27 rfl (by kernel_rfl) (by decide) ?_
  conv => whnf
  repeat' (first
    | (refine ⟨_, .inl h1, ?_⟩
       conv => whnf)
    | (refine ⟨_, .inl h2, ?_⟩
       conv => whnf)
    | (refine ⟨_, .inl h3, ?_⟩
       conv => whnf))
end Go.Cod

namespace Go.Cod
open Go Go.Proofs
set_option maxRecDepth 10000

theorem T.Small.len {t : T} (h : t.Small) : t.kids.length ≤ 1048576 := by cases h; assumption
def pairOk (b : T) (s : Sp) : Bool := match spotOf b (idS s) with
  | none => true
  | some o => decide (s.2.1 = o.2.1) && sameOrd s.1 o.1
def pairFits (a b : T) : Bool := (spT a 0 1).all (pairOk b)
theorem spotOf_small {b : T} (hb : b.Small) {x : Int} {o : Sp} (h : spotOf b x = some o) : o.1.Small := by
  unfold spotOf at h
  split at h
  · exact spT_small b 0 1 hb o (List.mem_of_find?_eq_some h)
  · cases h
set_option maxHeartbeats 8000000 in
theorem mergePairFits_pure (a b : T) (ha : a.Small) (hb : b.Small) : Pure Try.prog 15 [.agg a.cells, .agg b.cells] (· = .bool (pairFits a b)) := by
  have hsp := treeSpots_full a
  have hcl := treeSpots1_full a ha _ (okbT_takes a)
  have hbox : boxT a = ⟨[a.cells], 4, true, true, true, .cell⟩ := rfl
  have hso : pairFits a b = (spT a 0 1).all (pairOk b) := rfl
  have hsm := spT_small a 0 1 ha
  have hc1 := fun x => treeSpotOf_pure b hb x
  have hcs : ∀ x o, spotOf b x = some o → o.1.Small := fun x o h => spotOf_small hb h
  have hpo : ∀ s : Sp, pairOk b s = match spotOf b (idS s) with
    | none => true
    | some o => decide (s.2.1 = o.2.1) && sameOrd s.1 o.1 := fun s => rfl
  generalize pairFits a b = pf at *
  generalize pairOk b = pk at *
  generalize spotOf b = sb at *
  have hobt : okbT a = fun log vs => ∃ pre s suf, spT a 0 1 = pre ++ s :: suf ∧ log = spRows pre ∧ vs = [spV s] := rfl
  generalize okbT a = okb at *
  generalize spT a 0 1 = sps at *
  cases a with
  | mk id kind text kids =>
  cases b with
  | mk bid bkind btext bkids =>
  refine pure_of_awp good Try.func15 rfl (by kernel_rfl) (by decide) ?_
  conv => whnf
  refine .inr (.inl ⟨[], false, ?_⟩)
  conv => whnf
  refine hsp.mono ?_
  rintro o st' ⟨rfl, rfl⟩
  conv => whnf
  refine ⟨[3], false, okb, fun log st' => (sps.take log.length).all pk = true ∧ st' = [⟨[(T.mk id kind text kids).cells], 4, true, true, true, .cell⟩, ⟨[(T.mk bid bkind btext bkids).cells], 4, true, true, true, .cell⟩, ⟨[[.bool false]], 1, true, true, true, .cell⟩, ⟨[(T.mk id kind text kids).cells], 4, false, true, true, .cell⟩], ?_⟩
  conv => whnf
  refine ⟨⟨by simp, rfl⟩, ?_, ?_⟩
  · rintro log vs st' ⟨hall, rfl⟩ ho
    rw [hobt] at ho
    obtain ⟨pre, s, suf, rfl, rfl, rfl⟩ := ho
    have htk : (pre ++ s :: suf).take (spRows pre).length = pre := by rw [spRows_len]; simp
    have htk1 : (pre ++ s :: suf).take (spRows pre ++ [[spV s]]).length = pre ++ [s] := by rw [List.length_append, spRows_len]; show List.take (pre.length + 1) _ = _; rw [List.take_append, List.take_of_length_le (by omega)]; simp
    rw [htk] at hall
    refine ⟨rfl, ?_⟩
    have hfs : pk s = false → pf = false := fun h => by
      rw [hso, List.all_append, List.all_cons, h]; simp
    have hfn : pk s = true → (pre ++ [s]).all pk = true := fun h => by
      rw [List.all_append, hall]; simp [h]
    have hss := (hsm s (by simp)).len
    have hps := hpo s
    obtain ⟨⟨id', kind', text', kids'⟩, ov, lv⟩ := s
    have hc2 := hc1 id'
    have hcx := hcs id'
    have hps : pk (T.mk id' kind' text' kids', ov, lv) = match sb id' with
      | none => true
      | some o => decide (ov = o.2.1) && sameOrd (T.mk id' kind' text' kids') o.1 := hps
    generalize sb id' = so at hc2 hps hcx
    conv => whnf
    refine .inl (hc2.mono ?_)
    rintro r rfl
    cases so with
    | none =>
      conv => whnf
      refine ⟨some [0, 1, 2, 3], ?_⟩
      conv => whnf
      rw [htk1]
      exact ⟨hfn hps, rfl⟩
    | some o =>
      have hos := (hcx _ rfl).len
      obtain ⟨ot, oov, olv⟩ := o
      have hme := mergeOneOrder_pure (T.mk id' kind' text' kids') ot hss hos
      have hps : pk (T.mk id' kind' text' kids', ov, lv) = (decide (ov = oov) && sameOrd (T.mk id' kind' text' kids') ot) := hps
      generalize sameOrd (T.mk id' kind' text' kids') ot = so at hme hps
      obtain ⟨oid, okd, otx, oks⟩ := ot
      conv => whnf
      by_cases e : ov = oov
      · rw [eqB_t e]
        conv => whnf
        refine .inl (hme.mono ?_)
        rintro r rfl
        cases so
        · conv => whnf
          rw [hfs (by rw [hps]; simp)]
        · conv => whnf
          refine ⟨some [0, 1, 2, 3], ?_⟩
          conv => whnf
          rw [htk1]
          exact ⟨hfn (by rw [hps]; simp [e]), rfl⟩
      · rw [eqB_f e]
        conv => whnf
        rw [hfs (by rw [hps]; simp [e])]
  · refine hcl.mono ?_
    rintro o st' ⟨r, b, log', rfl, rfl, hl⟩
    refine ⟨_, _, _, rfl, rfl, fun hb st' hI => ?_⟩
    obtain ⟨hall, rfl⟩ := hI
    rw [hl hb, List.take_of_length_le (by rw [spRows_len]; omega)] at hall
    conv => whnf
    rw [hso, hall]
end Go.Cod

namespace Go.Cod
open Go Go.Proofs
variable [Lam]

/- A long region in pieces. -/
def aOpsR (P : Program) (ok : OkY) (τ : Tau) (ops : Array Oper) (l : List Oper) : (Nat → V) → St → ((Nat → V) → St → Prop) → (V → (Nat → V) → St → Prop) → Prop :=
  List.rec (motive := fun _ => (Nat → V) → St → ((Nat → V) → St → Prop) → (V → (Nat → V) → St → Prop) → Prop)
    (fun fr st K _ => K fr st)
    (fun o _ ih fr st K Z => match o.guard with
      | none => aOp P ok τ o fr st (fun v st' => force v fun v => forceSt st' fun st' => ih (put fr o.dst v) st' K Z) (fun v st' => Z v fr st')
      | some (j, want) => match (ops[j]?).bind (·.dst) with
        | some d => (match fr d with
          | .bool b => BC (if want then b else negB b) (aOp P ok τ o fr st (fun v st' => force v fun v => forceSt st' fun st' => ih (put fr o.dst v) st' K Z) (fun v st' => Z v fr st'))
            (ih (put fr o.dst undefV) st K Z)
          | .raw (.tuple _) => ih (put fr o.dst undefV) st K Z
          | _ => False)
        | none => False) l
theorem aOpsR_eq (P : Program) (ok : OkY) (τ : Tau) (ops : Array Oper) (l : List Oper) : aOpsR P ok τ ops l = aOps P ok τ ops l := rfl
theorem aOps_append (P : Program) (ok : OkY) (τ : Tau) (ops : Array Oper) (K : (Nat → V) → St → Prop) (Z : V → (Nat → V) → St → Prop) (l2 : List Oper) : ∀ (l1 : List Oper) (fr : Nat → V) (st : St),
    aOps P ok τ ops (l1 ++ l2) fr st K Z = aOps P ok τ ops l1 fr st (fun fr st => aOps P ok τ ops l2 fr st K Z) Z
  | [], fr, st => rfl
  | o :: l1, fr, st => by
    have ih := aOps_append P ok τ ops K Z l2 l1
    rw [List.cons_append, aOps_cons, aOps_cons]
    simp only [ih]
theorem aOps_cut {P : Program} {ok : OkY} {τ : Tau} {ops : Array Oper} {l : List Oper} {fr : Nat → V} {st : St} {K : (Nat → V) → St → Prop} {Z : V → (Nat → V) → St → Prop} (k : Nat)
    (h : ∀ K1 : (Nat → V) → St → Prop, (∀ fr st, aOps P ok τ ops (l.drop k) fr st K Z → K1 fr st) → aOpsR P ok τ ops (l.take k) fr st K1 Z) : aOps P ok τ ops l fr st K Z := by
  have := h (fun fr st => aOps P ok τ ops (l.drop k) fr st K Z) fun _ _ h => h
  rw [aOpsR_eq, ← aOps_append, List.take_append_drop] at this
  exact this
theorem aOps_with {P : Program} {ok : OkY} {τ : Tau} {ops : Array Oper} {l : List Oper} {fr : Nat → V} {st : St} {K : (Nat → V) → St → Prop} {Z : V → (Nat → V) → St → Prop} (L : List (Nat × V)) (hh : Holds fr L) (h : ∀ b, aOpsR P ok τ ops l (setL b L) st K Z) : aOps P ok τ ops l fr st K Z := by
  obtain ⟨b, rfl⟩ := hh.split
  exact h b
theorem aOps_cutw {P : Program} {ok : OkY} {τ : Tau} {ops : Array Oper} {l : List Oper} {fr : Nat → V} {st : St} {K : (Nat → V) → St → Prop} {Z : V → (Nat → V) → St → Prop} (k : Nat) (L : List (Nat × V)) (hh : Holds fr L)
    (h : ∀ K1 : (Nat → V) → St → Prop, (∀ fr st, aOps P ok τ ops (l.drop k) fr st K Z → K1 fr st) → ∀ b, aOpsR P ok τ ops (l.take k) (setL b L) st K1 Z) : aOps P ok τ ops l fr st K Z := by
  obtain ⟨b, rfl⟩ := hh.split
  exact aOps_cut k fun K1 h1 => h K1 h1 b
end Go.Cod

namespace Go.Cod
open Go Go.Proofs
variable [Lam]

/- The walk of a region, sealed for the kernel too. -/
def awpG (A : Program → OkY → Tau → Array Oper → List Oper → (Nat → V) → St → ((Nat → V) → St → Prop) → (V → (Nat → V) → St → Prop) → Prop) (P : Program) (ok : OkY) (τ : Tau) (nb : Nat) (c : Code) : (Ex → (Nat → V) → St → Prop) → (Nat → V) → St → Prop :=
  Code.rec (motive := fun _ => Nat → (Ex → (Nat → V) → St → Prop) → (Nat → V) → St → Prop)
    (fun _ Q fr st => Q .normal fr st)
    (fun _ ops d _ Q fr st => match d with
      | false => A P ok τ ops ops.toList fr st (Q .normal) (fun v => Q (.pan v))
      | true => (match hasHand τ ops with
        | true => withMat τ ops fun M CH => Chk (mix2Ok τ M CH ops) (aEOps2 P τ CH ops ops.toList 0 fr st fun fr => forcePlan (planOf M CH ops) fun plan => aXOps P ok τ ops plan (Q .normal) plan [] fr st)
        | false => (match orderOk ops with
          | true => aQOps P τ ops ops.toList fr st fun fr => Q .normal fr st
          | false => (match mixOk ops with
            | true => aEOps P τ ops ops.toList 0 fr st fun fr => aCOps P ok τ ops ops.toList 0 fr st (Q .normal)
            | false => withMat τ ops fun M CH => (match mix2Ok τ M CH ops with
              | true => aEOps2 P τ CH ops ops.toList 0 fr st fun fr => forcePlan (planOf M CH ops) fun plan => aXOps P ok τ ops plan (Q .normal) plan [] fr st
              | false => aAny P ok τ ops (Q .normal) (fun v => Q (.pan v)) ops.size [] fr st)))))
    (fun _ _ iha ihb nb Q fr st => iha nb (AThen (ihb nb Q) Q) fr st)
    (fun c _ _ iha ihb nb Q fr st => ACond (ev fr c) (iha nb Q fr st) (ihb nb Q fr st))
    (fun id _ ih nb Q fr st => ih nb (ABlock id Q) fr st)
    (fun _ ih nb Q fr st => ∃ (J : Nat → (Nat → V) → St → Prop) (n : Nat) (flag : Bool) (s0 : Option (List Nat)), cmp nb s0 fr st (J n) ∧
      ∀ n fr st, J n fr st → ih nb (AThen (ALoop nb flag J n) Q) fr st)
    (fun f ps _ _ ihx ihy _ Q fr st => (match ev fr f with
      | .fn g cap => ARange P g cap ps.size (fun Q vs st' => ihx st.length (AThen (ihy st.length Q) fun _ _ _ => False) (setPs ps.toList vs fr) st') Q fr st
      | _ => False))
    (fun id _ Q fr st => Q (.exit id) fr st)
    (fun _ _ _ _ _ _ => False)
    (fun _ _ _ _ _ => False)
    (fun _ _ _ _ _ => False)
    (fun _ Q fr st => Q .ret fr st)
    (fun _ _ _ _ _ => False) c nb

theorem pure_of_box {P : Program} {τ : Tau} (hτ : TauGood P τ) {f : FuncId} {fn : Func} {c : Code} {args : List V} {R : V → Prop}
    (hf : P.funcs[f]? = some fn) (hb : fn.body = some c) (hname : (fn.name == "runtime.NumGoroutine") = false) (hc : codeOk fn.ntmps c = true)
    (h : ∀ A, A = aOps → awpG A P noY τ 0 c (AEnd τ fn.results.toList R) (initFr args) []) : Pure P f args R := pure_of_awp hτ hf hb hname hc (h aOps rfl)
section
variable {A : Program → OkY → Tau → Array Oper → List Oper → (Nat → V) → St → ((Nat → V) → St → Prop) → (V → (Nat → V) → St → Prop) → Prop}
variable {P : Program} {ok : OkY} {τ : Tau} {ops : Array Oper} {l : List Oper} {fr : Nat → V} {st : St} {K : (Nat → V) → St → Prop} {Z : V → (Nat → V) → St → Prop}
theorem box_go (hA : A = aOps) (h : aOpsR P ok τ ops l fr st K Z) : A P ok τ ops l fr st K Z := by rw [hA]; exact h
theorem box_cut (hA : A = aOps) (k : Nat) (h : ∀ K1 : (Nat → V) → St → Prop, (∀ fr st, A P ok τ ops (l.drop k) fr st K Z → K1 fr st) → aOpsR P ok τ ops (l.take k) fr st K1 Z) : A P ok τ ops l fr st K Z := by
  rw [hA] at h ⊢
  exact aOps_cut k h
theorem box_with (hA : A = aOps) (L : List (Nat × V)) (hh : Holds fr L) (h : ∀ b, aOpsR P ok τ ops l (setL b L) st K Z) : A P ok τ ops l fr st K Z := by
  rw [hA]
  exact aOps_with L hh h
theorem box_cutw (hA : A = aOps) (k : Nat) (L : List (Nat × V)) (hh : Holds fr L)
    (h : ∀ K1 : (Nat → V) → St → Prop, (∀ fr st, A P ok τ ops (l.drop k) fr st K Z → K1 fr st) → ∀ b, aOpsR P ok τ ops (l.take k) (setL b L) st K1 Z) : A P ok τ ops l fr st K Z := by
  rw [hA] at h ⊢
  exact aOps_cutw k L hh h
end
end Go.Cod

namespace Go.Cod
open Go Go.Proofs
set_option maxRecDepth 10000

def fitsI (o a b : T) : Bool := okT o && okT a && okT b && decide (o.id = a.id) && decide (o.id = b.id) && pairFits o a && pairFits o b && pairFits a b
set_option maxHeartbeats 800000 in
theorem implMergeFits_pure (o a b : T) (ho : o.Small) (ha : a.Small) (hb : b.Small) : Pure Try.prog 7 [.agg o.cells, .agg a.cells, .agg b.cells] (· = .bool (fitsI o a b)) := by
  have h1 := implTreeOk o ho
  have h2 := implTreeOk a ha
  have h3 := implTreeOk b hb
  have h4 := mergePairFits_pure o a ho ha
  have h5 := mergePairFits_pure o b ho hb
  have h6 := mergePairFits_pure a b ha hb
  have hr : fitsI o a b = (okT o && okT a && okT b && decide (o.id = a.id) && decide (o.id = b.id) && pairFits o a && pairFits o b && pairFits a b) := rfl
  generalize fitsI o a b = r at *
  generalize okT o = r1 at *
  generalize okT a = r2 at *
  generalize okT b = r3 at *
  generalize pairFits o a = r4 at *
  generalize pairFits o b = r5 at *
  generalize pairFits a b = r6 at *
  obtain ⟨oi, ok, ox, oks⟩ := o
  obtain ⟨ai, ak, ax, aks⟩ := a
  obtain ⟨bi, bk, bx, bks⟩ := b
  simp only [T.id] at hr
  refine pure_of_box good Try.func7 rfl (by kernel_rfl) (by decide) fun A hA => ?_
  conv => whnf
  refine box_cut hA 1 fun K1 hK1 => ?_
  conv => whnf
  refine hK1 _ [⟨[[.int .i64 oi, .str ok, .str ox, .sl (T.rows oks)]], 4, true, true, true, .cell⟩] ?_
  clear hK1 K1
  refine box_cut hA 1 fun K1 hK1 => ?_
  conv => whnf
  refine hK1 _ [⟨[[.int .i64 oi, .str ok, .str ox, .sl (T.rows oks)]], 4, true, true, true, .cell⟩, ⟨[[.int .i64 ai, .str ak, .str ax, .sl (T.rows aks)]], 4, true, true, true, .cell⟩] ?_
  clear hK1 K1
  refine box_cut hA 1 fun K1 hK1 => ?_
  conv => whnf
  refine hK1 _ [⟨[[.int .i64 oi, .str ok, .str ox, .sl (T.rows oks)]], 4, true, true, true, .cell⟩, ⟨[[.int .i64 ai, .str ak, .str ax, .sl (T.rows aks)]], 4, true, true, true, .cell⟩, ⟨[[.int .i64 bi, .str bk, .str bx, .sl (T.rows bks)]], 4, true, true, true, .cell⟩] ?_
  clear hK1 K1
  refine box_go hA ?_
  conv => whnf
  refine box_go hA ?_
  conv => whnf
  refine .inl (h1.mono ?_)
  rintro r rfl
  cases r1
  · conv => whnf
    rw [hr]; rfl
  conv => whnf
  refine .inl (h2.mono ?_)
  rintro r rfl
  cases r2
  · conv => whnf
    rw [hr]; rfl
  conv => whnf
  refine .inl (h3.mono ?_)
  rintro r rfl
  cases r3
  · conv => whnf
    rw [hr]; rfl
  conv => whnf
  by_cases e1 : oi = ai
  · rw [eqB_t e1]
    conv => whnf
    by_cases e2 : oi = bi
    · rw [eqB_t e2]
      conv => whnf
      refine .inl (h4.mono ?_)
      rintro r rfl
      cases r4
      · conv => whnf
        rw [hr]; simp
      conv => whnf
      refine .inl (h5.mono ?_)
      rintro r rfl
      cases r5
      · conv => whnf
        rw [hr]; simp
      conv => whnf
      refine .inl (h6.mono ?_)
      rintro r rfl
      cases r6
      · conv => whnf
        rw [hr]; simp
      conv => whnf
      rw [hr]; simp [e1, ← e2]
    · rw [eqB_f e2]
      conv => whnf
      rw [hr]; simp [e2]
  · rw [eqB_f e1]
    conv => whnf
    rw [hr]; simp [e1]
end Go.Cod

namespace Go.Cod
open Go Go.Proofs
set_option maxRecDepth 10000

/- The spec's way. -/
def oversGo (a b : T) : List Int → Bool
  | [] => true
  | x :: xs => if 0 ≤ overT b x 0 ∧ overT b x 0 ≠ overT a x 0 then false else oversGo a b xs
theorem oversGo_drop (a b : T) (ns : List Int) (i : Nat) (h : i < ns.length) : oversGo a b (ns.drop i) = if 0 ≤ overT b ns[i] 0 ∧ overT b ns[i] 0 ≠ overT a ns[i] 0 then false else oversGo a b (ns.drop (i + 1)) := by
  rw [List.drop_eq_getElem_cons h]; rfl
set_option maxHeartbeats 8000000 in
theorem l6Overs_pure (a b : T) (ha : a.Small) (hb : b.Small) (hn : a.ids.length ≤ 1048577) : Pure Try.prog 11 [.agg a.cells, .agg b.cells] (· = .bool (oversGo a b a.ids)) := by
  have hi := l2Ids_pure a ha (by omega)
  have ca := fun x => l2Over_pure a ha x 0
  have cb := fun x => l2Over_pure b hb x 0
  have hg := irows_get a.ids
  have hlr := irows_len a.ids
  have hdr := oversGo_drop a b a.ids
  generalize a.ids = ns at *
  have hres : oversGo a b ns = oversGo a b (ns.drop 0) := rfl
  generalize hrr : oversGo a b ns = res at *
  clear hrr
  have hnil : oversGo a b [] = true := rfl
  generalize oversGo a b = gg at *
  generalize overT a = oa at *
  generalize overT b = ob at *
  obtain ⟨ai, ak, ax, aks⟩ := a
  obtain ⟨bi, bk, bx, bks⟩ := b
  refine pure_of_awp good Try.func11 rfl (by kernel_rfl) (by decide) ?_
  conv => whnf
  refine .inl (hi.mono ?_)
  rintro r rfl
  conv => whnf
  refine loop_drop (fun n fr st => ∃ i : Nat, n + i = ns.length ∧ res = gg (ns.drop i) ∧ st = [⟨[(T.mk ai ak ax aks).cells], 4, true, true, true, .cell⟩, ⟨[(T.mk bi bk bx bks).cells], 4, true, true, true, .cell⟩] ∧ Holds fr [(2, .ptr 0 0 0), (3, .ptr 1 0 0), (5, .sl (irows ns)), (6, .int .i64 i)]) ns.length none ?_ ?_
  · exact ⟨0, rfl, hres, rfl, rfl, rfl, rfl, rfl, trivial⟩
  rintro n fr st ⟨i, hi, hgo, rfl, hh⟩
  obtain ⟨fr, rfl⟩ := hh.split
  clear hh
  conv => whnf
  by_cases hlt : i < ns.length
  · rw [hlr, ltB_t (by omega)]
    conv => whnf
    have hgi := hg i hlt
    have hd := hdr i hlt
    generalize ns[i] = x at hgi hd
    have cax := ca x
    have cbx := cb x
    generalize oa x 0 = va at *
    generalize ob x 0 = vb at *
    repeat' (first
      | (refine And.intro (by
              (conv => whnf)
              exact ⟨by omega, irows ns, _, 1, rfl, hgi, rfl, rfl, rfl⟩) ?_
         conv => whnf)
      | (refine ⟨by omega, irows ns, _, 1, rfl, hgi, rfl, rfl, ?_⟩
         conv => whnf)
      | (refine ⟨_, .inl cbx, ?_⟩
         conv => whnf))
    by_cases h0 : 0 ≤ vb
    · rw [leB_t h0]
      conv => whnf
      repeat' (first
        | (refine And.intro (by
                (conv => whnf)
                exact ⟨by omega, irows ns, _, 1, rfl, hgi, rfl, rfl, rfl⟩) ?_
           conv => whnf)
        | (refine ⟨by omega, irows ns, _, 1, rfl, hgi, rfl, rfl, ?_⟩
           conv => whnf)
        | (refine ⟨_, .inl cax, ?_⟩
           conv => whnf))
      by_cases he : vb = va
      · rw [eqB_t he]
        conv => whnf
        rw [if_neg (fun h => h.2 he)] at hd
        refine ⟨n - 1, by omega, none, i + 1, by omega, by rw [hgo, hd], rfl, rfl, rfl, rfl, ?_, trivial⟩
        · show V.int .i64 (IntKind.i64.wrap (i + 1)) = _
          rw [wrap64 (by omega) (by omega)]; simp
      · rw [eqB_f he]
        conv => whnf
        rw [hgo, hd, if_pos ⟨h0, he⟩]
    · rw [leB_f (by omega)]
      conv => whnf
      rw [if_neg (fun h => h0 h.1)] at hd
      refine ⟨n - 1, by omega, none, i + 1, by omega, by rw [hgo, hd], rfl, rfl, rfl, rfl, ?_, trivial⟩
      · show V.int .i64 (IntKind.i64.wrap (i + 1)) = _
        rw [wrap64 (by omega) (by omega)]; simp
  · rw [hlr, ltB_f (by omega)]
    conv => whnf
    rw [hgo, List.drop_eq_nil_of_le (by omega), hnil]
end Go.Cod

namespace Go.Cod
open Go Go.Proofs
set_option maxRecDepth 10000

theorem fT_sm {t : T} (ht : t.Small) {x : Int} {s : T} (h : fT t x = some s) : s.Small := by
  rw [fT_sp t x 0 1] at h
  cases e : (spT t 0 1).find? (isId x) with
  | none => rw [e] at h; cases h
  | some o =>
    rw [e] at h
    cases h
    exact spT_small t 0 1 ht o (List.mem_of_find?_eq_some e)
def orders1 (a b : Option T) : Bool := match a, b with
  | some s, some s' => ordGo s'.kidIds (-1) s.kidIds
  | _, _ => true
def ordersGo (a b : T) : List Int → Bool
  | [] => true
  | x :: xs => if orders1 (fT a x) (fT b x) = true then ordersGo a b xs else false
theorem ordersGo_drop (a b : T) (ns : List Int) (i : Nat) (h : i < ns.length) : ordersGo a b (ns.drop i) = if orders1 (fT a ns[i]) (fT b ns[i]) = true then ordersGo a b (ns.drop (i + 1)) else false := by
  rw [List.drop_eq_getElem_cons h]; rfl
set_option maxHeartbeats 8000000 in
theorem l6Orders_pure (a b : T) (ha : a.Small) (hb : b.Small) (hn : a.ids.length ≤ 1048577) : Pure Try.prog 12 [.agg a.cells, .agg b.cells] (· = .bool (ordersGo a b a.ids)) := by
  have hi := l2Ids_pure a ha (by omega)
  have ca := fun x => l2Find_pure a ha x
  have cb := fun x => l2Find_pure b hb x
  have sa : ∀ x s, fT a x = some s → s.Small := fun x s h => fT_sm ha h
  have sb : ∀ x s, fT b x = some s → s.Small := fun x s h => fT_sm hb h
  have hg := irows_get a.ids
  have hlr := irows_len a.ids
  have hdr := ordersGo_drop a b a.ids
  have hnn : ∀ i (h : i < a.ids.length), fT a a.ids[i] ≠ none := fun i h e => (fT_none a _).1 e (List.getElem_mem _)
  generalize a.ids = ns at *
  have hres : ordersGo a b ns = ordersGo a b (ns.drop 0) := rfl
  generalize hrr : ordersGo a b ns = res at *
  clear hrr
  have hnil : ordersGo a b [] = true := rfl
  generalize ordersGo a b = gg at *
  generalize fT a = fa at *
  generalize fT b = fb at *
  obtain ⟨ai, ak, ax, aks⟩ := a
  obtain ⟨bi, bk, bx, bks⟩ := b
  refine pure_of_awp good Try.func12 rfl (by kernel_rfl) (by decide) ?_
  conv => whnf
  refine .inl (hi.mono ?_)
  rintro r rfl
  conv => whnf
  refine loop_drop (fun n fr st => ∃ i : Nat, n + i = ns.length ∧ res = gg (ns.drop i) ∧ st = [⟨[(T.mk ai ak ax aks).cells], 4, true, true, true, .cell⟩, ⟨[(T.mk bi bk bx bks).cells], 4, true, true, true, .cell⟩] ∧ Holds fr [(2, .ptr 0 0 0), (3, .ptr 1 0 0), (5, .sl (irows ns)), (6, .int .i64 i)]) ns.length none ?_ ?_
  · exact ⟨0, rfl, hres, rfl, rfl, rfl, rfl, rfl, trivial⟩
  rintro n fr st ⟨i, hi, hgo, rfl, hh⟩
  obtain ⟨fr, rfl⟩ := hh.split
  clear hh
  conv => whnf
  by_cases hlt : i < ns.length
  · rw [hlr, ltB_t (by omega)]
    conv => whnf
    have hgi := hg i hlt
    have hd := hdr i hlt
    have hnx := hnn i hlt
    clear hnn
    generalize ns[i] = x at hgi hd hnx
    have cax := ca x
    have cbx := cb x
    have sax := sa x
    have sbx := sb x
    generalize fa x = va at *
    generalize fb x = vb at *
    have w1 : IntKind.i64.wrap ((i : Int) + 1) = ((i + 1 : Nat) : Int) := by rw [wrap64 (by omega) (by omega)]; simp
    rcases va with _ | ⟨⟨ia, ka, xa, ksa⟩⟩
    · exact absurd rfl hnx
    · rcases vb with _ | ⟨⟨ib, kb, xb, ksb⟩⟩
      · rw [if_pos (show orders1 (some (.mk ia ka xa ksa)) none = true from rfl)] at hd
        repeat' (first
        | (refine And.intro (by
                (conv => whnf)
                first
                  | exact ⟨by omega, irows ns, _, 1, rfl, hgi, rfl, rfl, rfl⟩
                  | exact ⟨_, .inl cax, rfl⟩
                  | exact ⟨_, .inl cbx, rfl⟩) ?_
           conv => whnf)
        | (refine ⟨by omega, irows ns, _, 1, rfl, hgi, rfl, rfl, ?_⟩
           conv => whnf)
        | (refine ⟨_, .inl cax, ?_⟩
           conv => whnf)
        | (refine ⟨_, .inl cbx, ?_⟩
           conv => whnf))
        refine ⟨n - 1, by omega, some [0, 1], ?_⟩
        conv => whnf
        refine ⟨i + 1, by omega, by rw [hgo, hd], rfl, rfl, rfl, rfl, ?_, trivial⟩
        show V.int .i64 (IntKind.i64.wrap (i + 1)) = _
        rw [w1]
      · have la := (sax _ rfl).len
        have lb := (sbx _ rfl).len
        have n1 := l5Numbers_pure _ la
        have n2 := l5Numbers_pure _ lb
        have n3 := l6Order_pure (T.mk ia ka xa ksa).kidIds (T.mk ib kb xb ksb).kidIds (by unfold T.kidIds; rw [List.length_map]; exact la) (by unfold T.kidIds; rw [List.length_map]; exact lb)
        have ho : orders1 (some (.mk ia ka xa ksa)) (some (.mk ib kb xb ksb)) = ordGo (T.mk ib kb xb ksb).kidIds (-1) (T.mk ia ka xa ksa).kidIds := rfl
        rw [ho] at hd
        generalize ordGo (T.mk ib kb xb ksb).kidIds (-1) (T.mk ia ka xa ksa).kidIds = r at n3 hd
        generalize irows (T.mk ia ka xa ksa).kidIds = ra at n1 n3
        generalize irows (T.mk ib kb xb ksb).kidIds = rb at n2 n3
        repeat' (first
        | (refine And.intro (by
                (conv => whnf)
                first
                  | exact ⟨by omega, irows ns, _, 1, rfl, hgi, rfl, rfl, rfl⟩
                  | exact ⟨_, .inl cax, rfl⟩
                  | exact ⟨_, .inl cbx, rfl⟩) ?_
           conv => whnf)
        | (refine ⟨by omega, irows ns, _, 1, rfl, hgi, rfl, rfl, ?_⟩
           conv => whnf)
        | (refine ⟨_, .inl cax, ?_⟩
           conv => whnf)
        | (refine ⟨_, .inl cbx, ?_⟩
           conv => whnf))
        repeat' (first
          | (refine ⟨_, .inl n1, ?_⟩
             conv => whnf)
          | (refine ⟨_, .inl n2, ?_⟩
             conv => whnf)
          | (refine ⟨_, .inl n3, ?_⟩
             conv => whnf))
        cases r
        · conv => whnf
          rw [hgo, hd, if_neg (by decide)]
        · conv => whnf
          rw [if_pos rfl] at hd
          refine ⟨n - 1, by omega, some [0, 1], ?_⟩
          conv => whnf
          refine ⟨i + 1, by omega, by rw [hgo, hd], rfl, rfl, rfl, rfl, ?_, trivial⟩
          show V.int .i64 (IntKind.i64.wrap (i + 1)) = _
          rw [w1]
  · rw [hlr, ltB_f (by omega)]
    conv => whnf
    rw [hgo, List.drop_eq_nil_of_le (by omega), hnil]
end Go.Cod

namespace Go.Cod
open Go Go.Proofs
set_option maxRecDepth 10000

def fitsS (o a b : T) : Bool := okT o && okT a && okT b && decide (o.id = a.id) && decide (o.id = b.id) && oversGo o a o.ids && oversGo o b o.ids && oversGo a b a.ids && ordersGo o a o.ids && ordersGo o b o.ids && ordersGo a b a.ids
set_option maxHeartbeats 8000000 in
theorem specMergeFits_pure (o a b : T) (ho : o.Small) (ha : a.Small) (hb : b.Small) (no : o.ids.length ≤ 1048577) (na : a.ids.length ≤ 1048577) (nb : b.ids.length ≤ 1048577) : Pure Try.prog 5 [.agg o.cells, .agg a.cells, .agg b.cells] (· = .bool (fitsS o a b)) := by
  have h1 := specTreeOk_pure o ho (by omega)
  have h2 := specTreeOk_pure a ha (by omega)
  have h3 := specTreeOk_pure b hb (by omega)
  have h4 := l6Overs_pure o a ho ha no
  have h5 := l6Overs_pure o b ho hb no
  have h6 := l6Overs_pure a b ha hb na
  have h7 := l6Orders_pure o a ho ha no
  have h8 := l6Orders_pure o b ho hb no
  have h9 := l6Orders_pure a b ha hb na
  have hr : fitsS o a b = (okT o && okT a && okT b && decide (o.id = a.id) && decide (o.id = b.id) && oversGo o a o.ids && oversGo o b o.ids && oversGo a b a.ids && ordersGo o a o.ids && ordersGo o b o.ids && ordersGo a b a.ids) := rfl
  generalize fitsS o a b = r at *
  generalize okT o = r1 at *
  generalize okT a = r2 at *
  generalize okT b = r3 at *
  generalize oversGo o a o.ids = r4 at *
  generalize oversGo o b o.ids = r5 at *
  generalize oversGo a b a.ids = r6 at *
  generalize ordersGo o a o.ids = r7 at *
  generalize ordersGo o b o.ids = r8 at *
  generalize ordersGo a b a.ids = r9 at *
  clear no na nb
  obtain ⟨oi, ok, ox, oks⟩ := o
  obtain ⟨ai, ak, ax, aks⟩ := a
  obtain ⟨bi, bk, bx, bks⟩ := b
  simp only [T.id] at hr
  refine pure_of_box good Try.func5 rfl (by kernel_rfl) (by decide) fun A hA => ?_
  conv => whnf
  refine box_cut hA 1 fun K1 hK1 => ?_
  conv => whnf
  refine hK1 _ [⟨[[.int .i64 oi, .str ok, .str ox, .sl (T.rows oks)]], 4, true, true, true, .cell⟩] ?_
  clear hK1 K1
  refine box_cut hA 1 fun K1 hK1 => ?_
  conv => whnf
  refine hK1 _ [⟨[[.int .i64 oi, .str ok, .str ox, .sl (T.rows oks)]], 4, true, true, true, .cell⟩, ⟨[[.int .i64 ai, .str ak, .str ax, .sl (T.rows aks)]], 4, true, true, true, .cell⟩] ?_
  clear hK1 K1
  refine box_cut hA 1 fun K1 hK1 => ?_
  conv => whnf
  refine hK1 _ [⟨[[.int .i64 oi, .str ok, .str ox, .sl (T.rows oks)]], 4, true, true, true, .cell⟩, ⟨[[.int .i64 ai, .str ak, .str ax, .sl (T.rows aks)]], 4, true, true, true, .cell⟩, ⟨[[.int .i64 bi, .str bk, .str bx, .sl (T.rows bks)]], 4, true, true, true, .cell⟩] ?_
  clear hK1 K1
  refine box_go hA ?_
  conv => whnf
  refine box_cut hA 20 fun K1 hK1 => ?_
  conv => whnf
  refine .inl (h1.mono ?_)
  rintro r rfl
  cases r1
  · conv => whnf
    refine hK1 _ _ ?_
    refine box_with hA [(3, .ptr 0 0 0), (4, .ptr 1 0 0), (5, .ptr 2 0 0), (26, .bool true)] ⟨rfl, rfl, rfl, rfl, trivial⟩ fun fr => ?_
    conv => whnf
    refine box_go hA ?_
    conv => whnf
    rw [hr]; simp
  conv => whnf
  refine .inl (h2.mono ?_)
  rintro r rfl
  cases r2
  · conv => whnf
    refine hK1 _ _ ?_
    refine box_with hA [(3, .ptr 0 0 0), (4, .ptr 1 0 0), (5, .ptr 2 0 0), (26, .bool true)] ⟨rfl, rfl, rfl, rfl, trivial⟩ fun fr => ?_
    conv => whnf
    refine box_go hA ?_
    conv => whnf
    rw [hr]; simp
  conv => whnf
  refine .inl (h3.mono ?_)
  rintro r rfl
  cases r3
  · conv => whnf
    refine hK1 _ _ ?_
    refine box_with hA [(3, .ptr 0 0 0), (4, .ptr 1 0 0), (5, .ptr 2 0 0), (26, .bool true)] ⟨rfl, rfl, rfl, rfl, trivial⟩ fun fr => ?_
    conv => whnf
    refine box_go hA ?_
    conv => whnf
    rw [hr]; simp
  conv => whnf
  by_cases e1 : oi = ai
  · rw [eqB_t e1]
    conv => whnf
    refine hK1 _ _ ?_
    refine box_cutw hA 7 [(3, .ptr 0 0 0), (4, .ptr 1 0 0), (5, .ptr 2 0 0), (26, .bool false)] ⟨rfl, rfl, rfl, rfl, trivial⟩ fun K2 hK2 fr => ?_
    conv => whnf
    by_cases e2 : oi = bi
    · rw [eqB_t e2]
      conv => whnf
      refine hK2 _ _ ?_
      refine box_with hA [(3, .ptr 0 0 0), (4, .ptr 1 0 0), (5, .ptr 2 0 0), (33, .bool false)] ⟨rfl, rfl, rfl, rfl, trivial⟩ fun fr => ?_
      conv => whnf
      refine box_with hA [(3, .ptr 0 0 0), (4, .ptr 1 0 0), (5, .ptr 2 0 0)] ⟨rfl, rfl, rfl, trivial⟩ fun fr => ?_
      conv => whnf
      refine .inl (h4.mono ?_)
      rintro r rfl
      cases r4
      · conv => whnf
        rw [hr]; simp
      conv => whnf
      refine .inl (h5.mono ?_)
      rintro r rfl
      cases r5
      · conv => whnf
        rw [hr]; simp
      conv => whnf
      refine .inl (h6.mono ?_)
      rintro r rfl
      cases r6
      · conv => whnf
        rw [hr]; simp
      conv => whnf
      refine .inl (h7.mono ?_)
      rintro r rfl
      cases r7
      · conv => whnf
        rw [hr]; simp
      conv => whnf
      refine .inl (h8.mono ?_)
      rintro r rfl
      cases r8
      · conv => whnf
        rw [hr]; simp
      conv => whnf
      refine .inl (h9.mono ?_)
      rintro r rfl
      cases r9
      · conv => whnf
        rw [hr]; simp
      conv => whnf
      rw [hr]; simp [e1, ← e2]
    · rw [eqB_f e2]
      conv => whnf
      refine hK2 _ _ ?_
      refine box_with hA [(3, .ptr 0 0 0), (4, .ptr 1 0 0), (5, .ptr 2 0 0), (33, .bool true)] ⟨rfl, rfl, rfl, rfl, trivial⟩ fun fr => ?_
      conv => whnf
      refine box_go hA ?_
      conv => whnf
      rw [hr]; simp [e2]
  · rw [eqB_f e1]
    conv => whnf
    refine hK1 _ _ ?_
    refine box_with hA [(3, .ptr 0 0 0), (4, .ptr 1 0 0), (5, .ptr 2 0 0), (26, .bool true)] ⟨rfl, rfl, rfl, rfl, trivial⟩ fun fr => ?_
    conv => whnf
    refine box_go hA ?_
    conv => whnf
    rw [hr]; simp [e1]
end Go.Cod

namespace Go.Cod
open Go Go.Proofs

/- Two ways to say: in one order. -/
def ix (x : Int) : List Int → Nat
  | [] => 0
  | y :: ys => if x = y then 0 else ix x ys + 1
theorem ordIn_out (x : Int) : ∀ (bs : List Int) (j : Nat) (last : Int), x ∉ bs → ordIn x j last bs = some last
  | [], _, _, _ => rfl
  | y :: ys, j, last, hx => by
    simp only [List.mem_cons, not_or] at hx
    simp only [ordIn]
    rw [if_neg hx.1]
    exact ordIn_out x ys (j + 1) last hx.2
theorem ordIn_no (x : Int) : ∀ (bs : List Int) (j : Nat) (last : Int), x ∈ bs → ((j + ix x bs : Nat) : Int) < last → ordIn x j last bs = none
  | y :: ys, j, last, hx, h => by
    simp only [ix] at h
    simp only [ordIn]
    by_cases e : x = y
    · rw [if_pos e] at h
      rw [if_pos e, if_pos (by omega)]
    · rw [if_neg e] at h
      rw [if_neg e]
      exact ordIn_no x ys (j + 1) last (by simpa [e] using hx) (by omega)
theorem ordIn_in (x : Int) : ∀ (bs : List Int) (j : Nat) (last : Int), bs.Nodup → x ∈ bs → ¬ ((j + ix x bs : Nat) : Int) < last → ordIn x j last bs = some ((j + ix x bs : Nat) : Int)
  | y :: ys, j, last, hn, hx, h => by
    simp only [List.nodup_cons] at hn
    simp only [ix] at h
    by_cases e : x = y
    · rw [if_pos e] at h
      have e0 : ix x (y :: ys) = 0 := if_pos e
      rw [e0]
      simp only [ordIn]
      rw [if_pos e, if_neg (by omega), ordIn_out x ys _ _ (e ▸ hn.1)]
      rfl
    · rw [if_neg e] at h
      have e0 : ix x (y :: ys) = ix x ys + 1 := if_neg e
      rw [e0]
      simp only [ordIn]
      rw [if_neg e, ordIn_in x ys (j + 1) last hn.2 (by simpa [e] using hx) (by omega)]
      congr 1; omega
theorem ordGo_iff (bs : List Int) (hb : bs.Nodup) : ∀ (l : List Int) (last : Int), ordGo bs last l = true ↔ (∀ x ∈ l, x ∈ bs → last ≤ (ix x bs : Nat)) ∧ (l.filter (fun x => decide (x ∈ bs))).Pairwise (fun x y => ix x bs ≤ ix y bs)
  | [], _ => by simp [ordGo]
  | x :: xs, last => by
    simp only [ordGo]
    by_cases hx : x ∈ bs
    · rw [List.filter_cons, if_pos (by simpa using hx), List.pairwise_cons]
      by_cases hl : ((0 + ix x bs : Nat) : Int) < last
      · rw [ordIn_no x bs 0 last hx hl]
        refine ⟨fun h => (by cases h), fun h => ?_⟩
        have := h.1 x (by simp) hx
        omega
      · rw [ordIn_in x bs 0 last hb hx hl]
        simp only
        rw [ordGo_iff bs hb xs]
        constructor
        · rintro ⟨h1, h2⟩
          refine ⟨fun y hy hyb => ?_, fun y hy => ?_, h2⟩
          · rcases List.mem_cons.1 hy with rfl | hy
            · omega
            · have := h1 y hy hyb; omega
          · have hy := List.mem_filter.1 hy
            have := h1 y hy.1 (by simpa using hy.2); omega
        · rintro ⟨h1, h2, h3⟩
          refine ⟨fun y hy hyb => ?_, h3⟩
          have := h2 y (List.mem_filter.2 ⟨hy, by simpa using hyb⟩)
          omega
    · rw [ordIn_out x bs 0 last hx, List.filter_cons, if_neg (by simpa using hx)]
      simp only
      rw [ordGo_iff bs hb xs]
      constructor
      · rintro ⟨h1, h2⟩
        refine ⟨fun y hy hyb => ?_, h2⟩
        rcases List.mem_cons.1 hy with rfl | hy
        · exact absurd hyb hx
        · exact h1 y hy hyb
      · rintro ⟨h1, h2⟩
        exact ⟨fun y hy hyb => h1 y (by simp [hy]) hyb, h2⟩
theorem ix_sorted : ∀ (bs : List Int), bs.Nodup → bs.Pairwise (fun x y => ix x bs ≤ ix y bs)
  | [], _ => .nil
  | b :: bs, hn => by
    simp only [List.nodup_cons] at hn
    rw [List.pairwise_cons]
    refine ⟨fun y _ => by simp [ix], ?_⟩
    refine (ix_sorted bs hn.2).imp_of_mem ?_
    intro x y hx hy h
    have e1 : x ≠ b := fun e => hn.1 (e ▸ hx)
    have e2 : y ≠ b := fun e => hn.1 (e ▸ hy)
    simp only [ix, e1, e2, if_false]
    omega
theorem ix_inj : ∀ (bs : List Int) (x y : Int), x ∈ bs → y ∈ bs → ix x bs = ix y bs → x = y
  | b :: bs, x, y, hx, hy, h => by
    simp only [ix] at h
    by_cases e1 : x = b
    · by_cases e2 : y = b
      · rw [e1, e2]
      · rw [if_pos e1, if_neg e2] at h; omega
    · by_cases e2 : y = b
      · rw [if_neg e1, if_pos e2] at h; omega
      · rw [if_neg e1, if_neg e2] at h
        simp only [List.mem_cons, e1, e2, false_or] at hx hy
        exact ix_inj bs x y hx hy (by omega)
theorem eq_sorted (f : Int → Nat) : ∀ (l1 l2 : List Int), l1.Nodup → l2.Nodup → (∀ x, x ∈ l1 ↔ x ∈ l2) → l1.Pairwise (fun x y => f x ≤ f y) → l2.Pairwise (fun x y => f x ≤ f y) → (∀ x ∈ l1, ∀ y ∈ l1, f x = f y → x = y) → l1 = l2
  | [], l2, _, _, hm, _, _, _ => by
    cases l2 with
    | nil => rfl
    | cons b l2 => have := (hm b).2 (by simp); cases this
  | a :: l1, [], _, _, hm, _, _, _ => by have := (hm a).1 (by simp); cases this
  | a :: l1, b :: l2, n1, n2, hm, p1, p2, hi => by
    simp only [List.nodup_cons, List.pairwise_cons] at n1 n2 p1 p2
    have hab : a = b := by
      have h1 := (hm a).1 (by simp)
      have h2 := (hm b).2 (by simp)
      rcases List.mem_cons.1 h1 with h | h1'
      · exact h
      rcases List.mem_cons.1 h2 with h | h2'
      · exact h.symm
      exact hi a (by simp) b h2 (by have := p1.1 b h2'; have := p2.1 a h1'; omega)
    subst hab
    congr 1
    refine eq_sorted f l1 l2 n1.2 n2.2 (fun x => ?_) p1.2 p2.2 fun x hx y hy => hi x (by simp [hx]) y (by simp [hy])
    have := hm x
    simp only [List.mem_cons] at this
    constructor
    · intro hx
      rcases this.1 (.inr hx) with h | h
      · exact absurd (h ▸ hx) n1.1
      · exact h
    · intro hx
      rcases this.2 (.inr hx) with h | h
      · exact absurd (h ▸ hx) n2.1
      · exact h
theorem sameOrd_eq (a b : T) (ha : a.kidIds.Nodup) (hb : b.kidIds.Nodup) : sameOrd a b = ordGo b.kidIds (-1) a.kidIds := by
  have h := ordGo_iff b.kidIds hb a.kidIds (-1)
  have hA : sharedT a b = a.kidIds.filter (fun x => decide (x ∈ b.kidIds)) := rfl
  have hB : sharedT b a = b.kidIds.filter (fun x => decide (x ∈ a.kidIds)) := rfl
  rw [← hA] at h
  unfold sameOrd
  rw [Bool.eq_iff_iff, h, decide_eq_true_eq]
  have sB : (sharedT b a).Pairwise (fun x y => ix x b.kidIds ≤ ix y b.kidIds) := by
    rw [hB]; exact (ix_sorted _ hb).sublist List.filter_sublist
  constructor
  · intro e
    refine ⟨fun x _ _ => by omega, ?_⟩
    rw [e]; exact sB
  · rintro ⟨_, hp⟩
    refine eq_sorted (fun x => ix x b.kidIds) _ _ (ha.sublist List.filter_sublist) (hb.sublist List.filter_sublist) (fun x => ?_) hp sB ?_
    · rw [hA, hB, List.mem_filter, List.mem_filter]
      simp [and_comm]
    · intro x hx y hy hxy
      rw [hA, List.mem_filter] at hx hy
      exact ix_inj _ x y (by simpa using hx.2) (by simpa using hy.2) hxy
end Go.Cod

namespace Go.Cod
open Go Go.Proofs

theorem find_self : ∀ (l : List Sp) (s : Sp), (l.map idS).Nodup → s ∈ l → l.find? (isId (idS s)) = some s
  | a :: l, s, hn, hs => by
    simp only [List.map_cons, List.nodup_cons] at hn
    rw [List.find?_cons]
    by_cases e : idS a = idS s
    · have : isId (idS s) a = true := by simp [isId, e]
      rw [this]
      rcases List.mem_cons.1 hs with rfl | hs
      · rfl
      · exact absurd (e ▸ List.mem_map.2 ⟨s, hs, rfl⟩) hn.1
    · have : isId (idS s) a = false := by simp [isId, e]
      rw [this]
      rcases List.mem_cons.1 hs with rfl | hs
      · exact absurd rfl e
      · exact find_self l s hn.2 hs
theorem overs_all (a b : T) : ∀ l : List Int, oversGo a b l = l.all fun x => !(decide (0 ≤ overT b x 0 ∧ overT b x 0 ≠ overT a x 0))
  | [] => rfl
  | x :: xs => by
    simp only [oversGo, List.all_cons, overs_all a b xs]
    by_cases h : 0 ≤ overT b x 0 ∧ overT b x 0 ≠ overT a x 0
    · rw [if_pos h]; simp [h]
    · rw [if_neg h, decide_eq_false h]; simp
theorem orders_all (a b : T) : ∀ l : List Int, ordersGo a b l = l.all fun x => orders1 (fT a x) (fT b x)
  | [] => rfl
  | x :: xs => by
    simp only [ordersGo, List.all_cons, orders_all a b xs]
    cases orders1 (fT a x) (fT b x) <;> simp
theorem all_congr {α : Type} {l : List α} {p q : α → Bool} (h : ∀ x ∈ l, p x = q x) : l.all p = l.all q := by
  induction l with
  | nil => rfl
  | cons a l ih => rw [List.all_cons, List.all_cons, h a (by simp), ih fun x hx => h x (by simp [hx])]
theorem all_and {α : Type} (l : List α) (p q : α → Bool) : (l.all fun x => p x && q x) = (l.all p && l.all q) := by
  induction l with
  | nil => rfl
  | cons a l ih => simp only [List.all_cons, ih]; cases p a <;> cases q a <;> simp
theorem found_kids {t : T} (h : okT t = true) {x : Int} {s : T} (hs : fT t x = some s) : s.kidIds.Nodup := by
  have : findT t x = some s := by rw [findT, if_pos h]; exact hs
  exact okT_kids (findT_spec this).2.2.2.1
theorem pairFits_eq (a b : T) (ha : okT a = true) (hb : okT b = true) : pairFits a b = (oversGo a b a.ids && ordersGo a b a.ids) := by
  rw [overs_all, orders_all, ← all_and, ← spT_ids a 0 1, List.all_map]
  unfold pairFits
  refine all_congr fun s hs => ?_
  have hn : ((spT a 0 1).map idS).Nodup := by rw [spT_ids]; exact ((okT_iff' a).1 ha).2.1
  have hf := find_self _ s hn hs
  have o1 := overT_eq a (idS s) 0 1 (by omega) (okT_ids ha)
  have f1 := fT_sp a (idS s) 0 1
  have o2 := overT_eq b (idS s) 0 1 (by omega) (okT_ids hb)
  have f2 := fT_sp b (idS s) 0 1
  rw [hf] at o1 f1
  have hso : spotOf b (idS s) = (spT b 0 1).find? (isId (idS s)) := by rw [spotOf, if_pos hb]
  show pairOk b s = _
  unfold pairOk
  show _ = (!(decide (0 ≤ overT b (idS s) 0 ∧ overT b (idS s) 0 ≠ overT a (idS s) 0)) && orders1 (fT a (idS s)) (fT b (idS s)))
  rw [hso]
  have k1 := found_kids ha f1
  cases e : (spT b 0 1).find? (isId (idS s)) with
  | none =>
    rw [e] at o2 f2
    have h0 : ¬ 0 ≤ overT b (idS s) 0 := fun h => by have := o2.2.1 h; simp at this
    rw [f2, decide_eq_false (fun h => h0 h.1), f1]
    rfl
  | some o =>
    rw [e] at o2 f2
    have k2 := found_kids hb f2
    have h0 : 0 ≤ overT b (idS s) 0 := o2.2.2 rfl
    have v1 : overT a (idS s) 0 = s.2.1 := o1.1
    have v2 : overT b (idS s) 0 = o.2.1 := o2.1
    rw [f1, f2, v1, v2]
    rw [v2] at h0
    simp only
    rw [sameOrd_eq s.1 o.1 k1 k2]
    show _ = (_ && ordGo o.1.kidIds (-1) s.1.kidIds)
    congr 1
    by_cases h : s.2.1 = o.2.1
    · simp [h]
    · have : 0 ≤ o.2.1 ∧ o.2.1 ≠ s.2.1 := ⟨h0, fun e => h e.symm⟩
      rw [decide_eq_true this, decide_eq_false h]; rfl
theorem fits_eq (o a b : T) : fitsI o a b = fitsS o a b := by
  unfold fitsI fitsS
  cases ho : okT o
  · simp
  cases ha : okT a
  · simp
  cases hb : okT b
  · simp
  rw [pairFits_eq o a ho ha, pairFits_eq o b ho hb, pairFits_eq a b ha hb]
  generalize oversGo o a o.ids = r4
  generalize oversGo o b o.ids = r5
  generalize oversGo a b a.ids = r6
  generalize ordersGo o a o.ids = r7
  generalize ordersGo o b o.ids = r8
  generalize ordersGo a b a.ids = r9
  generalize decide (o.id = a.id) = d1
  generalize decide (o.id = b.id) = d2
  cases d1 <;> cases d2 <;> cases r4 <;> cases r5 <;> cases r6 <;> cases r7 <;> cases r8 <;> cases r9 <;> rfl
end Go.Cod

namespace Go.Cod
open Go Go.Proofs Go.ChangeShapes Go.WideShapes Go.ChangeAt Go.RowKit
set_option maxRecDepth 10000

set_option maxHeartbeats 8000000 in
theorem lawFnExactMergeFits (o : T) (ho : o.Ok) (a : T) (ha : a.Ok) (b : T) (hb : b.Ok) : Pure Try.prog 3 [.agg o.cells, .agg a.cells, .agg b.cells] (· = .bool true) := by
  have z1 := szT_pure o ho 1048576 (by omega) (by omega)
  have m1 := small_of_sz o ho 1048576 (by omega)
  have l1 := szT_le o 1048576 (by omega)
  have i1 := ids_sz o 1048576
  have z2 := szT_pure a ha (szT o 1048576)
  have m2 := small_of_sz a ha (szT o 1048576) (by omega)
  have l2 := szT_le a (szT o 1048576)
  have i2 := ids_sz a (szT o 1048576)
  have z3 := szT_pure b hb (szT a (szT o 1048576))
  have m3 := small_of_sz b hb (szT a (szT o 1048576))
  have i3 := ids_sz b (szT a (szT o 1048576))
  have t1 := toTree_pure o
  have t2 := toTree_pure a
  have t3 := toTree_pure b
  have e1 := eqTree_pure o
  have e2 := eqTree_pure a
  have e3 := eqTree_pure b
  have s1 := specMergeFits_pure o a b
  have f1 := implMergeFits_pure o a b
  rw [fits_eq] at f1
  generalize fitsS o a b = r at *
  generalize szT b (szT a (szT o 1048576)) = n3 at *
  generalize szT a (szT o 1048576) = n2 at *
  generalize szT o 1048576 = n1 at *
  have heq : ∀ b : Bool, (!(b == b)) = false := by decide
  obtain ⟨oi, ok, ox, os⟩ := o
  obtain ⟨ai, ak, ax, as1⟩ := a
  obtain ⟨bi, bk, bx, bs⟩ := b
  refine pure_of_box good Try.func3 rfl (by kernel_rfl) (by decide) fun A hA => ?_
  conv => whnf
  refine box_cut hA 1 fun K1 hK1 => ?_
  conv => whnf
  refine hK1 _ [⟨[[.int .i64 oi, .str ok, .str ox, .sl (T.rows os)]], 4, true, true, true, .cell⟩] ?_
  clear hK1 K1
  refine box_cut hA 1 fun K1 hK1 => ?_
  conv => whnf
  refine hK1 _ [⟨[[.int .i64 oi, .str ok, .str ox, .sl (T.rows os)]], 4, true, true, true, .cell⟩, ⟨[[.int .i64 ai, .str ak, .str ax, .sl (T.rows as1)]], 4, true, true, true, .cell⟩] ?_
  clear hK1 K1
  refine box_cut hA 1 fun K1 hK1 => ?_
  conv => whnf
  refine hK1 _ [⟨[[.int .i64 oi, .str ok, .str ox, .sl (T.rows os)]], 4, true, true, true, .cell⟩, ⟨[[.int .i64 ai, .str ak, .str ax, .sl (T.rows as1)]], 4, true, true, true, .cell⟩, ⟨[[.int .i64 bi, .str bk, .str bx, .sl (T.rows bs)]], 4, true, true, true, .cell⟩] ?_
  clear hK1 K1
  refine box_with hA [(3, .ptr 0 0 0), (4, .ptr 1 0 0), (5, .ptr 2 0 0)] ⟨rfl, rfl, rfl, trivial⟩ fun fr => ?_
  conv => whnf
--Q0
  refine box_cutw hA 1 [(3, .ptr 0 0 0), (4, .ptr 1 0 0), (5, .ptr 2 0 0)] ⟨rfl, rfl, rfl, trivial⟩ fun K1 hK1 fr => ?_
  conv => whnf
  refine hK1 _ [⟨[[.int .i64 oi, .str ok, .str ox, .sl (T.rows os)]], 4, true, true, true, .cell⟩, ⟨[[.int .i64 ai, .str ak, .str ax, .sl (T.rows as1)]], 4, true, true, true, .cell⟩, ⟨[[.int .i64 bi, .str bk, .str bx, .sl (T.rows bs)]], 4, true, true, true, .cell⟩] ?_
  clear hK1 K1
  refine box_with hA [(3, .ptr 0 0 0), (4, .ptr 1 0 0), (5, .ptr 2 0 0), (7, .int .i64 1048576)] ⟨rfl, rfl, rfl, rfl, trivial⟩ fun fr => ?_
  conv => whnf
--Q1
  refine box_cutw hA 4 [(3, .ptr 0 0 0), (4, .ptr 1 0 0), (5, .ptr 2 0 0), (7, .int .i64 1048576)] ⟨rfl, rfl, rfl, rfl, trivial⟩ fun K1 hK1 fr => ?_
  conv => whnf
  refine .inl ((z1).mono ?_)
  rintro r rfl
  conv => whnf
  refine hK1 _ [⟨[[.int .i64 oi, .str ok, .str ox, .sl (T.rows os)]], 4, true, true, true, .cell⟩, ⟨[[.int .i64 ai, .str ak, .str ax, .sl (T.rows as1)]], 4, true, true, true, .cell⟩, ⟨[[.int .i64 bi, .str bk, .str bx, .sl (T.rows bs)]], 4, true, true, true, .cell⟩] ?_
  clear hK1 K1
  refine box_with hA [(3, .ptr 0 0 0), (4, .ptr 1 0 0), (5, .ptr 2 0 0), (7, .int .i64 n1)] ⟨rfl, rfl, rfl, rfl, trivial⟩ fun fr => ?_
  conv => whnf
  refine box_cutw hA 2 [(3, .ptr 0 0 0), (4, .ptr 1 0 0), (5, .ptr 2 0 0), (7, .int .i64 n1)] ⟨rfl, rfl, rfl, rfl, trivial⟩ fun K1 hK1 fr => ?_
  conv => whnf
  refine hK1 _ [⟨[[.int .i64 oi, .str ok, .str ox, .sl (T.rows os)]], 4, true, true, true, .cell⟩, ⟨[[.int .i64 ai, .str ak, .str ax, .sl (T.rows as1)]], 4, true, true, true, .cell⟩, ⟨[[.int .i64 bi, .str bk, .str bx, .sl (T.rows bs)]], 4, true, true, true, .cell⟩] ?_
  clear hK1 K1
  refine box_with hA [(3, .ptr 0 0 0), (4, .ptr 1 0 0), (5, .ptr 2 0 0), (7, .int .i64 n1), (17, .bool (ltB n1 0))] ⟨rfl, rfl, rfl, rfl, rfl, trivial⟩ fun fr => ?_
  conv => whnf
  by_cases c1 : n1 < 0
  · rw [ltB_t c1]
    conv => whnf
    refine box_go hA ?_
    conv => whnf
  rw [ltB_f (by omega)]
  have S1 := m1 (by omega)
  have l2 := l2 (by omega)
  conv => whnf
--Q2
  refine box_cutw hA 4 [(3, .ptr 0 0 0), (4, .ptr 1 0 0), (5, .ptr 2 0 0), (7, .int .i64 n1)] ⟨rfl, rfl, rfl, rfl, trivial⟩ fun K1 hK1 fr => ?_
  conv => whnf
  refine .inl (((z2 (by omega) (by omega))).mono ?_)
  rintro r rfl
  conv => whnf
  refine hK1 _ [⟨[[.int .i64 oi, .str ok, .str ox, .sl (T.rows os)]], 4, true, true, true, .cell⟩, ⟨[[.int .i64 ai, .str ak, .str ax, .sl (T.rows as1)]], 4, true, true, true, .cell⟩, ⟨[[.int .i64 bi, .str bk, .str bx, .sl (T.rows bs)]], 4, true, true, true, .cell⟩] ?_
  clear hK1 K1
  refine box_with hA [(3, .ptr 0 0 0), (4, .ptr 1 0 0), (5, .ptr 2 0 0), (7, .int .i64 n2)] ⟨rfl, rfl, rfl, rfl, trivial⟩ fun fr => ?_
  conv => whnf
  refine box_cutw hA 2 [(3, .ptr 0 0 0), (4, .ptr 1 0 0), (5, .ptr 2 0 0), (7, .int .i64 n2)] ⟨rfl, rfl, rfl, rfl, trivial⟩ fun K1 hK1 fr => ?_
  conv => whnf
  refine hK1 _ [⟨[[.int .i64 oi, .str ok, .str ox, .sl (T.rows os)]], 4, true, true, true, .cell⟩, ⟨[[.int .i64 ai, .str ak, .str ax, .sl (T.rows as1)]], 4, true, true, true, .cell⟩, ⟨[[.int .i64 bi, .str bk, .str bx, .sl (T.rows bs)]], 4, true, true, true, .cell⟩] ?_
  clear hK1 K1
  refine box_with hA [(3, .ptr 0 0 0), (4, .ptr 1 0 0), (5, .ptr 2 0 0), (7, .int .i64 n2), (22, .bool (ltB n2 0))] ⟨rfl, rfl, rfl, rfl, rfl, trivial⟩ fun fr => ?_
  conv => whnf
  by_cases c2 : n2 < 0
  · rw [ltB_t c2]
    conv => whnf
    refine box_go hA ?_
    conv => whnf
  rw [ltB_f (by omega)]
  have S2 := m2 (by omega)
  conv => whnf
--Q3
  refine box_cutw hA 4 [(3, .ptr 0 0 0), (4, .ptr 1 0 0), (5, .ptr 2 0 0), (7, .int .i64 n2)] ⟨rfl, rfl, rfl, rfl, trivial⟩ fun K1 hK1 fr => ?_
  conv => whnf
  refine .inl (((z3 (by omega) (by omega))).mono ?_)
  rintro r rfl
  conv => whnf
  refine hK1 _ [⟨[[.int .i64 oi, .str ok, .str ox, .sl (T.rows os)]], 4, true, true, true, .cell⟩, ⟨[[.int .i64 ai, .str ak, .str ax, .sl (T.rows as1)]], 4, true, true, true, .cell⟩, ⟨[[.int .i64 bi, .str bk, .str bx, .sl (T.rows bs)]], 4, true, true, true, .cell⟩] ?_
  clear hK1 K1
  refine box_with hA [(3, .ptr 0 0 0), (4, .ptr 1 0 0), (5, .ptr 2 0 0), (7, .int .i64 n3)] ⟨rfl, rfl, rfl, rfl, trivial⟩ fun fr => ?_
  conv => whnf
  refine box_cutw hA 2 [(3, .ptr 0 0 0), (4, .ptr 1 0 0), (5, .ptr 2 0 0), (7, .int .i64 n3)] ⟨rfl, rfl, rfl, rfl, trivial⟩ fun K1 hK1 fr => ?_
  conv => whnf
  refine hK1 _ [⟨[[.int .i64 oi, .str ok, .str ox, .sl (T.rows os)]], 4, true, true, true, .cell⟩, ⟨[[.int .i64 ai, .str ak, .str ax, .sl (T.rows as1)]], 4, true, true, true, .cell⟩, ⟨[[.int .i64 bi, .str bk, .str bx, .sl (T.rows bs)]], 4, true, true, true, .cell⟩] ?_
  clear hK1 K1
  refine box_with hA [(3, .ptr 0 0 0), (4, .ptr 1 0 0), (5, .ptr 2 0 0), (7, .int .i64 n3), (27, .bool (ltB n3 0))] ⟨rfl, rfl, rfl, rfl, rfl, trivial⟩ fun fr => ?_
  conv => whnf
  by_cases c3 : n3 < 0
  · rw [ltB_t c3]
    conv => whnf
    refine box_go hA ?_
    conv => whnf
  rw [ltB_f (by omega)]
  have S3 := m3 (by omega) (by omega)
  have t1 := t1 S1
  have t2 := t2 S2
  have t3 := t3 S3
  have e1 := e1 S1
  have e2 := e2 S2
  have e3 := e3 S3
  have s1 := s1 S1 S2 S3 (by have := i1 (by omega); omega) (by have := i2 (by omega); omega) (by have := i3 (by omega); omega)
  have f1 := f1 S1 S2 S3
  conv => whnf
--Q4
  repeat' (first
    | (refine ⟨_, .inl t1, ?_⟩
       conv => whnf)
    | (refine ⟨_, .inl t2, ?_⟩
       conv => whnf)
    | (refine ⟨_, .inl t3, ?_⟩
       conv => whnf)
    | (refine ⟨_, .inl s1, ?_⟩
       conv => whnf))
--Q5
  refine box_cutw hA 4 [(3, .ptr 0 0 0), (4, .ptr 1 0 0), (5, .ptr 2 0 0), (8, .bool r)] ⟨rfl, rfl, rfl, rfl, trivial⟩ fun K1 hK1 fr => ?_
  conv => whnf
  refine .inl (t1.mono ?_)
  rintro q rfl
  conv => whnf
  refine hK1 _ [⟨[[.int .i64 oi, .str ok, .str ox, .sl (T.rows os)]], 4, true, true, true, .cell⟩, ⟨[[.int .i64 ai, .str ak, .str ax, .sl (T.rows as1)]], 4, true, true, true, .cell⟩, ⟨[[.int .i64 bi, .str bk, .str bx, .sl (T.rows bs)]], 4, true, true, true, .cell⟩, ⟨[[.int .i64 oi, .str ok, .str ox, .sl (T.rows os)]], 4, true, true, true, .cell⟩] ?_
  clear hK1 K1
  refine box_with hA [(3, .ptr 0 0 0), (4, .ptr 1 0 0), (5, .ptr 2 0 0), (8, .bool r), (9, .ptr 3 0 0)] ⟨rfl, rfl, rfl, rfl, rfl, trivial⟩ fun fr => ?_
  conv => whnf
  refine box_cutw hA 4 [(3, .ptr 0 0 0), (4, .ptr 1 0 0), (5, .ptr 2 0 0), (8, .bool r), (9, .ptr 3 0 0)] ⟨rfl, rfl, rfl, rfl, rfl, trivial⟩ fun K1 hK1 fr => ?_
  conv => whnf
  refine .inl (t2.mono ?_)
  rintro q rfl
  conv => whnf
  refine hK1 _ [⟨[[.int .i64 oi, .str ok, .str ox, .sl (T.rows os)]], 4, true, true, true, .cell⟩, ⟨[[.int .i64 ai, .str ak, .str ax, .sl (T.rows as1)]], 4, true, true, true, .cell⟩, ⟨[[.int .i64 bi, .str bk, .str bx, .sl (T.rows bs)]], 4, true, true, true, .cell⟩, ⟨[[.int .i64 oi, .str ok, .str ox, .sl (T.rows os)]], 4, true, true, true, .cell⟩, ⟨[[.int .i64 ai, .str ak, .str ax, .sl (T.rows as1)]], 4, true, true, true, .cell⟩] ?_
  clear hK1 K1
  refine box_with hA [(3, .ptr 0 0 0), (4, .ptr 1 0 0), (5, .ptr 2 0 0), (8, .bool r), (9, .ptr 3 0 0), (10, .ptr 4 0 0)] ⟨rfl, rfl, rfl, rfl, rfl, rfl, trivial⟩ fun fr => ?_
  conv => whnf
  refine box_cutw hA 4 [(3, .ptr 0 0 0), (4, .ptr 1 0 0), (5, .ptr 2 0 0), (8, .bool r), (9, .ptr 3 0 0), (10, .ptr 4 0 0)] ⟨rfl, rfl, rfl, rfl, rfl, rfl, trivial⟩ fun K1 hK1 fr => ?_
  conv => whnf
  refine .inl (t3.mono ?_)
  rintro q rfl
  conv => whnf
  refine hK1 _ [⟨[[.int .i64 oi, .str ok, .str ox, .sl (T.rows os)]], 4, true, true, true, .cell⟩, ⟨[[.int .i64 ai, .str ak, .str ax, .sl (T.rows as1)]], 4, true, true, true, .cell⟩, ⟨[[.int .i64 bi, .str bk, .str bx, .sl (T.rows bs)]], 4, true, true, true, .cell⟩, ⟨[[.int .i64 oi, .str ok, .str ox, .sl (T.rows os)]], 4, true, true, true, .cell⟩, ⟨[[.int .i64 ai, .str ak, .str ax, .sl (T.rows as1)]], 4, true, true, true, .cell⟩, ⟨[[.int .i64 bi, .str bk, .str bx, .sl (T.rows bs)]], 4, true, true, true, .cell⟩] ?_
  clear hK1 K1
  refine box_with hA [(3, .ptr 0 0 0), (4, .ptr 1 0 0), (5, .ptr 2 0 0), (8, .bool r), (9, .ptr 3 0 0), (10, .ptr 4 0 0), (11, .ptr 5 0 0)] ⟨rfl, rfl, rfl, rfl, rfl, rfl, rfl, trivial⟩ fun fr => ?_
  conv => whnf
--Q6
  refine box_cutw hA 5 [(3, .ptr 0 0 0), (4, .ptr 1 0 0), (5, .ptr 2 0 0), (8, .bool r), (9, .ptr 3 0 0), (10, .ptr 4 0 0), (11, .ptr 5 0 0)] ⟨rfl, rfl, rfl, rfl, rfl, rfl, rfl, trivial⟩ fun K1 hK1 fr => ?_
  conv => whnf
  refine .inl (f1.mono ?_)
  rintro q rfl
  conv => whnf
  refine hK1 _ [⟨[[.int .i64 oi, .str ok, .str ox, .sl (T.rows os)]], 4, true, true, true, .cell⟩, ⟨[[.int .i64 ai, .str ak, .str ax, .sl (T.rows as1)]], 4, true, true, true, .cell⟩, ⟨[[.int .i64 bi, .str bk, .str bx, .sl (T.rows bs)]], 4, true, true, true, .cell⟩, ⟨[[.int .i64 oi, .str ok, .str ox, .sl (T.rows os)]], 4, true, true, true, .cell⟩, ⟨[[.int .i64 ai, .str ak, .str ax, .sl (T.rows as1)]], 4, true, true, true, .cell⟩, ⟨[[.int .i64 bi, .str bk, .str bx, .sl (T.rows bs)]], 4, true, true, true, .cell⟩] ?_
  clear hK1 K1
  refine box_with hA [(3, .ptr 0 0 0), (4, .ptr 1 0 0), (5, .ptr 2 0 0), (8, .bool r), (9, .ptr 3 0 0), (10, .ptr 4 0 0), (11, .ptr 5 0 0), (12, .bool r)] ⟨rfl, rfl, rfl, rfl, rfl, rfl, rfl, rfl, trivial⟩ fun fr => ?_
  conv => whnf
  refine box_cutw hA 3 [(3, .ptr 0 0 0), (4, .ptr 1 0 0), (5, .ptr 2 0 0), (8, .bool r), (9, .ptr 3 0 0), (10, .ptr 4 0 0), (11, .ptr 5 0 0), (12, .bool r)] ⟨rfl, rfl, rfl, rfl, rfl, rfl, rfl, rfl, trivial⟩ fun K1 hK1 fr => ?_
  conv => whnf
  refine hK1 _ [⟨[[.int .i64 oi, .str ok, .str ox, .sl (T.rows os)]], 4, true, true, true, .cell⟩, ⟨[[.int .i64 ai, .str ak, .str ax, .sl (T.rows as1)]], 4, true, true, true, .cell⟩, ⟨[[.int .i64 bi, .str bk, .str bx, .sl (T.rows bs)]], 4, true, true, true, .cell⟩, ⟨[[.int .i64 oi, .str ok, .str ox, .sl (T.rows os)]], 4, true, true, true, .cell⟩, ⟨[[.int .i64 ai, .str ak, .str ax, .sl (T.rows as1)]], 4, true, true, true, .cell⟩, ⟨[[.int .i64 bi, .str bk, .str bx, .sl (T.rows bs)]], 4, true, true, true, .cell⟩] ?_
  clear hK1 K1
  cases r
  all_goals
    refine box_with hA [(3, .ptr 0 0 0), (4, .ptr 1 0 0), (5, .ptr 2 0 0), (9, .ptr 3 0 0), (10, .ptr 4 0 0), (11, .ptr 5 0 0), (47, .bool false)] ⟨rfl, rfl, rfl, rfl, rfl, rfl, rfl, trivial⟩ fun fr => ?_
    conv => whnf
    repeat' (first
      | (refine ⟨_, .inl t1, ?_⟩
         conv => whnf)
      | (refine ⟨_, .inl e1, ?_⟩
         conv => whnf))
    repeat' (first
      | (refine ⟨_, .inl t2, ?_⟩
         conv => whnf)
      | (refine ⟨_, .inl e2, ?_⟩
         conv => whnf))
    repeat' (first
      | (refine ⟨_, .inl t3, ?_⟩
         conv => whnf)
      | (refine ⟨_, .inl e3, ?_⟩
         conv => whnf))
    refine box_go hA ?_
    conv => whnf
--Q7
theorem ownK : ownKnob Try.prog.godebug = none := by kernel_rfl
theorem argTree {H : Type} {enc : TypeId × Value → H} {W : World} : ReadsA enc Try.prog W 24 fun x => ∃ vs, x = .agg vs ∧ ∃ t : T, vs = t.cells ∧ t.Ok := readsA_agg Try.underlying24 fun n => reads_tree n
theorem conFnExactMergeFits (H : Type) (enc : TypeId × Value → H) (W : World) (base : Nat) (args : Array Value) (ds gs : List (DataW H)) (before : List MemPlace)
    (hval : ∀ (j : Nat) t v, Try.f3.params[j]? = some t → args[j]? = some v → Value.okWide Try.prog W .any base t v)
    (hW : DataW.Whole enc Try.prog Try.f3.params.toList Ythagblpknhpcoaa.Rows.fnExactMergeFitsSpec.vars false W args.toList ds gs before) {fresh handsOn again : Bool} :
    Calls Try.prog 3 args W fun e W' => ∃ v, e = .returned v ∧ Ythagblpknhpcoaa.Rows.fnExactMergeFitsSpec.post enc Try.prog Try.f3 false fresh handsOn again W args v W' := by
  refine law_calls kids full (tb := 4) rfl Try.underlying4 (by decide +kernel) rfl hW (fun ds h => by match ds, h with | [_, _, _], _ => exact ⟨rfl, rfl, rfl⟩) hval
    (Ss := [fun x => ∃ vs, x = .agg vs ∧ ∃ t : T, vs = t.cells ∧ t.Ok, fun x => ∃ vs, x = .agg vs ∧ ∃ t : T, vs = t.cells ∧ t.Ok, fun x => ∃ vs, x = .agg vs ∧ ∃ t : T, vs = t.cells ∧ t.Ok]) laid0 ?_ ?_
  · rw [Try.params3]
    exact ⟨argTree, argTree, argTree, trivial⟩
  · intro xs h
    obtain ⟨_, _, _, rfl, ⟨_, rfl, t0, rfl, h0⟩, ⟨_, rfl, t1, rfl, h1⟩, ⟨_, rfl, t2, rfl, h2⟩⟩ := hold3 h
    exact lawFnExactMergeFits t0 h0 t1 h1 t2 h2

set_option maxRecDepth 100000 in
theorem overFnExactMergeFits : Ythagblpknhpcoaa.Rows.FnExactMergeFitsSaid :=
  OpenClaim.holds_of_wide 3 Try.f3 rfl rfl rfl rfl rfl rfl rfl ⟨rfl, rfl, rfl, rfl, rfl⟩ rfl rfl rfl rfl rfl (by kernel_rfl) Try.func3 (by kernel_rfl)
    (of_decide_eq_true (by kernel_rfl)) (by unfold Func.isWrapper; first | (rw [if_pos (by decide +kernel)]; kernel_rfl) | (rw [if_neg (by decide +kernel)]; exact ⟨rfl, rfl⟩))
    (fun os started H enc _ => returnsInHanded_of_change ownK started (by kernel_rfl) Try.func3
      (ChangeSpec.witness6 (enc := enc) (C := Try.checked) false ⟨#[], #[.agg #[.int .i64 0, .string "".toByteArray, .string "".toByteArray, .slice none 0 0], .agg #[.int .i64 0, .string "".toByteArray, .string "".toByteArray, .slice none 0 0], .agg #[.int .i64 0, .string "".toByteArray, .string "".toByteArray, .slice none 0 0]], []⟩ 8 (by kernel_rfl) (by kernel_rfl) (by kernel_rfl) (by kernel_rfl))
      (fun W base args ds gs before hval hW _ _ => conFnExactMergeFits H enc W base args ds gs before hval hW))
end Go.Cod

