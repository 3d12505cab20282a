/- Contracts of this seat's functions. -/
import Derived.Test.YticbjpcfpfnccabChecked
import Derived.Test.YticbjpcfpfnccabRows
import Derived.WalkKit
import Derived.ProofKit
import Derived.OpenShut
import Derived.JoinedOf
import Derived.Handed
import Derived.Test.YticbjpcfpfnccabCodB
namespace Go.Cod
open Go Go.Proofs

def tauL : List (Nat × TI) := [
  (1, ⟨.other, 1, 8, .raw .nilFunc, [], []⟩),
  (2, ⟨.int .i64, 1, 8, .int .i64 0, [], []⟩),
  (3, ⟨.int .i64, 1, 8, .int .i64 0, [], []⟩),
  (4, ⟨.bool, 1, 1, .bool false, [], []⟩),
  (5, ⟨.int .u8, 1, 1, .int .u8 0, [], []⟩),
  (6, ⟨.int .u8, 1, 1, .int .u8 0, [], []⟩),
  (7, ⟨.agg, 4, 24, .agg [.int .i64 0, .int .i64 0, .bool false, .int .u8 0], [(0, 1, false), (1, 1, false), (2, 1, false), (3, 1, false)], []⟩),
  (8, ⟨.agg, 4, 24, .agg [.int .i64 0, .int .i64 0, .bool false, .int .u8 0], [(0, 1, false), (1, 1, false), (2, 1, false), (3, 1, false)], []⟩),
  (9, ⟨.str, 1, 16, .str [], [], []⟩),
  (10, ⟨.str, 1, 16, .str [], [], []⟩),
  (11, ⟨.str, 1, 16, .str [], [], []⟩),
  (12, ⟨.int .u64, 1, 8, .int .u64 0, [], []⟩),
  (13, ⟨.agg, 2, 24, .agg [.str [], .int .u64 0], [(0, 1, false), (1, 1, false)], []⟩),
  (14, ⟨.agg, 2, 24, .agg [.str [], .int .u64 0], [(0, 1, false), (1, 1, false)], []⟩),
  (15, ⟨.ptr, 1, 8, .raw (.pointer none), [], []⟩),
  (16, ⟨.ptr, 1, 8, .raw (.pointer none), [], []⟩),
  (17, ⟨.ptr, 1, 8, .raw (.pointer none), [], []⟩),
  (18, ⟨.agg, 1, 8, .agg [.raw (.pointer none)], [(0, 1, false)], []⟩),
  (19, ⟨.agg, 1, 8, .agg [.raw (.pointer none)], [(0, 1, false)], []⟩),
  (20, ⟨.iface, 1, 16, .raw .nilIface, [], []⟩),
  (21, ⟨.int .i32, 1, 4, .int .i32 0, [], []⟩),
  (22, ⟨.slice 24, 1, 24, .nils, [], []⟩),
  (23, ⟨.agg, 4, 64, .agg [.int .i64 0, .str [], .str [], .nils], [(0, 1, false), (1, 1, false), (2, 1, false), (3, 1, false)], []⟩),
  (24, ⟨.agg, 4, 64, .agg [.int .i64 0, .str [], .str [], .nils], [(0, 1, false), (1, 1, false), (2, 1, false), (3, 1, false)], []⟩),
  (25, ⟨.other, 1, 8, .raw .nilFunc, [], []⟩),
  (26, ⟨.other, 1, 8, .raw .nilFunc, [], []⟩),
  (27, ⟨.slice 29, 1, 24, .nils, [], []⟩),
  (28, ⟨.agg, 4, 64, .agg [.int .i64 0, .str [], .str [], .nils], [(0, 1, false), (1, 1, false), (2, 1, false), (3, 1, false)], []⟩),
  (29, ⟨.agg, 4, 64, .agg [.int .i64 0, .str [], .str [], .nils], [(0, 1, false), (1, 1, false), (2, 1, false), (3, 1, false)], []⟩),
  (30, ⟨.other, 1, 8, .raw .nilFunc, [], []⟩),
  (31, ⟨.other, 1, 8, .raw .nilFunc, [], []⟩),
  (32, ⟨.other, 1, 8, .raw .nilFunc, [], []⟩),
  (33, ⟨.other, 1, 8, .raw .nilFunc, [], []⟩),
  (34, ⟨.other, 1, 8, .raw .nilFunc, [], []⟩),
  (35, ⟨.other, 1, 8, .raw .nilFunc, [], []⟩),
  (36, ⟨.other, 1, 8, .raw .nilFunc, [], []⟩),
  (37, ⟨.other, 1, 8, .raw .nilFunc, [], []⟩),
  (38, ⟨.other, 1, 8, .raw .nilFunc, [], []⟩),
  (39, ⟨.agg, 6, 80, .agg [.int .i64 0, .str [], .str [], .nils, .int .i64 0, .int .i64 0], [(0, 4, true), (4, 1, false), (5, 1, false)], []⟩),
  (40, ⟨.agg, 6, 80, .agg [.int .i64 0, .str [], .str [], .nils, .int .i64 0, .int .i64 0], [(0, 4, true), (4, 1, false), (5, 1, false)], []⟩),
  (42, ⟨.other, 1, 8, .raw .nilFunc, [], []⟩),
  (43, ⟨.other, 1, 8, .raw .nilFunc, [], []⟩),
  (44, ⟨.ptr, 1, 8, .raw (.pointer none), [], [("loop.example/codicil/spec.add", 18), ("loop.example/codicil/spec.keys", 19)]⟩),
  (45, ⟨.slice 9, 1, 24, .nils, [], []⟩),
  (46, ⟨.slice 3, 1, 24, .nils, [], []⟩),
  (47, ⟨.agg, 2, 48, .agg [.nils, .nils], [(0, 1, false), (1, 1, false)], []⟩),
  (48, ⟨.agg, 2, 48, .agg [.nils, .nils], [(0, 1, false), (1, 1, false)], []⟩),
  (49, ⟨.other, 1, 8, .raw .nilFunc, [], []⟩),
  (50, ⟨.slice 46, 1, 24, .nils, [], []⟩),
  (51, ⟨.other, 1, 8, .raw .nilFunc, [], []⟩),
  (52, ⟨.other, 1, 8, .raw .nilFunc, [], []⟩),
  (53, ⟨.slice 66, 1, 24, .nils, [], []⟩),
  (54, ⟨.other, 1, 8, .raw .nilFunc, [], []⟩),
  (55, ⟨.other, 1, 8, .raw .nilFunc, [], []⟩),
  (56, ⟨.other, 1, 8, .raw .nilFunc, [], []⟩),
  (57, ⟨.other, 1, 8, .raw .nilFunc, [], []⟩),
  (58, ⟨.other, 1, 8, .raw .nilFunc, [], []⟩),
  (59, ⟨.other, 1, 8, .raw .nilFunc, [], []⟩),
  (60, ⟨.other, 1, 8, .raw .nilFunc, [], []⟩),
  (61, ⟨.other, 1, 8, .raw .nilFunc, [], []⟩),
  (62, ⟨.other, 1, 8, .raw .nilFunc, [], []⟩),
  (63, ⟨.other, 1, 8, .raw .nilFunc, [], []⟩),
  (64, ⟨.map 3 4, 1, 8, .raw (.map none), [], []⟩),
  (65, ⟨.agg, 3, 40, .agg [.str [], .str [], .int .i64 0], [(0, 1, false), (1, 1, false), (2, 1, false)], []⟩),
  (66, ⟨.agg, 3, 40, .agg [.str [], .str [], .int .i64 0], [(0, 1, false), (1, 1, false), (2, 1, false)], []⟩),
  (67, ⟨.other, 1, 8, .raw .nilFunc, [], []⟩),
  (68, ⟨.other, 1, 8, .raw .nilFunc, [], []⟩),
  (69, ⟨.other, 1, 8, .raw .nilFunc, [], []⟩),
  (70, ⟨.other, 1, 8, .raw .nilFunc, [], []⟩),
  (71, ⟨.other, 1, 8, .raw .nilFunc, [], []⟩),
  (72, ⟨.other, 1, 8, .raw .nilFunc, [], []⟩),
  (73, ⟨.other, 1, 8, .raw .nilFunc, [], []⟩),
  (74, ⟨.other, 1, 8, .raw .nilFunc, [], []⟩),
  (75, ⟨.other, 1, 8, .raw .nilFunc, [], []⟩),
  (76, ⟨.agg, 4, 40, .agg [.raw (.pointer none), .raw (.pointer none), .raw (.pointer none), .str []], [(0, 1, false), (1, 1, false), (2, 1, false), (3, 1, false)], []⟩),
  (77, ⟨.agg, 4, 40, .agg [.raw (.pointer none), .raw (.pointer none), .raw (.pointer none), .str []], [(0, 1, false), (1, 1, false), (2, 1, false), (3, 1, false)], []⟩),
  (81, ⟨.other, 1, 8, .raw .nilFunc, [], []⟩),
  (82, ⟨.int .u32, 1, 4, .int .u32 0, [], []⟩),
  (83, ⟨.int .u8, 1, 1, .int .u8 0, [], []⟩),
  (84, ⟨.int .u8, 1, 1, .int .u8 0, [], []⟩),
  (85, ⟨.other, 1, 8, .raw .nilFunc, [], []⟩),
  (86, ⟨.ptr, 1, 8, .raw (.pointer none), [], []⟩),
  (87, ⟨.int .i32, 1, 4, .int .i32 0, [], []⟩),
  (88, ⟨.int .i32, 1, 4, .int .i32 0, [], []⟩),
  (89, ⟨.agg, 11, 48, .agg [.int .u64 0, .int .u64 0, .int .u32 0, .int .u8 0, .int .u8 0, .int .u8 0, .int .u8 0, .raw .nilFunc, .raw (.pointer none), .int .i32 0, .int .i32 0], [(0, 1, false), (1, 1, false), (2, 1, false), (3, 1, false), (4, 1, false), (5, 1, false), (6, 1, false), (7, 1, false), (8, 1, false), (9, 1, false), (10, 1, false)], []⟩),
  (90, ⟨.agg, 11, 48, .agg [.int .u64 0, .int .u64 0, .int .u32 0, .int .u8 0, .int .u8 0, .int .u8 0, .int .u8 0, .raw .nilFunc, .raw (.pointer none), .int .i32 0, .int .i32 0], [(0, 1, false), (1, 1, false), (2, 1, false), (3, 1, false), (4, 1, false), (5, 1, false), (6, 1, false), (7, 1, false), (8, 1, false), (9, 1, false), (10, 1, false)], []⟩)]
theorem good : TauGood Try.prog (tauOf tauL) := tauGood (by kernel_rfl) (by kernel_rfl) (by decide)
end Go.Cod

namespace Go.Cod
open Go Go.Proofs
set_option maxRecDepth 10000
theorem l1In_pure (a b c : Int) : Pure Try.prog 33 [.int .i64 a, .int .i64 b, .int .i64 c] (· = .bool (decide (b ≤ a ∧ a ≤ c))) := by
  refine pure_of_awp good Try.func33 rfl (by kernel_rfl) (by decide) ?_
  conv => whnf
  by_cases h1 : b ≤ a
  · rw [leB_t h1]
    conv => whnf
    simp [h1, leB_def]
  · rw [leB_f (by omega)]
    conv => whnf
    simp [h1]

def lowerB (c : UInt8) : Bool := decide (97 ≤ c.toNat ∧ c.toNat ≤ 122)
def lower (s : List UInt8) : Bool := s.all lowerB
def nameL (s : List UInt8) : Bool := lower s && decide (1 ≤ (s.length : Int) ∧ (s.length : Int) ≤ 8)
theorem take_all {p : UInt8 → Bool} {s : List UInt8} {i : Nat} (h : i < s.length) : (s.take (i + 1)).all p = ((s.take i).all p && p s[i]) := by
  rw [List.take_succ_eq_append_getElem h, List.all_append]; simp
theorem l2Name_pure (s : List UInt8) (hs : s.length ≤ 9223372036854775806) : Pure Try.prog 34 [.str s] (· = .bool (nameL s)) := by
  refine pure_of_awp good Try.func34 rfl (by kernel_rfl) (by decide) ?_
  conv => whnf
  refine loop_intro (fun n fr st => st = [] ∧ ∃ i : Nat, n + i = s.length ∧ lower (s.take i) = true ∧ Holds fr [(0, .str s), (3, .int .i64 i)]) s.length ⟨rfl, 0, rfl, rfl, rfl, rfl, trivial⟩ ?_
  rintro n fr st ⟨rfl, i, hi, hlow, hh⟩
  obtain ⟨fr, rfl⟩ := hh.split
  clear hh
  conv => whnf
  by_cases hlt : i < s.length
  · rw [ltB_t (by omega)]
    have hstep := take_all (p := lowerB) hlt
    conv => whnf
    refine ⟨by omega, s[i], by simp [hlt], ?_⟩
    conv => whnf
    by_cases h1 : (97 : Int) ≤ (s[i].toNat : Int)
    · rw [ltB_f (by omega)]
      conv => whnf
      refine ⟨by omega, s[i], by simp [hlt], ?_⟩
      conv => whnf
      by_cases h2 : (s[i].toNat : Int) ≤ 122
      · rw [ltB_f (by omega)]
        conv => whnf
        refine ⟨n - 1, by omega, rfl, i + 1, by omega, ?_, ?_⟩
        · unfold lower at *; rw [hstep, hlow]; simp [lowerB]; omega
        · refine ⟨rfl, ?_, trivial⟩
          show V.int .i64 (IntKind.i64.wrap (i + 1)) = _
          rw [wrap64 (by omega) (by omega)]; simp
      · rw [ltB_t (by omega)]
        conv => whnf
        have hf : lower s = false := by
          unfold lower
          rw [List.all_eq_false]
          exact ⟨s[i], List.getElem_mem _, by simp only [lowerB, decide_eq_true_eq]; omega⟩
        simp only [nameL, hf, Bool.false_and]
    · rw [ltB_t (by omega)]
      conv => whnf
      have hf : lower s = false := by
        unfold lower
        rw [List.all_eq_false]
        exact ⟨s[i], List.getElem_mem _, by simp only [lowerB, decide_eq_true_eq]; omega⟩
      simp only [nameL, hf, Bool.false_and]
  · rw [ltB_f (by omega)]
    conv => whnf
    refine .inl ((l1In_pure _ _ _).mono ?_)
    rintro r rfl
    conv => whnf
    have : s.take i = s := List.take_of_length_le (by omega)
    rw [this] at hlow
    simp [nameL, hlow]
end Go.Cod

namespace Go.Cod
open Go Go.Proofs Go.ChangeShapes Go.WideShapes Go.ChangeAt Go.RowKit
set_option maxRecDepth 10000

/-- A tree. -/
inductive T where
  | mk (id : Int) (kind text : List UInt8) (kids : List T)

mutual
def T.cells : T → List V
  | .mk id kind text kids => [.int .i64 id, .str kind, .str text, .sl (T.rows kids)]
def T.rows : List T → List (List V)
  | [] => []
  | t :: ts => t.cells :: T.rows ts
end
theorem T.rows_eq (ts : List T) : T.rows ts = ts.map T.cells := by
  induction ts with
  | nil => rfl
  | cons t ts ih => simp [T.rows, ih]

/-- What a number, a text and a list may be at most. -/
inductive T.Ok : T → Prop
  | mk {id kind text kids} (h1 : -9223372036854775808 ≤ id ∧ id ≤ 9223372036854775807) (h2 : kind.length ≤ maxLen) (h3 : text.length ≤ maxLen) (h4 : kids.length ≤ maxLen) (h5 : ∀ t ∈ kids, T.Ok t) : T.Ok (.mk id kind text kids)

theorem map_of_forall {α β : Type} {f : α → β} {p : α → Prop} : ∀ {es : List β}, (∀ e ∈ es, ∃ a, e = f a ∧ p a) → ∃ xs : List α, es = xs.map f ∧ ∀ a ∈ xs, p a
  | [], _ => ⟨[], rfl, by simp⟩
  | e :: es, h => by
    obtain ⟨a, rfl, hp⟩ := h e (by simp)
    obtain ⟨xs, rfl, hq⟩ := map_of_forall (es := es) fun e he => h e (by simp [he])
    exact ⟨a :: xs, rfl, by simpa using ⟨hp, hq⟩⟩

theorem kids : Kids Try.prog (· < Try.prog.types.size) := kids_rows (by kernel_rfl) (by kernel_rfl)
theorem full : ∀ t e, t < Try.prog.types.size → Try.prog.underlying t = some (.slice e) → 0 < Try.prog.cellsOf e := slices_full_of Try.prog (by kernel_rfl)

def SF4 (id : Int) (a b : List UInt8) (c : V) : List V := [.int .i64 id, .str a, .str b, c]

theorem reads_tree {H : Type} {enc : TypeId × Value → H} {w : World} : ∀ n : Nat, Reads enc Try.prog w n 24 fun vs => ∃ t : T, vs = t.cells ∧ t.Ok := by
  intro n
  induction n using Nat.strongRecOn with
  | ind n ih =>
    have hS := reads_struct (enc := enc) (P := Try.prog) (w := w) (n := n) (t := 24)
      (Ss := [fun vs => ∃ i, vs = [.int .i64 i] ∧ IntKind.i64.min ≤ i ∧ i ≤ IntKind.i64.max, fun vs => ∃ s, vs = [.str s] ∧ s.length ≤ maxLen, fun vs => ∃ s, vs = [.str s] ∧ s.length ≤ maxLen,
        fun vs => ∃ es, vs = [.sl es] ∧ es.length ≤ maxLen ∧ ∀ r ∈ es, (∃ t : T, r = t.cells ∧ t.Ok) ∧ r.length = Try.prog.cellsOf 24 ∧ (∀ v ∈ r, v.leaf = true) ∧ V.clean.cleanL 0 r = true])
      kids (by decide +kernel) Try.underlying24 rfl ?_
    · intro cs x h
      obtain ⟨vs, ⟨_, _, rfl, ⟨i, rfl, hi⟩, _, _, rfl, ⟨s, rfl, hs⟩, _, _, rfl, ⟨s', rfl, hs'⟩, _, _, rfl, ⟨es, rfl, hes, hr⟩, rfl⟩, h2⟩ := hS cs x h
      obtain ⟨ts, rfl, hts⟩ := map_of_forall (f := T.cells) (p := T.Ok) fun e he => (hr e he).1
      refine ⟨_, ⟨.mk i s s' ts, ?_, .mk hi hs hs' (by simpa using hes) hts⟩, h2⟩
      simp [T.cells, T.rows_eq]
    · intro m hm j f S h1 h2
      match j with
      | 0 => simp at h1 h2; subst h1 h2; exact reads_int Try.underlying3
      | 1 => simp at h1 h2; subst h1 h2; exact reads_str Try.underlying9
      | 2 => simp at h1 h2; subst h1 h2; exact reads_str Try.underlying9
      | 3 => simp at h1 h2; subst h1 h2; exact reads_slice Try.underlying22 (by decide +kernel) fun m' hm' => ih m' (by omega)
      | j + 4 => simp at h1

end Go.Cod

namespace Go.Cod
open Go Go.Proofs
set_option maxRecDepth 10000

def T.kids : T → List T
  | .mk _ _ _ kids => kids
mutual
def szT : T → Int → Int
  | .mk _ kind text kids, left =>
    if left - kind.length < 0 then -1 else
    if left - kind.length - text.length < 0 then -1 else
    let l := if left - kind.length - text.length - kids.length < 0 then -1 else szGo kids (left - kind.length - text.length - kids.length)
    if l < 0 then -1 else l
def szGo : List T → Int → Int
  | [], l => l
  | t :: ts, l => if szT t l < 0 then -1 else szGo ts (szT t l)
end
def szL (ts : List T) (left : Int) : Int := if left - ts.length < 0 then -1 else szGo ts (left - ts.length)

mutual
theorem szT_le : ∀ (t : T) (left : Int), 0 ≤ left → szT t left ≤ left ∧ -1 ≤ szT t left
  | .mk id kind text kids, left, h => by
    simp only [szT]
    have := szGo_le kids (left - kind.length - text.length - kids.length)
    split
    · omega
    split
    · omega
    split
    · simp; omega
    · split <;> omega
theorem szGo_le : ∀ (ts : List T) (left : Int), 0 ≤ left → szGo ts left ≤ left ∧ -1 ≤ szGo ts left
  | [], left, h => by simp [szGo]; omega
  | t :: ts, left, h => by
    simp only [szGo]
    have := szT_le t left h
    split
    · omega
    · have := szGo_le ts (szT t left) (by omega)
      omega
end
theorem szL_le (ts : List T) (left : Int) (h : 0 ≤ left) : szL ts left ≤ left ∧ -1 ≤ szL ts left := by
  unfold szL
  split
  · omega
  · have := szGo_le ts (left - ts.length) (by omega)
    omega

theorem szT_pure1 (t : T) (ht : t.Ok) (left : Int) (h0 : 0 ≤ left) (h1 : left ≤ 4611686018427387904)
    (hL : ∀ left : Int, 0 ≤ left → left ≤ 4611686018427387904 → Pure Try.prog 12 [.sl (T.rows t.kids), .int .i64 left] (· = .int .i64 (szL t.kids left))) :
    Pure Try.prog 5 [.agg t.cells, .int .i64 left] (· = .int .i64 (szT t left)) := by
  cases ht with
  | @mk id kind text kids g1 g2 g3 g4 g5 =>
  simp only [maxLen] at g2 g3 g4
  refine pure_of_awp good Try.func5 rfl (by kernel_rfl) (by decide) ?_
  conv => whnf
  rw [wrap64 (by omega) (by omega)]
  by_cases a1 : left - kind.length < 0
  · rw [ltB_t (by omega)]
    conv => whnf
    simp [szT, a1]
  rw [ltB_f (by omega)]
  conv => whnf
  rw [wrap64 (by omega) (by omega)]
  by_cases a2 : left - kind.length - text.length < 0
  · rw [ltB_t (by omega)]
    conv => whnf
    simp [szT, a1, a2]
  rw [ltB_f (by omega)]
  conv => whnf
  refine .inl ((hL (left - kind.length - text.length) (by omega) (by omega)).mono ?_)
  rintro r rfl
  simp only [T.kids]
  have hb := szL_le kids (left - kind.length - text.length) (by omega)
  have he : szT (.mk id kind text kids) left = if szL kids (left - kind.length - text.length) < 0 then -1 else szL kids (left - kind.length - text.length) := by
    simp only [szT, szL, if_neg a1, if_neg a2]
    rfl
  conv => whnf
  by_cases a3 : szL kids (left - kind.length - text.length) < 0
  · rw [ltB_t (by omega)]
    conv => whnf
    rw [he, if_pos a3]
  rw [ltB_f (by omega)]
  conv => whnf
  rw [he, if_neg a3]

theorem rows_get (ts : List T) (i : Nat) (h : i < ts.length) : (T.rows ts)[i]? = some ts[i].cells := by
  rw [T.rows_eq]; simp [h]
theorem rows_len (ts : List T) : (T.rows ts).length = ts.length := by rw [T.rows_eq]; simp
theorem cells_len (t : T) : t.cells.length = 4 := by cases t; rfl

theorem szGo_drop (ts : List T) (i : Nat) (h : i < ts.length) (l : Int) : szGo (ts.drop i) l = if szT ts[i] l < 0 then -1 else szGo (ts.drop (i + 1)) (szT ts[i] l) := by
  rw [List.drop_eq_getElem_cons h]; simp [szGo]

theorem szL_pure1 (ts : List T) (hl : ts.length ≤ 9223372036854775807) (left : Int) (h0 : 0 ≤ left) (h1 : left ≤ 4611686018427387904)
    (hT : ∀ t ∈ ts, ∀ left : Int, 0 ≤ left → left ≤ 4611686018427387904 → Pure Try.prog 5 [.agg t.cells, .int .i64 left] (· = .int .i64 (szT t left))) :
    Pure Try.prog 12 [.sl (T.rows ts), .int .i64 left] (· = .int .i64 (szL ts left)) := by
  have hlr := rows_len ts
  refine pure_of_awp good Try.func12 rfl (by kernel_rfl) (by decide) ?_
  conv => whnf
  rw [wrap64 (by omega) (by omega)]
  by_cases a1 : left - ts.length < 0
  · rw [ltB_t (by omega)]
    conv => whnf
    simp [szL, a1]
  rw [ltB_f (by omega)]
  conv => whnf
  refine loop_intro (fun n fr st => st = [] ∧ ∃ (i : Nat) (l : Int), n + i = ts.length ∧ 0 ≤ l ∧ l ≤ 4611686018427387904 ∧ szL ts left = szGo (ts.drop i) l ∧ Holds fr [(0, .sl (T.rows ts)), (1, .int .i64 l), (5, .int .i64 i)]) ts.length
    ⟨rfl, 0, left - (T.rows ts).length, by simp, by omega, by omega, by simp [szL, hlr, a1], rfl, rfl, rfl, trivial⟩ ?_
  rintro n fr st ⟨rfl, i, l, hi, b0, b1, hsz, hh⟩
  obtain ⟨fr, rfl⟩ := hh.split
  clear hh
  conv => whnf
  by_cases hlt : i < ts.length
  · rw [ltB_t (by omega)]
    conv => whnf
    refine ⟨by omega, T.rows ts, ts[i].cells, 4, rfl, rows_get ts i hlt, rfl, cells_len _, ?_⟩
    have hc := hT ts[i] (List.getElem_mem _) l b0 b1
    have hb := szT_le ts[i] l b0
    rw [szGo_drop ts i hlt] at hsz
    generalize hg : ts[i] = t at hc hb hsz ⊢
    cases t with
    | mk id kind text kids =>
    conv => whnf
    refine .inl (hc.mono ?_)
    rintro r rfl
    conv => whnf
    by_cases a3 : szT (.mk id kind text kids) l < 0
    · rw [ltB_t (by omega)]
      conv => whnf
      rw [hsz, if_pos a3]
    rw [ltB_f (by omega)]
    conv => whnf
    refine ⟨n - 1, by omega, rfl, i + 1, szT (.mk id kind text kids) l, by omega, by omega, by omega, ?_, rfl, rfl, ?_, trivial⟩
    · rw [hsz, if_neg a3]
    · show V.int .i64 (IntKind.i64.wrap (i + 1)) = _
      rw [wrap64 (by omega) (by omega)]; simp
  · rw [ltB_f (by omega)]
    conv => whnf
    rw [hsz, List.drop_of_length_le (by omega)]
    rfl

theorem szT_pure (t : T) (ht : t.Ok) : ∀ (left : Int), 0 ≤ left → left ≤ 4611686018427387904 → Pure Try.prog 5 [.agg t.cells, .int .i64 left] (· = .int .i64 (szT t left)) := by
  induction ht with
  | @mk id kind text kids g1 g2 g3 g4 g5 ih =>
    intro left h0 h1
    exact szT_pure1 _ (.mk g1 g2 g3 g4 g5) left h0 h1 fun left h0 h1 => szL_pure1 kids (by simpa [maxLen] using g4) left h0 h1 ih
end Go.Cod

namespace Go.Cod
open Go Go.Proofs
set_option maxRecDepth 10000

inductive T.Small : T → Prop
  | mk {id kind text kids} (h1 : -9223372036854775808 ≤ id ∧ id ≤ 9223372036854775807) (h2 : kind.length ≤ 1048576) (h3 : text.length ≤ 1048576) (h4 : kids.length ≤ 1048576) (h5 : ∀ t ∈ kids, T.Small t) : T.Small (.mk id kind text kids)

def zrow : List V := [.int .i64 0, .str [], .str [], .nils]
def mix (ts : List T) (i : Nat) : List (List V) := (T.rows ts).take i ++ List.replicate (ts.length - i) zrow
theorem mix_get (ts : List T) (i : Nat) (h : i < ts.length) : (mix ts i)[i]? = some zrow := by
  unfold mix
  rw [List.getElem?_append_right (by rw [List.length_take, rows_len]; omega)]
  rw [List.length_take, rows_len, Nat.min_eq_left (by omega), Nat.sub_self, List.getElem?_replicate, if_pos (by omega)]
theorem mix_set (ts : List T) (i : Nat) (h : i < ts.length) : (mix ts i).set i ts[i].cells = mix ts (i + 1) := by
  unfold mix
  rw [List.set_append_right _ _ (by rw [List.length_take, rows_len]; omega), List.length_take, rows_len, Nat.min_eq_left (by omega), Nat.sub_self]
  rw [show ts.length - i = (ts.length - (i + 1)) + 1 by omega, List.replicate_succ, List.set_cons_zero, List.take_add_one, rows_get ts i h]
  simp
theorem toTreeS_pure1 (ts : List T) (hl : ts.length ≤ 1048576) (hT : ∀ t ∈ ts, Pure Try.prog 7 [.agg t.cells] (· = .agg t.cells)) :
    Pure Try.prog 15 [.sl (T.rows ts)] (· = .sl (T.rows ts)) := by
  have hlr := rows_len ts
  refine pure_of_awp good Try.func15 rfl (by kernel_rfl) (by decide) ?_
  conv => whnf
  refine ⟨by omega, by omega, ?_⟩
  conv => whnf
  refine ⟨by show (Int.toNat _) * 64 ≤ _; omega, by omega, ?_⟩
  conv => whnf
  refine loop_intro (fun n fr st => ∃ i : Nat, n + i = ts.length ∧ st = [⟨mix ts i, 4, true, true, false, .cell⟩] ∧ Holds fr [(0, .sl (T.rows ts)), (3, .own 0), (4, .int .i64 i)]) ts.length
    ⟨0, rfl, by simp [mix, hlr, zrow, V.cells], rfl, rfl, rfl, trivial⟩ ?_
  rintro n fr st ⟨i, hi, rfl, hh⟩
  obtain ⟨fr, rfl⟩ := hh.split
  clear hh
  conv => whnf
  by_cases hlt : i < ts.length
  · rw [ltB_t (by omega)]
    conv => whnf
    refine ⟨by omega, T.rows ts, ts[i].cells, 4, rfl, rows_get ts i hlt, rfl, cells_len _, ?_⟩
    have hc := hT ts[i] (List.getElem_mem _)
    have hm := mix_set ts i hlt
    have hmg := mix_get ts i hlt
    generalize ts[i] = t at hc hm
    cases t with
    | mk id kind text kids =>
    conv => whnf
    refine .inl (hc.mono ?_)
    rintro r rfl
    conv => whnf
    refine ⟨by omega, mix ts i, zrow, 4, rfl, hmg, rfl, rfl, ?_⟩
    conv => whnf
    refine AtRow_intro zrow hmg ?_
    conv => whnf
    refine ⟨n - 1, by omega, i + 1, by omega, ?_, rfl, rfl, ?_, trivial⟩
    · rw [← hm]; rfl
    · show V.int .i64 (IntKind.i64.wrap (i + 1)) = _
      rw [wrap64 (by omega) (by omega)]; simp
  · rw [ltB_f (by omega)]
    conv => whnf
    show V.sl (mix ts i) = _
    rw [mix, show ts.length - i = 0 by omega, List.take_of_length_le (by rw [hlr]; omega)]
    simp

theorem toTree_pure1 (t : T) (ht : t.Small)
    (hL : Pure Try.prog 15 [.sl (T.rows t.kids)] (· = .sl (T.rows t.kids))) :
    Pure Try.prog 7 [.agg t.cells] (· = .agg t.cells) := by
  cases ht with
  | @mk id kind text kids g1 g2 g3 g4 g5 =>
  simp only [T.kids] at hL
  refine pure_of_awp good Try.func7 rfl (by kernel_rfl) (by decide) ?_
  conv => whnf
  refine .inl (hL.mono ?_)
  rintro r rfl
  conv => whnf
  rfl
end Go.Cod

namespace Go.Cod
open Go Go.Proofs
set_option maxRecDepth 10000

theorem eqB_refl (a : Int) : eqB a a = true := by rw [eqB_def]; simp
theorem eqS_refl (a : List UInt8) : eqS a a = true := by rw [eqS_def]; simp

theorem eqTreeS_pure1 (ts : List T) (hl : ts.length ≤ 1048576) (hT : ∀ t ∈ ts, Pure Try.prog 9 [.agg t.cells, .agg t.cells] (· = .bool true)) :
    Pure Try.prog 17 [.sl (T.rows ts), .sl (T.rows ts)] (· = .bool true) := by
  have hlr := rows_len ts
  refine pure_of_awp good Try.func17 rfl (by kernel_rfl) (by decide) ?_
  conv => whnf
  rw [eqB_refl]
  conv => whnf
  refine loop_intro (fun n fr st => ∃ i : Nat, n + i = ts.length ∧ st = [] ∧ Holds fr [(0, .sl (T.rows ts)), (1, .sl (T.rows ts)), (5, .int .i64 i)]) ts.length
    ⟨0, rfl, rfl, rfl, rfl, rfl, trivial⟩ ?_
  rintro n fr st ⟨i, hi, rfl, hh⟩
  obtain ⟨fr, rfl⟩ := hh.split
  clear hh
  conv => whnf
  by_cases hlt : i < ts.length
  · rw [ltB_t (by omega)]
    conv => whnf
    refine ⟨by omega, T.rows ts, ts[i].cells, 4, rfl, rows_get ts i hlt, rfl, cells_len _, ?_⟩
    have hc := hT ts[i] (List.getElem_mem _)
    have hmg := rows_get ts i hlt
    generalize ts[i] = t at hc hmg
    cases t with
    | mk id kind text kids =>
    conv => whnf
    refine ⟨by omega, T.rows ts, _, 4, rfl, hmg, rfl, rfl, ?_⟩
    conv => whnf
    refine ⟨_, hc, ?_⟩
    conv => whnf
    refine ⟨n - 1, by omega, i + 1, by omega, rfl, rfl, rfl, ?_, trivial⟩
    · show V.int .i64 (IntKind.i64.wrap (i + 1)) = _
      rw [wrap64 (by omega) (by omega)]; simp
  · rw [ltB_f (by omega)]
    conv => whnf

theorem eqTree_pure1 (t : T) (hL : Pure Try.prog 17 [.sl (T.rows t.kids), .sl (T.rows t.kids)] (· = .bool true)) :
    Pure Try.prog 9 [.agg t.cells, .agg t.cells] (· = .bool true) := by
  cases t with
  | mk id kind text kids =>
  simp only [T.kids] at hL
  refine pure_of_awp good Try.func9 rfl (by kernel_rfl) (by decide) ?_
  conv => whnf
  rw [eqB_refl]
  conv => whnf
  rw [eqS_refl]
  conv => whnf
  rw [eqS_refl]
  conv => whnf
  refine .inl (hL.mono ?_)
  rintro r rfl
  conv => whnf

theorem toTree_pure (t : T) (ht : t.Small) : Pure Try.prog 7 [.agg t.cells] (· = .agg t.cells) := by
  induction ht with
  | @mk id kind text kids g1 g2 g3 g4 g5 ih => exact toTree_pure1 _ (.mk g1 g2 g3 g4 g5) (toTreeS_pure1 kids g4 ih)
theorem eqTree_pure (t : T) (ht : t.Small) : Pure Try.prog 9 [.agg t.cells, .agg t.cells] (· = .bool true) := by
  induction ht with
  | @mk id kind text kids g1 g2 g3 g4 g5 ih => exact eqTree_pure1 _ (eqTreeS_pure1 kids g4 ih)

mutual
theorem small_of_sz : ∀ (t : T), t.Ok → ∀ left : Int, left ≤ 1048576 → 0 ≤ szT t left → t.Small
  | .mk id kind text kids, ht, left, h1, h2 => by
    cases ht with
    | mk g1 g2 g3 g4 g5 =>
      simp only [szT] at h2
      split at h2
      · omega
      split at h2
      · omega
      split at h2
      · simp at h2
      rename_i a1 a2 a3
      split at h2
      · omega
      refine .mk g1 (by omega) (by omega) (by omega) (small_of_szGo kids g5 _ (by omega) h2)
theorem small_of_szGo : ∀ (ts : List T), (∀ t ∈ ts, t.Ok) → ∀ left : Int, left ≤ 1048576 → 0 ≤ szGo ts left → ∀ t ∈ ts, t.Small
  | [], _, _, _, _ => by simp
  | t :: ts, h, left, h1, h2 => by
    simp only [szGo] at h2
    split at h2
    · omega
    rename_i a1
    by_cases h0 : 0 ≤ left
    · have h3 := (szT_le t left h0).1
      intro t' ht'
      have hh := small_of_sz t (h _ (by simp)) left h1 (by omega)
      rcases List.mem_cons.1 ht' with rfl | ht'
      · exact hh
      · exact small_of_szGo ts (fun t ht => h t (by simp [ht])) _ (by omega) h2 t' ht'
    · exfalso
      have : szT t left < 0 := by
        cases t with
        | mk id kind text kids => simp only [szT]; rw [if_pos (by omega)]; omega
      omega
end

end Go.Cod

namespace Go.Cod
open Go Go.Proofs
set_option maxRecDepth 10000

/-- Rows of numbers. -/
def irows (ns : List Int) : List (List V) := ns.map fun n => [.int .i64 n]
theorem irows_len (ns : List Int) : (irows ns).length = ns.length := by simp [irows]
theorem irows_get (ns : List Int) (i : Nat) (h : i < ns.length) : (irows ns)[i]? = some [.int .i64 ns[i]] := by simp [irows, h]

theorem l2Has_pure (ns : List Int) (x : Int) (hl : ns.length ≤ 9223372036854775806) : Pure Try.prog 27 [.sl (irows ns), .int .i64 x] (· = .bool (decide (x ∈ ns))) := by
  have hlr := irows_len ns
  refine pure_of_awp good Try.func27 rfl (by kernel_rfl) (by decide) ?_
  conv => whnf
  refine loop_intro (fun n fr st => ∃ i : Nat, n + i = ns.length ∧ st = [] ∧ x ∉ ns.take i ∧ Holds fr [(0, .sl (irows ns)), (1, .int .i64 x), (5, .int .i64 i)]) ns.length
    ⟨0, rfl, rfl, by simp, rfl, rfl, rfl, trivial⟩ ?_
  rintro n fr st ⟨i, hi, rfl, hx, hh⟩
  obtain ⟨fr, rfl⟩ := hh.split
  clear hh
  conv => whnf
  by_cases hlt : i < ns.length
  · rw [ltB_t (by omega)]
    conv => whnf
    refine ⟨by omega, irows ns, _, 1, rfl, irows_get ns i hlt, rfl, rfl, ?_⟩
    conv => whnf
    by_cases he : ns[i] = x
    · rw [eqB_t he]
      conv => whnf
      have : x ∈ ns := he ▸ List.getElem_mem _
      simp [this]
    · rw [eqB_f he]
      conv => whnf
      refine ⟨n - 1, by omega, i + 1, by omega, rfl, ?_, rfl, rfl, ?_, trivial⟩
      · rw [List.take_succ_eq_append_getElem hlt]
        simp only [List.mem_append, List.mem_singleton, not_or]
        exact ⟨hx, fun h => he h.symm⟩
      · show V.int .i64 (IntKind.i64.wrap (i + 1)) = _
        rw [wrap64 (by omega) (by omega)]; simp
  · rw [ltB_f (by omega)]
    conv => whnf
    rw [List.take_of_length_le (by omega)] at hx
    simp [hx]

mutual
def T.ids : T → List Int
  | .mk id _ _ kids => id :: T.idsL kids
def T.idsL : List T → List Int
  | [] => []
  | t :: ts => t.ids ++ T.idsL ts
end
theorem idsL_append (a b : List T) : T.idsL (a ++ b) = T.idsL a ++ T.idsL b := by
  induction a with
  | nil => rfl
  | cons x xs ih => simp [T.idsL, ih]
theorem idsL_take (ts : List T) (i : Nat) (h : i < ts.length) : T.idsL (ts.take (i + 1)) = T.idsL (ts.take i) ++ ts[i].ids := by
  rw [List.take_succ_eq_append_getElem h, idsL_append]; simp [T.idsL]
theorem irows_append (a b : List Int) : irows (a ++ b) = irows a ++ irows b := by simp [irows]

def textB (c : UInt8) : Bool := decide (32 ≤ c.toNat ∧ c.toNat ≤ 126 ∧ c.toNat ≠ 34)
def textL (s : List UInt8) : Bool := s.all textB && decide ((s.length : Int) ≤ 12)
theorem l2Text_pure (s : List UInt8) (hs : s.length ≤ 9223372036854775806) : Pure Try.prog 35 [.str s] (· = .bool (textL s)) := by
  have hno : ∀ (i : Nat) (h : i < s.length), textB s[i] = false → textL s = false := by
    intro i h hb
    have : s.all textB = false := by rw [List.all_eq_false]; exact ⟨s[i], List.getElem_mem _, by simp [hb]⟩
    simp only [textL, this, Bool.false_and]
  refine pure_of_awp good Try.func35 rfl (by kernel_rfl) (by decide) ?_
  conv => whnf
  refine loop_intro (fun n fr st => st = [] ∧ ∃ i : Nat, n + i = s.length ∧ (s.take i).all textB = true ∧ Holds fr [(0, .str s), (3, .int .i64 i)]) s.length ⟨rfl, 0, rfl, rfl, rfl, rfl, trivial⟩ ?_
  rintro n fr st ⟨rfl, i, hi, hlow, hh⟩
  obtain ⟨fr, rfl⟩ := hh.split
  clear hh
  conv => whnf
  by_cases hlt : i < s.length
  · rw [ltB_t (by omega)]
    have hstep := take_all (p := textB) hlt
    have hn := hno i hlt
    conv => whnf
    refine ⟨by omega, s[i], by simp [hlt], ?_⟩
    conv => whnf
    by_cases h1 : (s[i].toNat : Int) < 32
    · rw [ltB_t h1]
      conv => whnf
      rw [hn (by simp only [textB, decide_eq_false_iff_not]; omega)]
    rw [ltB_f (by omega)]
    conv => whnf
    refine ⟨by omega, s[i], by simp [hlt], ?_⟩
    conv => whnf
    by_cases h2 : (126 : Int) < s[i].toNat
    · rw [ltB_t h2]
      conv => whnf
      rw [hn (by simp only [textB, decide_eq_false_iff_not]; omega)]
    rw [ltB_f (by omega)]
    conv => whnf
    refine ⟨by omega, s[i], by simp [hlt], ?_⟩
    conv => whnf
    by_cases h3 : (s[i].toNat : Int) = 34
    · rw [eqB_t h3]
      conv => whnf
      rw [hn (by simp only [textB, decide_eq_false_iff_not]; omega)]
    rw [eqB_f h3]
    conv => whnf
    refine ⟨n - 1, by omega, rfl, i + 1, by omega, ?_, rfl, ?_, trivial⟩
    · rw [hstep, hlow]; simp only [textB, Bool.true_and, decide_eq_true_eq]; omega
    · show V.int .i64 (IntKind.i64.wrap (i + 1)) = _
      rw [wrap64 (by omega) (by omega)]; simp
  · rw [ltB_f (by omega)]
    conv => whnf
    rw [List.take_of_length_le (by omega)] at hlow
    show V.bool (leB _ _) = _
    simp [textL, hlow, leB_def]
end Go.Cod

namespace Go.Cod
open Go Go.Proofs
set_option maxRecDepth 10000

mutual
def plainT : T → Int → Bool
  | .mk id kind text kids, lv => !decide (6 < lv) && decide (1 ≤ id ∧ id ≤ 999) && nameL kind && textL text && plainL kids (lv + 1)
def plainL : List T → Int → Bool
  | [], _ => true
  | t :: ts, lv => plainT t lv && plainL ts lv
end
theorem plainL_eq (ts : List T) (lv : Int) : plainL ts lv = ts.all fun t => plainT t lv := by
  induction ts with
  | nil => rfl
  | cons t ts ih => simp [plainL, ih]

theorem l2Plain_pure1 (t : T) (hs : t.Small) (lv : Int) (h0 : 0 ≤ lv) (h7 : lv ≤ 1000) (hT : lv ≤ 6 → ∀ t' ∈ t.kids, Pure Try.prog 25 [.agg t'.cells, .int .i64 (lv + 1)] (· = .bool (plainT t' (lv + 1)))) :
    Pure Try.prog 25 [.agg t.cells, .int .i64 lv] (· = .bool (plainT t lv)) := by
  cases hs with
  | @mk id kind text kids g1 g2 g3 g4 g5 =>
  simp only [T.kids] at hT
  have hlr := rows_len kids
  refine pure_of_awp good Try.func25 rfl (by kernel_rfl) (by decide) ?_
  conv => whnf
  by_cases a1 : 6 < lv
  · rw [ltB_t a1]
    conv => whnf
    simp [plainT, a1]
  rw [ltB_f (by omega)]
  conv => whnf
  refine .inl ((l1In_pure _ _ _).mono ?_)
  rintro r rfl
  by_cases a2 : 1 ≤ id ∧ id ≤ 999
  case neg =>
    rw [decide_eq_false a2]
    conv => whnf
    simp [plainT, a2]
  rw [decide_eq_true a2]
  conv => whnf
  refine .inl ((l2Name_pure kind (by omega)).mono ?_)
  rintro r rfl
  cases a3 : nameL kind
  · conv => whnf
    simp [plainT, a3]
  conv => whnf
  refine .inl ((l2Text_pure text (by omega)).mono ?_)
  rintro r rfl
  cases a4 : textL text
  · conv => whnf
    simp [plainT, a4]
  conv => whnf
  have hp : plainT (.mk id kind text kids) lv = plainL kids (lv + 1) := by simp [plainT, a1, a2, a3, a4]
  rw [plainL_eq] at hp
  refine loop_intro (fun n fr st => ∃ i : Nat, n + i = kids.length ∧ st = [⟨[[.int .i64 id, .str kind, .str text, .sl (T.rows kids)]], 4, true, true, true, .cell⟩] ∧ (kids.take i).all (fun t => plainT t (lv + 1)) = true ∧ Holds fr [(1, .int .i64 lv), (2, .ptr 0 0 0), (5, .int .i64 i)]) kids.length
    ⟨0, rfl, rfl, rfl, rfl, rfl, rfl, trivial⟩ ?_
  rintro n fr st ⟨i, hi, rfl, hx, hh⟩
  obtain ⟨fr, rfl⟩ := hh.split
  clear hh
  conv => whnf
  by_cases hlt : i < kids.length
  · rw [ltB_t (by omega)]
    conv => whnf
    refine ⟨by omega, T.rows kids, kids[i].cells, 4, rfl, rows_get kids i hlt, rfl, cells_len _, ?_⟩
    have hc := hT (by omega) kids[i] (List.getElem_mem _)
    have hst : (kids.take (i + 1)).all (fun t => plainT t (lv + 1)) = plainT kids[i] (lv + 1) := by
      rw [List.take_succ_eq_append_getElem hlt, List.all_append, hx]; simp
    have hno : plainT kids[i] (lv + 1) = false → kids.all (fun t => plainT t (lv + 1)) = false := by
      intro h; rw [List.all_eq_false]; exact ⟨kids[i], List.getElem_mem _, by simp [h]⟩
    generalize kids[i] = t at hc hst hno ⊢
    cases t with
    | mk id' kind' text' kids' =>
    conv => whnf
    rw [wrap64 (by omega) (by omega)]
    refine .inl (hc.mono ?_)
    rintro r rfl
    cases a5 : plainT (.mk id' kind' text' kids') (lv + 1)
    · conv => whnf
      rw [hp, hno a5]
    conv => whnf
    refine ⟨n - 1, by omega, i + 1, by omega, rfl, by rw [hst, a5], rfl, rfl, ?_, trivial⟩
    show V.int .i64 (IntKind.i64.wrap (i + 1)) = _
    rw [wrap64 (by omega) (by omega)]; simp
  · rw [ltB_f (by omega)]
    conv => whnf
    rw [List.take_of_length_le (by omega)] at hx
    rw [hp, hx]

theorem l2Plain_pure (t : T) (hs : t.Small) : ∀ lv : Int, 0 ≤ lv → lv ≤ 1000 → Pure Try.prog 25 [.agg t.cells, .int .i64 lv] (· = .bool (plainT t lv)) := by
  induction hs with
  | @mk id kind text kids g1 g2 g3 g4 g5 ih =>
    intro lv h0 h7
    exact l2Plain_pure1 _ (.mk g1 g2 g3 g4 g5) lv h0 h7 fun h t' ht' => ih t' ht' (lv + 1) (by omega) (by omega)
end Go.Cod

namespace Go.Cod
open Go Go.Proofs
set_option maxRecDepth 10000

mutual
theorem ids_sz : ∀ (t : T) (left : Int), 0 ≤ szT t left → szT t left + t.ids.length ≤ left + 1
  | .mk id kind text kids, left, h => by
    simp only [szT] at h ⊢
    split at h
    · omega
    split at h
    · omega
    split at h
    · simp at h
    rename_i a1 a2 a3
    rw [if_neg a1, if_neg a2, if_neg a3]
    split at h
    · omega
    rename_i a4
    rw [if_neg a4]
    have := ids_szGo kids _ h
    simp only [T.ids, List.length_cons]
    omega
theorem ids_szGo : ∀ (ts : List T) (left : Int), 0 ≤ szGo ts left → szGo ts left + (T.idsL ts).length ≤ left + ts.length
  | [], left, h => by simp [szGo, T.idsL]
  | t :: ts, left, h => by
    simp only [szGo] at h ⊢
    split at h
    · omega
    rename_i a1
    rw [if_neg a1]
    have h1 := ids_sz t left (by omega)
    have h2 := ids_szGo ts _ h
    simp only [T.idsL, List.length_append, List.length_cons]
    omega
end
theorem idsL_split (ts : List T) (i : Nat) : T.idsL ts = T.idsL (ts.take i) ++ T.idsL (ts.drop i) := by
  induction ts generalizing i with
  | nil => simp [T.idsL]
  | cons t ts ih => cases i with
    | zero => simp [T.idsL]
    | succ i => simp only [List.take_succ_cons, List.drop_succ_cons, T.idsL, List.append_assoc]; rw [← ih i]
theorem irows_wid (l : List Int) : ∀ m ∈ irows l, m.length = 1 := by simp [irows]

theorem l2Ids_pure1 (t : T) (hs : t.Small) (hn : t.ids.length ≤ 1048577) (hT : ∀ t' ∈ t.kids, (t'.ids).length ≤ 1048577 → Pure Try.prog 26 [.agg t'.cells] (· = .sl (irows (t'.ids)))) :
    Pure Try.prog 26 [.agg t.cells] (· = .sl (irows t.ids)) := by
  cases hs with
  | @mk id kind text kids g1 g2 g3 g4 g5 =>
  simp only [T.kids, T.ids, List.length_cons] at hT hn ⊢
  have hlr := rows_len kids
  refine pure_of_awp good Try.func26 rfl (by kernel_rfl) (by decide) ?_
  conv => whnf
  refine loop_drop (fun n fr st => ∃ i : Nat, n + i = kids.length ∧ st = [⟨[[.int .i64 id, .str kind, .str text, .sl (T.rows kids)]], 4, true, true, true, .cell⟩, ⟨irows (id :: T.idsL (kids.take i)), 1, true, true, false, .cell⟩] ∧ Holds fr [(1, .ptr 0 0 0), (3, .own 1), (4, .int .i64 i)]) kids.length none
    ⟨0, rfl, rfl, rfl, rfl, rfl, trivial⟩ ?_
  rintro n fr st ⟨i, hi, rfl, hh⟩
  obtain ⟨fr, rfl⟩ := hh.split
  clear hh
  conv => whnf
  by_cases hlt : i < kids.length
  · rw [ltB_t (by omega)]
    conv => whnf
    refine ⟨by omega, T.rows kids, kids[i].cells, 4, rfl, rows_get kids i hlt, rfl, cells_len _, ?_⟩
    have hsp := idsL_split kids (i + 1)
    have htk := idsL_take kids i hlt
    have hl1 : (T.idsL kids).length = (T.idsL (kids.take (i + 1))).length + (T.idsL (kids.drop (i + 1))).length := by rw [hsp]; simp
    have hl2 : (T.idsL (kids.take (i + 1))).length = (T.idsL (kids.take i)).length + (kids[i].ids).length := by rw [htk]; simp
    have hc := hT kids[i] (List.getElem_mem _) (by omega)
    generalize kids[i] = t at hc htk hl2 ⊢
    cases t with
    | mk id' kind' text' kids' =>
    conv => whnf
    refine .inl (hc.mono ?_)
    rintro r rfl
    conv => whnf
    refine ⟨irows_wid _, ?_⟩
    conv => whnf
    refine ⟨by rw [irows_len, irows_len]; show (_ + _) * 8 ≤ _; simp only [List.length_cons]; omega, ?_⟩
    conv => whnf
    refine ⟨n - 1, by omega, some [0, 2], ?_⟩
    conv => whnf
    refine ⟨i + 1, by omega, ?_, rfl, rfl, ?_, trivial⟩
    · show [_, _] = [_, _]
      rw [htk]
      simp only [irows, List.map_cons, List.map_append]
      rfl
    · show V.int .i64 (IntKind.i64.wrap (i + 1)) = _
      rw [wrap64 (by omega) (by omega)]; simp
  · rw [ltB_f (by omega)]
    conv => whnf
    rw [List.take_of_length_le (by omega)]

theorem l2Ids_pure (t : T) (hs : t.Small) : t.ids.length ≤ 1048577 → Pure Try.prog 26 [.agg t.cells] (· = .sl (irows t.ids)) := by
  induction hs with
  | @mk id kind text kids g1 g2 g3 g4 g5 ih =>
    intro hn
    exact l2Ids_pure1 _ (.mk g1 g2 g3 g4 g5) hn fun t' ht' h => ih t' ht' h

theorem nodup_take {l : List Int} {i : Nat} (h : i < l.length) : (l.take (i + 1)).Nodup ↔ (l.take i).Nodup ∧ l[i] ∉ l.take i := by
  rw [List.take_succ_eq_append_getElem h, List.nodup_append]
  simp
  intro _
  constructor
  · intro h h2; exact h _ h2 rfl
  · intro h a ha e; exact h (e ▸ ha)

def okT (t : T) : Bool := plainT t 1 && decide t.ids.Nodup && decide (t.ids.length ≤ 20)

theorem specTreeOk_pure (t : T) (hs : t.Small) (hn : t.ids.length ≤ 1048577) : Pure Try.prog 13 [.agg t.cells] (· = .bool (okT t)) := by
  have hp := l2Plain_pure t hs 1 (by omega) (by omega)
  have hi := l2Ids_pure t hs hn
  have hok : okT t = (plainT t 1 && decide t.ids.Nodup && decide (t.ids.length ≤ 20)) := rfl
  generalize okT t = ok at *
  generalize plainT t 1 = pl at *
  generalize t.ids = ids at *
  cases t with
  | mk id kind text kids =>
  refine pure_of_awp good Try.func13 rfl (by kernel_rfl) (by decide) ?_
  conv => whnf
  refine .inl (hp.mono ?_)
  rintro r rfl
  cases pl
  · conv => whnf
    simp at hok; rw [hok]
  conv => whnf
  refine .inl (hi.mono ?_)
  rintro r rfl
  conv => whnf
  refine loop_intro (fun n fr st => ∃ i : Nat, n + i = ids.length ∧ st = [⟨[[.int .i64 id, .str kind, .str text, .sl (T.rows kids)]], 4, true, true, true, .cell⟩] ∧ (ids.take i).Nodup ∧ Holds fr [(3, .sl (irows ids)), (4, .int .i64 i)]) ids.length
    ⟨0, rfl, rfl, by simp, rfl, rfl, trivial⟩ ?_
  rintro n fr st ⟨i, hi, rfl, hx, hh⟩
  obtain ⟨fr, rfl⟩ := hh.split
  clear hh
  conv => whnf
  have hlr := irows_len ids
  by_cases hlt : i < ids.length
  · rw [ltB_t (by omega)]
    conv => whnf
    refine ⟨irows_wid _, ?_⟩
    conv => whnf
    refine ⟨by omega, by show Int.toNat (i : Int) ≤ _; rw [hlr]; omega, rfl, ?_⟩
    conv => whnf
    refine ⟨by omega, irows ids, _, 1, rfl, irows_get ids i hlt, rfl, rfl, ?_⟩
    conv => whnf
    have hcut : ((irows ids).take (Int.toNat (i : Int))).drop 0 = irows (ids.take i) := by simp [irows]
    have hc := l2Has_pure (ids.take i) ids[i] (by simp; omega)
    rw [← hcut] at hc
    refine ⟨_, hc, ?_⟩
    have hnd := nodup_take hlt
    by_cases hm : ids[i] ∈ ids.take i
    · rw [decide_eq_true hm]
      conv => whnf
      have : ¬ ids.Nodup := fun h => (hnd.1 (h.sublist (List.take_sublist _ _))).2 hm
      simp [this] at hok; rw [hok]
    · rw [decide_eq_false hm]
      conv => whnf
      refine ⟨n - 1, by omega, i + 1, by omega, rfl, hnd.2 ⟨hx, hm⟩, rfl, ?_, trivial⟩
      show V.int .i64 (IntKind.i64.wrap (i + 1)) = _
      rw [wrap64 (by omega) (by omega)]; simp
  · rw [ltB_f (by omega)]
    conv => whnf
    rw [List.take_of_length_le (by omega)] at hx
    simp only [hx, decide_true, Bool.true_and, Bool.and_true] at hok
    rw [hok, leB_def, hlr]
    congr 1
    exact decide_eq_decide.2 (by omega)
end Go.Cod

namespace Go.Cod
open Go Go.Proofs
set_option maxRecDepth 10000

theorem textHasOnly_pure (s : List UInt8) (hs : s.length ≤ 9223372036854775806) (g : Nat) (p : UInt8 → Bool) (hp : ∀ b : UInt8, Pure Try.prog g [cellB b] (· = .bool (p b))) :
    Pure Try.prog 39 [.str s, .fn g []] (· = .bool (s.all p)) := by
  refine pure_of_awp good Try.func39 rfl (by kernel_rfl) (by decide) ?_
  conv => whnf
  refine loop_intro (fun n fr st => st = [] ∧ ∃ i : Nat, n + i = s.length ∧ (s.take i).all p = true ∧ Holds fr [(0, .str s), (1, .fn g []), (7, .int .i64 s.length), (8, .int .i64 i)]) s.length ⟨rfl, 0, rfl, rfl, rfl, rfl, rfl, rfl, trivial⟩ ?_
  rintro n fr st ⟨rfl, i, hi, hx, hh⟩
  obtain ⟨fr, rfl⟩ := hh.split
  clear hh
  conv => whnf
  by_cases hlt : i < s.length
  · rw [ltB_t (by omega)]
    conv => whnf
    refine ⟨by omega, s[i], by simp [hlt], ?_⟩
    conv => whnf
    have hst := take_all (p := p) hlt
    have hno : p s[i] = false → s.all p = false := by
      intro h; rw [List.all_eq_false]; exact ⟨s[i], List.getElem_mem _, by simp [h]⟩
    refine .inl ((hp s[i]).mono ?_)
    rintro r rfl
    cases a : p s[i]
    · conv => whnf
      rw [hno a]
    conv => whnf
    refine ⟨n - 1, by omega, rfl, i + 1, by omega, by rw [hst, hx, a]; rfl, rfl, rfl, rfl, ?_, trivial⟩
    show V.int .i64 (IntKind.i64.wrap (i + 1)) = _
    rw [wrap64 (by omega) (by omega)]; simp
  · rw [ltB_f (by omega)]
    conv => whnf
    rw [List.take_of_length_le (by omega)] at hx
    rw [hx]

theorem isLetter_pure (b : UInt8) : Pure Try.prog 41 [cellB b] (· = .bool (lowerB b)) := by
  refine pure_of_awp good Try.func41 rfl (by kernel_rfl) (by decide) ?_
  conv => whnf
  by_cases h1 : (97 : Int) ≤ (b.toNat : Int)
  · rw [leB_t (by omega)]
    conv => whnf
    congr 1
    rw [leB_def, lowerB]
    exact decide_eq_decide.2 (by omega)
  · rw [leB_f (by omega)]
    conv => whnf
    have : lowerB b = false := by unfold lowerB; simp; omega
    rw [this]
theorem isTreeText_pure (b : UInt8) : Pure Try.prog 40 [cellB b] (· = .bool (textB b)) := by
  refine pure_of_awp good Try.func40 rfl (by kernel_rfl) (by decide) ?_
  conv => whnf
  by_cases h1 : (32 : Int) ≤ (b.toNat : Int)
  · rw [leB_t (by omega)]
    conv => whnf
    by_cases h2 : (b.toNat : Int) ≤ 126
    · rw [leB_t (by omega)]
      conv => whnf
      congr 1
      rw [eqB_def]
      have : negB (decide ((b.toNat : Int) = 34)) = decide (b.toNat ≠ 34) := by
        by_cases h : b.toNat = 34
        · simp [h, negB]
        · have : ¬ (b.toNat : Int) = 34 := by omega
          simp [h, this, negB]
      rw [this, textB]
      exact decide_eq_decide.2 (by omega)
    · rw [leB_f (by omega)]
      conv => whnf
      have : textB b = false := by unfold textB; simp; omega
      rw [this]
  · rw [leB_f (by omega)]
    conv => whnf
    have : textB b = false := by unfold textB; simp; omega
    rw [this]
theorem nameOk_pure (s : List UInt8) (hs : s.length ≤ 9223372036854775806) : Pure Try.prog 38 [.str s] (· = .bool (nameL s)) := by
  refine pure_of_awp good Try.func38 rfl (by kernel_rfl) (by decide) ?_
  conv => whnf
  by_cases h1 : (1 : Int) ≤ (s.length : Int)
  case neg =>
    rw [leB_f (by omega)]
    conv => whnf
    simp [nameL]; omega
  rw [leB_t (by omega)]
  conv => whnf
  by_cases h2 : (s.length : Int) ≤ 8
  case neg =>
    rw [leB_f (by omega)]
    conv => whnf
    simp [nameL]; omega
  rw [leB_t (by omega)]
  conv => whnf
  refine .inl ((textHasOnly_pure s hs _ lowerB isLetter_pure).mono ?_)
  rintro r rfl
  conv => whnf
  simp [nameL, lower, h1, h2]

def thingB (id : Int) (kind text : List UInt8) : Bool := decide (1 ≤ id ∧ id ≤ 999) && nameL kind && textL text
theorem treeThingOk_pure (id : Int) (kind text : List UInt8) (kids : List T) (h2 : kind.length ≤ 9223372036854775806) (h3 : text.length ≤ 9223372036854775806) :
    Pure Try.prog 30 [.agg (T.mk id kind text kids).cells] (· = .bool (thingB id kind text)) := by
  refine pure_of_awp good Try.func30 rfl (by kernel_rfl) (by decide) ?_
  conv => whnf
  by_cases a1 : 1 ≤ id
  case neg =>
    rw [leB_f (by omega)]
    conv => whnf
    simp [thingB]; omega
  rw [leB_t (by omega)]
  conv => whnf
  by_cases a2 : id ≤ 999
  case neg =>
    rw [leB_f (by omega)]
    conv => whnf
    simp [thingB]; omega
  rw [leB_t (by omega)]
  conv => whnf
  refine .inl ((nameOk_pure kind (by omega)).mono ?_)
  rintro r rfl
  cases a3 : nameL kind
  · conv => whnf
    simp [thingB, a3]
  conv => whnf
  by_cases a4 : (text.length : Int) ≤ 12
  case neg =>
    rw [leB_f (by omega)]
    conv => whnf
    simp [thingB, textL]; omega
  rw [leB_t (by omega)]
  conv => whnf
  refine .inl ((textHasOnly_pure text (by omega) _ textB isTreeText_pure).mono ?_)
  rintro r rfl
  conv => whnf
  simp [thingB, textL, a1, a2, a3, a4]
end Go.Cod

namespace Go.Cod
open Go Go.Proofs
set_option maxRecDepth 10000

/-- A thing, that in which it is, its level. -/
abbrev Sp := T × Int × Int
def spV (s : Sp) : V := .agg (s.1.cells ++ [.int .i64 s.2.1, .int .i64 s.2.2])
mutual
def spT : T → Int → Int → List Sp
  | .mk id kind text kids, ov, lv => (.mk id kind text kids, ov, lv) :: spL kids id (IntKind.i64.wrap (lv + 1))
def spL : List T → Int → Int → List Sp
  | [], _, _ => []
  | t :: ts, ov, lv => spT t ov lv ++ spL ts ov lv
end
theorem spL_append (a b : List T) (ov lv : Int) : spL (a ++ b) ov lv = spL a ov lv ++ spL b ov lv := by
  induction a with
  | nil => rfl
  | cons t ts ih => simp [spL, ih]
def spRows (l : List Sp) : List (List V) := l.map fun s => [spV s]
theorem spRows_append (a b : List Sp) : spRows (a ++ b) = spRows a ++ spRows b := by simp [spRows]

/-- What is yielded in order is taken. -/
def Takes (ok : OkY) (log : List (List V)) (l : List Sp) : Prop := ∀ pre v suf, l = pre ++ v :: suf → ok (log ++ spRows pre) [spV v]
theorem Takes.left {ok : OkY} {log : List (List V)} {a b : List Sp} (h : Takes ok log (a ++ b)) : Takes ok log a := fun pre v suf e => h pre v (suf ++ b) (by rw [e]; simp)
theorem Takes.right {ok : OkY} {log : List (List V)} {a b : List Sp} (h : Takes ok log (a ++ b)) : Takes ok (log ++ spRows a) b := fun pre v suf e => by
  have := h (a ++ pre) v suf (by rw [e]; simp)
  rwa [spRows_append, ← List.append_assoc] at this
def Walked (log : List (List V)) (l : List Sp) (o : Out) (st' : St) : Prop := ∃ b log', o = .ret (.bool b) ∧ st' = [logO log' b] ∧ (b = true → log' = log ++ spRows l)

theorem treeWalk_full1 (t : T) (hs : t.Small) (ov lv : Int) (ok : OkY) (log : List (List V)) (hok : Takes ok log (spT t ov lv))
    (hT : ∀ t' ∈ t.kids, ∀ (ov lv : Int) (log : List (List V)), Takes ok log (spT t' ov lv) → Full Try.prog ok 37 [spV (t', ov, lv), .yld 0] [logO log true] (Walked log (spT t' ov lv))) :
    Full Try.prog ok 37 [spV (t, ov, lv), .yld 0] [logO log true] (Walked log (spT t ov lv)) := by
  cases hs with
  | @mk id kind text kids g1 g2 g3 g4 g5 =>
  simp only [T.kids] at hT
  have hlr := rows_len kids
  have hok0 : ok log [spV (.mk id kind text kids, ov, lv)] := by simpa [spRows] using hok [] _ _ rfl
  have hokL : Takes ok (log ++ [[spV (.mk id kind text kids, ov, lv)]]) (spL kids id (IntKind.i64.wrap (lv + 1))) := Takes.right (a := [(.mk id kind text kids, ov, lv)]) hok
  refine full_of_awp good Try.func37 rfl (by kernel_rfl) (by decide) ?_
  conv => whnf
  refine ⟨hok0, ?_⟩
  intro b
  have hfin : log ++ [[spV (.mk id kind text kids, ov, lv)]] ++ spRows (spL kids id (IntKind.i64.wrap (lv + 1))) = log ++ spRows (spT (.mk id kind text kids) ov lv) := by simp [spT, spRows]
  cases b
  · conv => whnf
    refine ⟨[], false, ?_⟩
    conv => whnf
    exact ⟨false, _, rfl, rfl, by simp⟩
  conv => whnf
  refine loop_drop (fun n fr st => ∃ i : Nat, n + i = kids.length ∧ st = [logO (log ++ [[spV (.mk id kind text kids, ov, lv)]] ++ spRows (spL (kids.take i) id (IntKind.i64.wrap (lv + 1)))) true, ⟨[[.int .i64 id, .str kind, .str text, .sl (T.rows kids), .int .i64 ov, .int .i64 lv]], 6, true, true, true, .cell⟩] ∧ Holds fr [(1, .yld 0), (2, .ptr 1 0 0), (13, .sl (T.rows kids)), (14, .int .i64 kids.length), (15, .int .i64 i)]) kids.length none
    ⟨0, rfl, by show [_, _] = [logO (_ ++ []) true, _]; rw [List.append_nil]; rfl, rfl, rfl, rfl, by rw [← hlr]; rfl, rfl, trivial⟩ ?_
  rintro n fr st ⟨i, hi, rfl, hh⟩
  obtain ⟨fr, rfl⟩ := hh.split
  clear hh
  conv => whnf
  by_cases hlt : i < kids.length
  · rw [ltB_t (by omega)]
    conv => whnf
    refine ⟨by omega, T.rows kids, kids[i].cells, 4, rfl, rows_get kids i hlt, rfl, cells_len _, ?_⟩
    have hc := hT kids[i] (List.getElem_mem _) id (IntKind.i64.wrap (lv + 1)) (log ++ [[spV (.mk id kind text kids, ov, lv)]] ++ spRows (spL (kids.take i) id (IntKind.i64.wrap (lv + 1)))) (by
      refine Takes.right (Takes.left (b := spL (kids.drop (i + 1)) id (IntKind.i64.wrap (lv + 1))) ?_)
      refine cast ?_ hokL
      congr 1
      conv => lhs; rw [← List.take_append_drop i kids, List.drop_eq_getElem_cons hlt]
      rw [spL_append]; simp [spL])
    have htk : spL (kids.take (i + 1)) id (IntKind.i64.wrap (lv + 1)) = spL (kids.take i) id (IntKind.i64.wrap (lv + 1)) ++ spT kids[i] id (IntKind.i64.wrap (lv + 1)) := by
      rw [List.take_succ_eq_append_getElem hlt, spL_append]; simp [spL]
    generalize kids[i] = t at hc htk ⊢
    cases t with
    | mk id' kind' text' kids' =>
    conv => whnf
    refine ⟨[0], false, ?_⟩
    conv => whnf
    refine hc.mono ?_
    rintro o st' ⟨b, log', rfl, rfl, hl⟩
    cases b
    · conv => whnf
      refine ⟨[], false, ?_⟩
      conv => whnf
      exact ⟨false, _, rfl, rfl, by simp⟩
    conv => whnf
    refine ⟨n - 1, by omega, some [0, 1], ?_⟩
    conv => whnf
    refine ⟨i + 1, by omega, ?_, rfl, rfl, rfl, rfl, ?_, trivial⟩
    · show [logO _ _, _] = [logO _ _, _]
      rw [hl rfl, htk, spRows_append, List.append_assoc]
      rfl
    · show V.int .i64 (IntKind.i64.wrap (i + 1)) = _
      rw [wrap64 (by omega) (by omega)]; simp
  · rw [ltB_f (by omega)]
    conv => whnf
    rw [List.take_of_length_le (by omega)]
    refine ⟨[], false, ?_⟩
    conv => whnf
    exact ⟨true, _, rfl, rfl, fun _ => hfin⟩
theorem treeWalk_full (t : T) (hs : t.Small) (ok : OkY) : ∀ (ov lv : Int) (log : List (List V)), Takes ok log (spT t ov lv) → Full Try.prog ok 37 [spV (t, ov, lv), .yld 0] [logO log true] (Walked log (spT t ov lv)) := by
  induction hs with
  | @mk id kind text kids g1 g2 g3 g4 g5 ih =>
    intro ov lv log hok
    exact treeWalk_full1 _ (.mk g1 g2 g3 g4 g5) ov lv ok log hok fun t' ht' => ih t' ht'
end Go.Cod

namespace Go.Cod
open Go Go.Proofs
set_option maxRecDepth 10000

def boxT (t : T) : O := ⟨[t.cells], 4, true, true, true, .cell⟩
theorem treeSpots1_full (t : T) (hs : t.Small) (ok : OkY) (hok : Takes ok [] (spT t 0 1)) : Full Try.prog ok 36 [.yld 0, .ptr 1 0 0] [logO [] true, boxT t] (fun o st' => ∃ r b log', o = .ret r ∧ st' = [logO log' b, boxT t] ∧ (b = true → log' = spRows (spT t 0 1))) := by
  have hc := treeWalk_full t hs ok 0 1 [] hok
  cases t with
  | mk id kind text kids =>
  refine full_of_awp good Try.func36 rfl (by kernel_rfl) (by decide) ?_
  conv => whnf
  refine ⟨[0], false, ?_⟩
  conv => whnf
  refine hc.mono ?_
  rintro o st' ⟨b, log', rfl, rfl, hl⟩
  conv => whnf
  refine ⟨[], false, ?_⟩
  conv => whnf
  exact ⟨_, b, log', rfl, rfl, hl⟩

theorem treeSpots_full (t : T) : Full Try.prog noY 28 [.agg t.cells] [] (fun o st' => o = .ret (.fn 36 [.ptr 0 0 0]) ∧ st' = [boxT t]) := by
  cases t with
  | mk id kind text kids =>
  refine full_of_awp good Try.func28 rfl (by kernel_rfl) (by decide) ?_
  conv => whnf
  refine ⟨[0], false, ?_⟩
  conv => whnf
  exact ⟨rfl, rfl⟩
end Go.Cod

namespace Go.Cod
open Go Go.Proofs
set_option maxRecDepth 10000

def T.id : T → Int
  | .mk id _ _ _ => id
def T.thing : T → Bool
  | .mk id kind text _ => thingB id kind text
def idS (s : Sp) : Int := s.1.id
theorem T.thing_mk (id : Int) (kind text : List UInt8) (kids : List T) : (T.mk id kind text kids).thing = thingB id kind text := rfl
mutual
theorem spT_ids : ∀ (t : T) (ov lv : Int), (spT t ov lv).map idS = t.ids
  | .mk id kind text kids, ov, lv => by simp [spT, T.ids, spL_ids kids, idS, T.id]
theorem spL_ids : ∀ (ts : List T) (ov lv : Int), (spL ts ov lv).map idS = T.idsL ts
  | [], _, _ => rfl
  | t :: ts, ov, lv => by simp [spL, T.idsL, spT_ids t, spL_ids ts]
end
mutual
theorem plainT_sp : ∀ (t : T) (ov lv : Int), 0 ≤ lv → lv ≤ 7 → (plainT t lv = true ↔ ∀ s ∈ spT t ov lv, s.2.2 ≤ 6 ∧ s.1.thing = true)
  | .mk id kind text kids, ov, lv, h0, h7 => by
    have hw : IntKind.i64.wrap (lv + 1) = lv + 1 := wrap64 (by omega) (by omega)
    simp only [plainT, spT, hw, List.mem_cons, forall_eq_or_imp, T.thing_mk, thingB, Bool.and_eq_true]
    by_cases h6 : lv ≤ 6
    · rw [plainL_sp kids id (lv + 1) (by omega) (by omega)]
      have : ¬ 6 < lv := by omega
      simp [this, h6, and_assoc]
    · have : 6 < lv := by omega
      simp [this, h6]
theorem plainL_sp : ∀ (ts : List T) (ov lv : Int), 0 ≤ lv → lv ≤ 7 → (plainL ts lv = true ↔ ∀ s ∈ spL ts ov lv, s.2.2 ≤ 6 ∧ s.1.thing = true)
  | [], _, _, _, _ => by simp [plainL, spL]
  | t :: ts, ov, lv, h0, h7 => by
    simp only [plainL, spL, Bool.and_eq_true, List.mem_append, plainT_sp t ov lv h0 h7, plainL_sp ts ov lv h0 h7]
    constructor
    · rintro ⟨a, b⟩ s (h | h)
      · exact a s h
      · exact b s h
    · intro h
      exact ⟨fun s hs => h s (.inl hs), fun s hs => h s (.inr hs)⟩
end
def AllOk (l : List Sp) : Prop := (∀ s ∈ l, s.2.2 ≤ 6 ∧ s.1.thing = true) ∧ (l.map idS).Nodup ∧ l.length ≤ 20
theorem AllOk.pre {a b : List Sp} (h : AllOk (a ++ b)) : AllOk a := by
  obtain ⟨h1, h2, h3⟩ := h
  refine ⟨fun s hs => h1 s (by simp [hs]), ?_, by simp at h3; omega⟩
  rw [List.map_append, List.nodup_append] at h2
  exact h2.1
theorem okT_iff (t : T) : okT t = true ↔ AllOk (spT t 0 1) := by
  have h := spT_ids t 0 1
  unfold okT AllOk
  rw [h]
  simp only [Bool.and_eq_true, decide_eq_true_eq, plainT_sp t 0 1 (by omega) (by omega), and_assoc]
  rw [← h, List.length_map]
theorem AllOk.snoc {l : List Sp} {s : Sp} : AllOk (l ++ [s]) ↔ AllOk l ∧ s.2.2 ≤ 6 ∧ s.1.thing = true ∧ idS s ∉ l.map idS ∧ l.length ≠ 20 := by
  unfold AllOk
  simp only [List.mem_append, List.mem_singleton, List.map_append, List.map_cons, List.map_nil, List.nodup_append, List.length_append, List.length_singleton]
  constructor
  · rintro ⟨h1, ⟨h2, _, h3⟩, h4⟩
    refine ⟨⟨fun s hs => h1 s (.inl hs), h2, by omega⟩, (h1 s (.inr rfl)).1, (h1 s (.inr rfl)).2, fun hm => h3 _ hm _ (by simp) rfl, by omega⟩
  · rintro ⟨⟨h1, h2, h4⟩, h5, h6, h7, h8⟩
    refine ⟨?_, ⟨h2, by simp, ?_⟩, by omega⟩
    · rintro s' (h | rfl)
      · exact h1 s' h
      · exact ⟨h5, h6⟩
    · intro a ha b hb e
      subst e; rw [hb] at ha; exact h7 ha

def seenRows (l : List Int) : List (List V) := l.map fun i => [.int .i64 i, .bool true]
theorem seenRows_len (l : List Int) : (seenRows l).length = l.length := by simp [seenRows]
theorem findRow_seen (l : List Int) (x : Int) : findRow (.int .i64 x) (seenRows l) = if x ∈ l then some (.bool true) else none := by
  induction l with
  | nil => rfl
  | cons a l ih =>
    by_cases h : a = x
    · subst h; simp [seenRows, findRow, rowKey, keyEq, rowVal]
    · have : ¬ x = a := fun e => h e.symm
      have e : findRow (.int .i64 x) ([.int .i64 a, .bool true] :: seenRows l) = findRow (.int .i64 x) (seenRows l) := by
        show (if decide (a = x) = true then _ else _) = _
        rw [if_neg (by simpa using h)]
      refine e.trans (ih.trans ?_)
      simp [this]
theorem putRow_seen (l : List Int) (x : Int) (h : x ∉ l) : putRow (.int .i64 x) (.bool true) (seenRows l) = seenRows (l ++ [x]) := by
  induction l with
  | nil => rfl
  | cons a l ih =>
    simp only [List.mem_cons, not_or] at h
    simp only [seenRows, List.map_cons, List.cons_append] at ih ⊢
    have h' : ¬ a = x := fun e => h.1 e.symm
    simp only [putRow, rowKey, keyEq, h', decide_false, Bool.false_eq_true, if_false, ih h.2]

def okbT (t : T) : OkY := fun log vs => ∃ pre s suf, spT t 0 1 = pre ++ s :: suf ∧ log = spRows pre ∧ vs = [spV s]
theorem okbT_takes (t : T) : Takes (okbT t) [] (spT t 0 1) := fun pre v suf e => ⟨pre, v, suf, e, by simp, rfl⟩
theorem spRows_len (l : List Sp) : (spRows l).length = l.length := by simp [spRows]
theorem implTreeOk_pure (t : T) (hs : t.Small) (hsps : ∀ s ∈ spT t 0 1, s.1.Small) : Pure Try.prog 21 [.agg t.cells] (· = .bool (okT t)) := by
  have hsp := treeSpots_full t
  have hok := okT_iff t
  have hcl := treeSpots1_full t hs _ (okbT_takes t)
  have hbox : boxT t = ⟨[t.cells], 4, true, true, true, .cell⟩ := rfl
  generalize okT t = okt at *
  have hobt : okbT t = fun log vs => ∃ pre s suf, spT t 0 1 = pre ++ s :: suf ∧ log = spRows pre ∧ vs = [spV s] := rfl
  generalize okbT t = okb at *
  generalize spT t 0 1 = sps at *
  cases t with
  | mk id kind text kids =>
  refine pure_of_awp good Try.func21 rfl (by kernel_rfl) (by decide) ?_
  conv => whnf
  refine .inr ⟨[], false, ?_⟩
  conv => whnf
  refine hsp.mono ?_
  rintro o st' ⟨rfl, rfl⟩
  conv => whnf
  refine ⟨[4], false, okb, fun log st' => AllOk (sps.take log.length) ∧ st' = [⟨[(T.mk id kind text kids).cells], 4, true, true, true, .cell⟩, ⟨[[.bool false]], 1, true, true, true, .cell⟩, ⟨seenRows ((sps.take log.length).map idS), kindCode .i64, false, true, false, .map⟩, ⟨[[.map 2]], 1, true, true, true, .cell⟩, ⟨[(T.mk id kind text kids).cells], 4, false, true, true, .cell⟩], ?_⟩
  conv => whnf
  refine ⟨⟨⟨by simp, by simp, by simp⟩, rfl⟩, ?_, ?_⟩
  · rintro log vs st' ⟨hall, rfl⟩ ho
    rw [hobt] at ho
    obtain ⟨pre, s, suf, rfl, rfl, rfl⟩ := ho
    have htk : (pre ++ s :: suf).take (spRows pre).length = pre := by rw [spRows_len]; simp
    have htk1 : (pre ++ s :: suf).take (spRows pre ++ [[spV s]]).length = pre ++ [s] := by rw [List.length_append, spRows_len]; show List.take (pre.length + 1) _ = _; rw [List.take_append, List.take_of_length_le (by omega)]; simp
    rw [htk] at hall ⊢
    refine ⟨rfl, ?_⟩
    have hsn := AllOk.snoc (l := pre) (s := s)
    have hno : ¬ AllOk (pre ++ [s]) → okt = false := fun h => by
      cases e : okt
      · rfl
      · exact absurd (AllOk.pre (b := suf) (by simpa using hok.1 e)) h
    obtain ⟨⟨id', kind', text', kids'⟩, ov, lv⟩ := s
    simp only [T.thing_mk, idS, T.id] at hsn
    have hfr := findRow_seen (pre.map idS) id'
    have hpr := putRow_seen (pre.map idS) id'
    conv => whnf
    by_cases a1 : 6 < lv
    · rw [ltB_t a1]
      conv => whnf
      rw [hno fun h => by have : lv ≤ 6 := (hsn.1 h).2.1; omega]
    rw [ltB_f (show lv ≤ 6 by omega)]
    conv => whnf
    rw [seenRows_len, List.length_map]
    by_cases a2 : pre.length = 20
    · rw [eqB_t (by omega)]
      conv => whnf
      rw [hno fun h => by have := (hsn.1 h).2.2.2.2; omega]
    rw [eqB_f (by omega)]
    conv => whnf
    by_cases a3 : id' ∈ pre.map idS
    · rw [if_pos a3] at hfr
      refine AtKey_intro _ hfr ?_
      conv => whnf
      rw [hno fun h => (hsn.1 h).2.2.2.1 a3]
    rw [if_neg a3] at hfr
    refine AtKey_intro _ hfr ?_
    conv => whnf
    obtain ⟨b2, b3⟩ : kind'.length ≤ 1048576 ∧ text'.length ≤ 1048576 := by
      have h := hsps (.mk id' kind' text' kids', ov, lv) (by simp)
      cases h
      exact ⟨by assumption, by assumption⟩
    refine .inl ((treeThingOk_pure id' kind' text' kids' (by omega) (by omega)).mono ?_)
    rintro r rfl
    cases a4 : thingB id' kind' text'
    · conv => whnf
      rw [hno fun h => by have := (hsn.1 h).2.2.1; rw [a4] at this; cases this]
    conv => whnf
    refine ⟨some [0, 1, 2, 3, 4], ?_⟩
    conv => whnf
    have hall' : AllOk (pre ++ [(.mk id' kind' text' kids', ov, lv)]) := hsn.2 ⟨hall, (show lv ≤ 6 by omega), a4, a3, a2⟩
    have hpr := hpr a3
    rw [htk1]
    refine ⟨hall', ?_⟩
    have hse : seenRows ((pre ++ [((.mk id' kind' text' kids', ov, lv) : Sp)]).map idS) = putRow (.int .i64 id') (.bool true) (seenRows (pre.map idS)) := by
      rw [hpr, List.map_append]; rfl
    rw [hse]
    rfl
  · refine hcl.mono ?_
    rintro o st' ⟨r, b, log', rfl, rfl, hl⟩
    refine ⟨_, _, _, rfl, rfl, fun hb st' hI => ?_⟩
    obtain ⟨hall, rfl⟩ := hI
    rw [hl hb, List.take_of_length_le (by rw [spRows_len]; omega)] at hall
    conv => whnf
    rw [hok.2 hall]
end Go.Cod

namespace Go.Cod
open Go Go.Proofs
set_option maxRecDepth 10000

mutual
theorem spT_small : ∀ (t : T) (ov lv : Int), t.Small → ∀ s ∈ spT t ov lv, s.1.Small
  | .mk id kind text kids, ov, lv, h => by
    intro s hs
    rcases List.mem_cons.1 hs with rfl | hs
    · exact h
    · cases h with
      | mk g1 g2 g3 g4 g5 => exact spL_small kids _ _ g5 s hs
theorem spL_small : ∀ (ts : List T) (ov lv : Int), (∀ t ∈ ts, t.Small) → ∀ s ∈ spL ts ov lv, s.1.Small
  | [], _, _, _ => by simp [spL]
  | t :: ts, ov, lv, h => by
    intro s hs
    rcases List.mem_append.1 hs with hs | hs
    · exact spT_small t ov lv (h t (by simp)) s hs
    · exact spL_small ts ov lv (fun t ht => h t (by simp [ht])) s hs
end
theorem implTreeOk (t : T) (hs : t.Small) : Pure Try.prog 21 [.agg t.cells] (· = .bool (okT t)) := implTreeOk_pure t hs (spT_small t 0 1 hs)

def spZ : V := .agg [.int .i64 0, .str [], .str [], .nils, .int .i64 0, .int .i64 0]
def isId (id : Int) (s : Sp) : Bool := decide (idS s = id)
def spotR : Option Sp → V
  | some s => .tup [spV s, .bool true]
  | none => .tup [spV (.mk 0 [] [] [], 0, 0), .bool false]
def spotOf (t : T) (id : Int) : Option Sp := if okT t then (spT t 0 1).find? (isId id) else none

theorem treeSpotOf_pure (t : T) (hs : t.Small) (x : Int) : Pure Try.prog 16 [.agg t.cells, .int .i64 x] (· = spotR (spotOf t x)) := by
  have hio := implTreeOk t hs
  have hsp := treeSpots_full t
  have hcl := treeSpots1_full t hs _ (okbT_takes t)
  have hbox : boxT t = ⟨[t.cells], 4, true, true, true, .cell⟩ := rfl
  have hso : spotOf t x = if okT t then (spT t 0 1).find? (isId x) else none := rfl
  generalize okT t = okt at *
  generalize spotOf t x = so at *
  have hobt : okbT t = fun log vs => ∃ pre s suf, spT t 0 1 = pre ++ s :: suf ∧ log = spRows pre ∧ vs = [spV s] := rfl
  generalize okbT t = okb at *
  generalize spT t 0 1 = sps at *
  cases t with
  | mk id kind text kids =>
  refine pure_of_awp good Try.func16 rfl (by kernel_rfl) (by decide) ?_
  conv => whnf
  refine .inl (hio.mono ?_)
  rintro r rfl
  cases okt
  · conv => whnf
    rw [hso]; rfl
  conv => whnf
  refine .inr ⟨[], false, ?_⟩
  conv => whnf
  refine hsp.mono ?_
  rintro o st' ⟨rfl, rfl⟩
  conv => whnf
  refine ⟨[4], false, okb, fun log st' => (sps.take log.length).find? (isId x) = none ∧ st' = [⟨[(T.mk id kind text kids).cells], 4, true, true, true, .cell⟩, ⟨[[.int .i64 x]], 1, true, true, true, .cell⟩, ⟨[spZ.cells], 6, true, true, true, .cell⟩, ⟨[[.bool false]], 1, true, true, true, .cell⟩, ⟨[(T.mk id kind text kids).cells], 4, false, true, true, .cell⟩], ?_⟩
  conv => whnf
  refine ⟨⟨by simp, rfl⟩, ?_, ?_⟩
  · rintro log vs st' ⟨hall, rfl⟩ ho
    rw [hobt] at ho
    obtain ⟨pre, s, suf, rfl, rfl, rfl⟩ := ho
    have htk : (pre ++ s :: suf).take (spRows pre).length = pre := by rw [spRows_len]; simp
    have htk1 : (pre ++ s :: suf).take (spRows pre ++ [[spV s]]).length = pre ++ [s] := by rw [List.length_append, spRows_len]; show List.take (pre.length + 1) _ = _; rw [List.take_append, List.take_of_length_le (by omega)]; simp
    rw [htk] at hall
    refine ⟨rfl, ?_⟩
    have hfs : isId x s = true → so = some s := fun h => by
      rw [hso, if_pos rfl, List.find?_append, hall]; simp [h]
    have hfn : isId x s = false → (pre ++ [s]).find? (isId x) = none := fun h => by
      rw [List.find?_append, hall]; simp [h]
    obtain ⟨⟨id', kind', text', kids'⟩, ov, lv⟩ := s
    have hid : isId x (T.mk id' kind' text' kids', ov, lv) = decide (id' = x) := rfl
    rw [hid] at hfs hfn
    conv => whnf
    by_cases a1 : id' = x
    · rw [eqB_t a1]
      conv => whnf
      rw [hfs (by simpa using a1)]
      rfl
    · rw [eqB_f a1]
      conv => whnf
      refine ⟨some [0, 1, 2, 3, 4], ?_⟩
      conv => whnf
      rw [htk1]
      exact ⟨hfn (by simpa using a1), rfl⟩
  · refine hcl.mono ?_
    rintro o st' ⟨r, b, log', rfl, rfl, hl⟩
    refine ⟨_, _, _, rfl, rfl, fun hb st' hI => ?_⟩
    obtain ⟨hall, rfl⟩ := hI
    rw [hl hb, List.take_of_length_le (by rw [spRows_len]; omega)] at hall
    conv => whnf
    rw [hso, if_pos rfl, hall]
    rfl

mutual
def overT : T → Int → Int → Int
  | .mk i _ _ kids, x, ov => if i = x then ov else overL kids x i
def overL : List T → Int → Int → Int
  | [], _, _ => -1
  | t :: ts, x, ov => if 0 ≤ overT t x ov then overT t x ov else overL ts x ov
end
def ovO : Option Sp → Int
  | some s => s.2.1
  | none => -1
mutual
theorem overT_eq : ∀ (t : T) (x ov lv : Int), 0 ≤ ov → (∀ i ∈ t.ids, 0 ≤ i) → overT t x ov = ovO ((spT t ov lv).find? (isId x)) ∧ (0 ≤ overT t x ov ↔ ((spT t ov lv).find? (isId x)).isSome = true)
  | .mk i k tx kids, x, ov, lv, h0, hi => by
    have e : isId x (T.mk i k tx kids, ov, lv) = decide (i = x) := rfl
    simp only [T.ids, List.mem_cons, forall_eq_or_imp] at hi
    simp only [overT, spT, List.find?_cons, e]
    by_cases h : i = x
    · simp [h, ovO, h0]
    · simpa [h] using overL_eq kids x i (IntKind.i64.wrap (lv + 1)) hi.1 hi.2
theorem overL_eq : ∀ (ts : List T) (x ov lv : Int), 0 ≤ ov → (∀ i ∈ T.idsL ts, 0 ≤ i) → overL ts x ov = ovO ((spL ts ov lv).find? (isId x)) ∧ (0 ≤ overL ts x ov ↔ ((spL ts ov lv).find? (isId x)).isSome = true)
  | [], x, ov, lv, h0, hi => by simp [overL, spL, ovO]
  | t :: ts, x, ov, lv, h0, hi => by
    simp only [T.idsL, List.mem_append] at hi
    obtain ⟨h1, h2⟩ := overT_eq t x ov lv h0 fun i h => hi i (.inl h)
    obtain ⟨h3, h4⟩ := overL_eq ts x ov lv h0 fun i h => hi i (.inr h)
    simp only [overL, spL, List.find?_append]
    by_cases h : 0 ≤ overT t x ov
    · rw [if_pos h]
      obtain ⟨s, e⟩ := Option.isSome_iff_exists.1 (h2.1 h)
      rw [e] at h1 ⊢
      simp [h1, ovO] at h ⊢
      exact h
    · rw [if_neg h]
      have : (spT t ov lv).find? (isId x) = none := by
        cases e : (spT t ov lv).find? (isId x) with
        | none => rfl
        | some s => exact absurd (h2.2 (by rw [e]; rfl)) h
      rw [this, Option.none_or]
      exact ⟨h3, h4⟩
end

theorem overL_drop (ts : List T) (i : Nat) (h : i < ts.length) (x ov : Int) : overL (ts.drop i) x ov = if 0 ≤ overT ts[i] x ov then overT ts[i] x ov else overL (ts.drop (i + 1)) x ov := by
  rw [List.drop_eq_getElem_cons h]; simp [overL]

theorem l2Over_pure1 (t : T) (hs : t.Small) (x ov : Int) (hT : ∀ t' ∈ t.kids, ∀ ov : Int, Pure Try.prog 14 [.agg t'.cells, .int .i64 x, .int .i64 ov] (· = .int .i64 (overT t' x ov))) :
    Pure Try.prog 14 [.agg t.cells, .int .i64 x, .int .i64 ov] (· = .int .i64 (overT t x ov)) := by
  cases hs with
  | @mk id kind text kids g1 g2 g3 g4 g5 =>
  simp only [T.kids] at hT
  have hlr := rows_len kids
  have hov : overT (.mk id kind text kids) x ov = if id = x then ov else overL kids x id := rfl
  refine pure_of_awp good Try.func14 rfl (by kernel_rfl) (by decide) ?_
  conv => whnf
  by_cases a1 : id = x
  · rw [eqB_t a1]
    conv => whnf
    rw [hov, if_pos a1]
  rw [eqB_f a1]
  conv => whnf
  rw [if_neg a1] at hov
  refine loop_intro (fun n fr st => ∃ i : Nat, n + i = kids.length ∧ st = [⟨[[.int .i64 id, .str kind, .str text, .sl (T.rows kids)]], 4, true, true, true, .cell⟩] ∧ overL kids x id = overL (kids.drop i) x id ∧ Holds fr [(1, .int .i64 x), (3, .ptr 0 0 0), (7, .int .i64 i)]) kids.length
    ⟨0, rfl, rfl, rfl, rfl, rfl, rfl, trivial⟩ ?_
  rintro n fr st ⟨i, hi, rfl, hx, hh⟩
  obtain ⟨fr, rfl⟩ := hh.split
  clear hh
  conv => whnf
  by_cases hlt : i < kids.length
  · rw [ltB_t (by omega)]
    conv => whnf
    refine ⟨by omega, T.rows kids, kids[i].cells, 4, rfl, rows_get kids i hlt, rfl, cells_len _, ?_⟩
    have hc := hT kids[i] (List.getElem_mem _) id
    rw [overL_drop kids i hlt] at hx
    generalize kids[i] = t at hc hx ⊢
    cases t with
    | mk id' kind' text' kids' =>
    conv => whnf
    refine ⟨_, hc, ?_⟩
    by_cases a2 : 0 ≤ overT (.mk id' kind' text' kids') x id
    · conv => whnf
      rw [leB_t a2]
      conv => whnf
      rw [hov, hx, if_pos a2]
    · conv => whnf
      rw [leB_f (by omega)]
      conv => whnf
      rw [if_neg a2] at hx
      refine ⟨n - 1, by omega, i + 1, by omega, rfl, hx, rfl, rfl, ?_, trivial⟩
      show V.int .i64 (IntKind.i64.wrap (i + 1)) = _
      rw [wrap64 (by omega) (by omega)]; simp
  · rw [ltB_f (by omega)]
    conv => whnf
    rw [List.drop_of_length_le (by omega)] at hx
    rw [hov, hx]
    rfl
theorem l2Over_pure (t : T) (hs : t.Small) (x : Int) : ∀ ov : Int, Pure Try.prog 14 [.agg t.cells, .int .i64 x, .int .i64 ov] (· = .int .i64 (overT t x ov)) := by
  induction hs with
  | @mk id kind text kids g1 g2 g3 g4 g5 ih =>
    intro ov
    exact l2Over_pure1 _ (.mk g1 g2 g3 g4 g5) x ov ih

mutual
theorem plainT_ids : ∀ (t : T) (lv : Int), plainT t lv = true → ∀ i ∈ t.ids, 0 ≤ i
  | .mk id kind text kids, lv, h => by
    simp only [plainT, Bool.and_eq_true, decide_eq_true_eq] at h
    simp only [T.ids, List.mem_cons, forall_eq_or_imp]
    exact ⟨by omega, plainL_ids kids _ h.2⟩
theorem plainL_ids : ∀ (ts : List T) (lv : Int), plainL ts lv = true → ∀ i ∈ T.idsL ts, 0 ≤ i
  | [], _, _ => by simp [T.idsL]
  | t :: ts, lv, h => by
    simp only [plainL, Bool.and_eq_true] at h
    simp only [T.idsL, List.mem_append]
    rintro i (hi | hi)
    · exact plainT_ids t lv h.1 i hi
    · exact plainL_ids ts lv h.2 i hi
end
theorem okT_ids {t : T} (h : okT t = true) : ∀ i ∈ t.ids, 0 ≤ i := by
  unfold okT at h
  simp only [Bool.and_eq_true] at h
  exact plainT_ids t 1 h.1.1
def treeOver (t : T) (x : Int) : Int := ovO (spotOf t x)
end Go.Cod

namespace Go.Cod
open Go Go.Proofs
set_option maxRecDepth 10000

mutual
theorem spT_over : ∀ (t : T) (ov lv : Int), ∀ s ∈ spT t ov lv, (s.2.1 = ov ∧ s.2.2 = lv) ∨ ∃ s' ∈ spT t ov lv, idS s' = s.2.1 ∧ s.2.2 = IntKind.i64.wrap (s'.2.2 + 1)
  | .mk id kind text kids, ov, lv => by
    intro s hs
    rcases List.mem_cons.1 hs with rfl | hs
    · exact .inl ⟨rfl, rfl⟩
    · rcases spL_over kids id (IntKind.i64.wrap (lv + 1)) s hs with ⟨h1, h2⟩ | ⟨s', h1, h2⟩
      · exact .inr ⟨_, List.mem_cons_self, h1.symm, h2⟩
      · exact .inr ⟨s', List.mem_cons_of_mem _ h1, h2⟩
theorem spL_over : ∀ (ts : List T) (ov lv : Int), ∀ s ∈ spL ts ov lv, (s.2.1 = ov ∧ s.2.2 = lv) ∨ ∃ s' ∈ spL ts ov lv, idS s' = s.2.1 ∧ s.2.2 = IntKind.i64.wrap (s'.2.2 + 1)
  | [], _, _ => by simp [spL]
  | t :: ts, ov, lv => by
    intro s hs
    rcases List.mem_append.1 hs with hs | hs
    · rcases spT_over t ov lv s hs with h | ⟨s', h1, h2⟩
      · exact .inl h
      · exact .inr ⟨s', List.mem_append_left _ h1, h2⟩
    · rcases spL_over ts ov lv s hs with h | ⟨s', h1, h2⟩
      · exact .inl h
      · exact .inr ⟨s', List.mem_append_right _ h1, h2⟩
end
mutual
theorem spT_low : ∀ (t : T) (ov lv : Int), 0 ≤ lv → plainT t lv = true → ∀ s ∈ spT t ov lv, lv ≤ s.2.2
  | .mk id kind text kids, ov, lv, h0, h => by
    simp only [plainT, Bool.and_eq_true, Bool.not_eq_true', decide_eq_false_iff_not] at h
    have hw : IntKind.i64.wrap (lv + 1) = lv + 1 := wrap64 (by omega) (by omega)
    intro s hs
    rcases List.mem_cons.1 hs with rfl | hs
    · exact Int.le_refl _
    · rw [hw] at hs
      have := spL_low kids id (lv + 1) (by omega) h.2 s hs
      omega
theorem spL_low : ∀ (ts : List T) (ov lv : Int), 0 ≤ lv → plainL ts lv = true → ∀ s ∈ spL ts ov lv, lv ≤ s.2.2
  | [], _, _, _, _ => by simp [spL]
  | t :: ts, ov, lv, h0, h => by
    simp only [plainL, Bool.and_eq_true] at h
    intro s hs
    rcases List.mem_append.1 hs with hs | hs
    · exact spT_low t ov lv h0 h.1 s hs
    · exact spL_low ts ov lv h0 h.2 s hs
end
mutual
theorem plainT_pos : ∀ (t : T) (lv : Int), plainT t lv = true → ∀ i ∈ t.ids, 1 ≤ i
  | .mk id kind text kids, lv, h => by
    simp only [plainT, Bool.and_eq_true, decide_eq_true_eq] at h
    simp only [T.ids, List.mem_cons, forall_eq_or_imp]
    exact ⟨by omega, plainL_pos kids _ h.2⟩
theorem plainL_pos : ∀ (ts : List T) (lv : Int), plainL ts lv = true → ∀ i ∈ T.idsL ts, 1 ≤ i
  | [], _, _ => by simp [T.idsL]
  | t :: ts, lv, h => by
    simp only [plainL, Bool.and_eq_true] at h
    simp only [T.idsL, List.mem_append]
    rintro i (hi | hi)
    · exact plainT_pos t lv h.1 i hi
    · exact plainL_pos ts lv h.2 i hi
end
theorem nodup_inj {l : List Sp} (h : (l.map idS).Nodup) {s s' : Sp} (h1 : s ∈ l) (h2 : s' ∈ l) (e : idS s = idS s') : s = s' := by
  induction l with
  | nil => simp at h1
  | cons a l ih =>
    simp only [List.map_cons, List.nodup_cons, List.mem_map, not_exists, not_and] at h
    rcases List.mem_cons.1 h1 with q1 | q1
    · rcases List.mem_cons.1 h2 with q2 | q2
      · rw [q1, q2]
      · exact absurd (by rw [← e, q1]) (h.1 s' q2)
    · rcases List.mem_cons.1 h2 with q2 | q2
      · exact absurd (by rw [e, q2]) (h.1 s q1)
      · exact ih h.2 q1 q2
theorem find_of {l : List Sp} (h : (l.map idS).Nodup) {s : Sp} (h1 : s ∈ l) : l.find? (isId (idS s)) = some s := by
  cases e : l.find? (isId (idS s)) with
  | none => exact absurd (List.find?_eq_none.1 e s h1) (by simp [isId])
  | some s' =>
    have h2 := List.mem_of_find?_eq_some e
    have h3 := List.find?_some e
    simp [isId] at h3
    rw [nodup_inj h h2 h1 h3]

def lvO : Option Sp → Int
  | some s => s.2.2
  | none => 0
def treeLevel (t : T) (x : Int) : Int := lvO (spotOf t x)

/-- One step up. -/
theorem up_step {t : T} (h : okT t = true) {x : Int} {s : Sp} (hx : spotOf t x = some s) :
    overT t x 0 = s.2.1 ∧ 1 ≤ s.2.2 ∧ s.2.2 ≤ 6 ∧ 1 ≤ x ∧ 0 ≤ s.2.1 ∧ ((s.2.1 = 0 ∧ s.2.2 = 1) ∨ ∃ s', spotOf t s.2.1 = some s' ∧ s'.2.2 + 1 = s.2.2 ∧ 1 ≤ s.2.1) := by
  have hall := (okT_iff t).1 h
  have hpl : plainT t 1 = true := by unfold okT at h; simp only [Bool.and_eq_true] at h; exact h.1.1
  have hso : ∀ y, spotOf t y = (spT t 0 1).find? (isId y) := fun y => by unfold spotOf; rw [if_pos h]
  rw [hso] at hx
  have hm := List.mem_of_find?_eq_some hx
  have hi := List.find?_some hx
  simp [isId] at hi
  have h1 := (overT_eq t x 0 1 (by omega) (okT_ids h)).1
  rw [hx] at h1
  have h2 := spT_low t 0 1 (by omega) hpl s hm
  have h3 := (hall.1 s hm).1
  have hids := spT_ids t 0 1
  have hp : ∀ s' ∈ spT t 0 1, 1 ≤ idS s' := fun s' hs' => plainT_pos t 1 hpl _ (by rw [← hids]; exact List.mem_map_of_mem hs')
  have h4 := hp s hm
  rw [hi] at h4
  rcases spT_over t 0 1 s hm with ⟨e1, e2⟩ | ⟨s', m', e1, e2⟩
  · exact ⟨h1, h2, h3, h4, by omega, .inl ⟨e1, e2⟩⟩
  · have h5 := spT_low t 0 1 (by omega) hpl s' m'
    have h6 := (hall.1 s' m').1
    rw [wrap64 (by omega) (by omega)] at e2
    have h7 := hp s' m'
    refine ⟨h1, h2, h3, h4, by omega, .inr ⟨s', ?_, by omega, by omega⟩⟩
    rw [hso, ← e1]
    exact find_of hall.2.1 m'

theorem specTreeLevel_pure (t : T) (hs : t.Small) (hn : t.ids.length ≤ 1048577) (x : Int) : Pure Try.prog 6 [.agg t.cells, .int .i64 x] (· = .int .i64 (treeLevel t x)) := by
  have h1 := specTreeOk_pure t hs hn
  have h2 := l2Over_pure t hs
  have h3 : okT t = false → treeLevel t x = 0 := fun h => by unfold treeLevel spotOf; rw [h]; rfl
  have h4 : okT t = true → ∀ y s, spotOf t y = some s → _ := fun h y s => up_step h
  have h5 : okT t = true → ∀ y, spotOf t y = none → overT t y 0 = -1 := fun h y e => by
    have := (overT_eq t y 0 1 (by omega) (okT_ids h)).1
    unfold spotOf at e; rw [if_pos h] at e; rw [e] at this; exact this
  have h6 : treeLevel t x = lvO (spotOf t x) := rfl
  generalize treeLevel t x = r at *
  generalize okT t = okt at *
  generalize hsp : spotOf t = sp at *
  generalize hov : overT t = ov at *
  cases t with
  | mk id kind text kids =>
  refine pure_of_awp good Try.func6 rfl (by kernel_rfl) (by decide) ?_
  conv => whnf
  refine .inl (h1.mono ?_)
  rintro r rfl
  cases okt
  · conv => whnf
    rw [h3 rfl]
  have h4 := h4 rfl
  have h5 := h5 rfl
  have hr6 : r ≤ 6 := by
    rw [h6]
    cases e : sp x with
    | none => simp [lvO]
    | some s => exact (h4 x s e).2.2.1
  conv => whnf
  refine loop_intro (fun m fr st => st = [⟨[[.int .i64 id, .str kind, .str text, .sl (T.rows kids)]], 4, true, true, true, .cell⟩] ∧ ∃ n y : Int, Holds fr [(2, .ptr 0 0 0), (5, .int .i64 n), (6, .int .i64 y)] ∧ 0 ≤ n ∧ n ≤ 7 ∧
      ((m = 0 ∧ y ≤ 0 ∧ r = n) ∨ (m = 10 ∧ sp y = none ∧ r = 0 ∧ n = 0) ∨ ∃ s, sp y = some s ∧ n + s.2.2 = r ∧ m = s.2.2.toNat)) (match sp x with | some s => s.2.2.toNat | none => 10)
    ⟨rfl, 0, x, ⟨rfl, rfl, rfl, trivial⟩, by omega, by omega, ?_⟩ ?_
  · rw [h6]
    cases e : sp x with
    | none => exact .inr (.inl ⟨rfl, rfl, rfl, rfl⟩)
    | some s => exact .inr (.inr ⟨s, rfl, by simp [lvO], rfl⟩)
  rintro m fr st ⟨rfl, n, y, hh, hn0, hn7, hc⟩
  obtain ⟨fr, rfl⟩ := hh.split
  clear hh
  conv => whnf
  by_cases hy : 0 < y
  · rw [ltB_t hy]
    conv => whnf
    refine .inl ((h2 y 0).mono ?_)
    rintro r rfl
    conv => whnf
    rcases hc with ⟨_, hle, _⟩ | ⟨rfl, hno, hr, hn⟩ | ⟨s, hso, hr, rfl⟩
    · omega
    · rw [h5 y hno, ltB_t (by omega)]
      conv => whnf
      rw [hr]
    · obtain ⟨q1, q2, q3, q4, q5, q6⟩ := h4 y s hso
      rw [q1, ltB_f q5]
      conv => whnf
      rw [wrap64 (by omega) (by omega)]
      rcases q6 with ⟨q6, q7⟩ | ⟨s', q6, q7, q8⟩
      · exact ⟨0, by omega, rfl, n + 1, s.2.1, ⟨rfl, rfl, rfl, trivial⟩, by omega, by omega, .inl ⟨rfl, by omega, by omega⟩⟩
      · obtain ⟨p1, p2, _⟩ := h4 _ s' q6
        exact ⟨s'.2.2.toNat, by omega, rfl, n + 1, s.2.1, ⟨rfl, rfl, rfl, trivial⟩, by omega, by omega, .inr (.inr ⟨s', q6, by omega, rfl⟩)⟩
  · rw [ltB_f (by omega)]
    conv => whnf
    rcases hc with ⟨_, _, hr⟩ | ⟨_, hno, hr, hn⟩ | ⟨s, hso, hr, rfl⟩
    · rw [hr]
    · rw [hr, hn]
    · obtain ⟨q1, q2, q3, q4, q5, q6⟩ := h4 y s hso
      omega
theorem implTreeLevel_pure (t : T) (hs : t.Small) (x : Int) : Pure Try.prog 8 [.agg t.cells, .int .i64 x] (· = .int .i64 (treeLevel t x)) := by
  have h1 := treeSpotOf_pure t hs x
  have h2 : treeLevel t x = lvO (spotOf t x) := rfl
  generalize treeLevel t x = r at *
  generalize spotOf t x = so at *
  cases t with
  | mk id kind text kids =>
  refine pure_of_awp good Try.func8 rfl (by kernel_rfl) (by decide) ?_
  conv => whnf
  refine .inl (h1.mono ?_)
  rintro r rfl
  cases so with
  | none =>
    conv => whnf
    rw [h2]; rfl
  | some s =>
    obtain ⟨⟨id', kind', text', kids'⟩, ov, lv⟩ := s
    conv => whnf
    rw [h2]; rfl
end Go.Cod

namespace Go.Cod
open Go Go.Proofs Go.ChangeShapes Go.WideShapes Go.ChangeAt Go.RowKit
set_option maxRecDepth 10000

theorem neq_refl (a : Int) : negB (eqB a a) = false := by rw [eqB_refl]; rfl

theorem lawFnExactTreeLevel (t : T) (ht : t.Ok) (x : Int) (_ : IntKind.i64.min ≤ x ∧ x ≤ IntKind.i64.max) : Pure Try.prog 3 [.agg t.cells, .int .i64 x] (· = .bool true) := by
  have hsz := szT_pure t ht 1048576 (by omega) (by omega)
  have hsm := small_of_sz t ht 1048576 (by omega)
  have hsl := szT_le t 1048576 (by omega)
  have hid := ids_sz t 1048576
  have e1 := toTree_pure t
  have e2 := eqTree_pure t
  have hs := fun h1 h2 => specTreeLevel_pure t h1 h2 x
  have hi := fun h1 => implTreeLevel_pure t h1 x
  generalize hl : szT t 1048576 = left at *
  generalize treeLevel t x = o at *
  cases t with
  | mk id kind text kids =>
  refine pure_of_awp good Try.func3 rfl (by kernel_rfl) (by decide) ?_
  conv => whnf
  refine .inl (hsz.mono ?_)
  rintro r rfl
  conv => whnf
  by_cases a1 : left < 0
  · rw [ltB_t a1]
    conv => whnf
  rw [ltB_f (by omega)]
  have hS := hsm (by omega)
  conv => whnf
  refine .inl ((e1 hS).mono ?_)
  rintro r rfl
  conv => whnf
  refine .inl ((hs hS (by have := hid (by omega); omega)).mono ?_)
  rintro r rfl
  conv => whnf
  refine .inl ((e1 hS).mono ?_)
  rintro r rfl
  conv => whnf
  refine .inl ((hi hS).mono ?_)
  rintro r rfl
  conv => whnf
  rw [neq_refl]
  conv => whnf
  refine ⟨_, e1 hS, ?_⟩
  conv => whnf
  refine ⟨_, e2 hS, ?_⟩
  conv => whnf

theorem ownK : ownKnob Try.prog.godebug = none := by kernel_rfl
theorem argTree {H : Type} {enc : TypeId × Value → H} {W : World} : ReadsA enc Try.prog W 24 fun x => ∃ vs, x = .agg vs ∧ ∃ t : T, vs = t.cells ∧ t.Ok := readsA_agg Try.underlying24 fun n => reads_tree n

theorem conFnExactTreeLevel (H : Type) (enc : TypeId × Value → H) (W : World) (base : Nat) (args : Array Value) (ds gs : List (DataW H)) (before : List MemPlace)
    (hval : ∀ (j : Nat) t v, Try.f3.params[j]? = some t → args[j]? = some v → Value.okWide Try.prog W .any base t v)
    (hW : DataW.Whole enc Try.prog Try.f3.params.toList Yticbjpcfpfnccab.Rows.fnExactTreeLevelSpec.vars false W args.toList ds gs before) {fresh handsOn again : Bool} :
    Calls Try.prog 3 args W fun e W' => ∃ v, e = .returned v ∧ Yticbjpcfpfnccab.Rows.fnExactTreeLevelSpec.post enc Try.prog Try.f3 false fresh handsOn again W args v W' := by
  refine law_calls kids full (tb := 4) rfl Try.underlying4 (by decide +kernel) rfl hW (fun ds h => by match ds, h with | [_, _], _ => exact ⟨rfl, rfl, rfl⟩) hval
    (Ss := [fun x => ∃ vs, x = .agg vs ∧ ∃ t : T, vs = t.cells ∧ t.Ok, fun x => ∃ i, [x] = [.int .i64 i] ∧ IntKind.i64.min ≤ i ∧ i ≤ IntKind.i64.max]) ?_ ?_
  · rw [Try.params3]
    exact ⟨argTree, readsA_int Try.underlying3, trivial⟩
  · intro xs h
    obtain ⟨_, _, rfl, ⟨_, rfl, t0, rfl, h0⟩, ⟨t1, e1, h1⟩⟩ := hold2 h
    cases e1
    exact lawFnExactTreeLevel t0 h0 t1 h1

set_option maxRecDepth 100000 in
theorem overFnExactTreeLevel : Yticbjpcfpfnccab.Rows.FnExactTreeLevelSaid :=
  OpenClaim.holds_of_wide 3 Try.f3 rfl rfl rfl rfl rfl rfl rfl ⟨rfl, rfl, rfl, rfl, rfl⟩ rfl rfl rfl rfl rfl (by kernel_rfl) Try.func3 (by kernel_rfl)
    (of_decide_eq_true (by kernel_rfl)) (by unfold Func.isWrapper; first | (rw [if_pos (by decide +kernel)]; kernel_rfl) | (rw [if_neg (by decide +kernel)]; exact ⟨rfl, rfl⟩))
    (fun os started H enc _ => returnsInHanded_of_change ownK started (by kernel_rfl) Try.func3
      (ChangeSpec.witness6 (enc := enc) (C := Try.checked) false ⟨#[], #[.agg #[.int .i64 0, .string "".toByteArray, .string "".toByteArray, .slice none 0 0], .int .i64 0], []⟩ 8 (by kernel_rfl) (by kernel_rfl) (by kernel_rfl) (by kernel_rfl))
      (fun W base args ds gs before hval hW _ _ => conFnExactTreeLevel H enc W base args ds gs before hval hW))
end Go.Cod

