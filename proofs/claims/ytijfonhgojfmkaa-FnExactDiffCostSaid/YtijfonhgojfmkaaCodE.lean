/- Own texts. -/
import Derived.Test.YtijfonhgojfmkaaChecked
import Derived.Test.YtijfonhgojfmkaaRows
import Derived.WalkKit
import Derived.ProofKit
import Derived.OpenShut
import Derived.JoinedOf
import Derived.Handed
import Derived.Test.YtijfonhgojfmkaaCodD
namespace Go.Cod
open Go Go.Proofs
instance lam0 : Lam := ⟨fun _ => none, fun g => Nat.beq g 101, fun g => Nat.beq g 41 || Nat.beq g 42, fun g => Nat.beq g 33 || Nat.beq g 50⟩
theorem laid0 {Pr : Nat → Nat → Prop} {w : World} : Laid Pr w := fun g cs h => by cases h

def tauL : List (Nat × TI) := [
  (1, ⟨.other, 1, 8, .raw .nilFunc, [], [], false⟩),
  (2, ⟨.int .i64, 1, 8, .int .i64 0, [], [], false⟩),
  (3, ⟨.int .i64, 1, 8, .int .i64 0, [], [], false⟩),
  (4, ⟨.bool, 1, 1, .bool false, [], [], false⟩),
  (5, ⟨.int .u8, 1, 1, .int .u8 0, [], [], false⟩),
  (6, ⟨.int .u8, 1, 1, .int .u8 0, [], [], false⟩),
  (7, ⟨.agg, 4, 24, .agg [.int .i64 0, .int .i64 0, .bool false, .int .u8 0], [(0, 1, false), (1, 1, false), (2, 1, false), (3, 1, false)], [], false⟩),
  (8, ⟨.agg, 4, 24, .agg [.int .i64 0, .int .i64 0, .bool false, .int .u8 0], [(0, 1, false), (1, 1, false), (2, 1, false), (3, 1, false)], [], false⟩),
  (9, ⟨.str, 1, 16, .str [], [], [], false⟩),
  (10, ⟨.str, 1, 16, .str [], [], [], false⟩),
  (11, ⟨.str, 1, 16, .str [], [], [], false⟩),
  (12, ⟨.int .u64, 1, 8, .int .u64 0, [], [], false⟩),
  (13, ⟨.agg, 2, 24, .agg [.str [], .int .u64 0], [(0, 1, false), (1, 1, false)], [], false⟩),
  (14, ⟨.agg, 2, 24, .agg [.str [], .int .u64 0], [(0, 1, false), (1, 1, false)], [], false⟩),
  (15, ⟨.ptr, 1, 8, .raw (.pointer none), [], [], false⟩),
  (16, ⟨.ptr, 1, 8, .raw (.pointer none), [], [], false⟩),
  (17, ⟨.ptr, 1, 8, .raw (.pointer none), [], [], false⟩),
  (18, ⟨.agg, 1, 8, .agg [.raw (.pointer none)], [(0, 1, false)], [], false⟩),
  (19, ⟨.agg, 1, 8, .agg [.raw (.pointer none)], [(0, 1, false)], [], false⟩),
  (20, ⟨.iface, 1, 16, .raw .nilIface, [], [], false⟩),
  (21, ⟨.int .i32, 1, 4, .int .i32 0, [], [], false⟩),
  (22, ⟨.slice 5, 1, 24, .nils, [], [], false⟩),
  (23, ⟨.slice 25, 1, 24, .nils, [], [], false⟩),
  (24, ⟨.agg, 4, 64, .agg [.int .i64 0, .str [], .str [], .nils], [(0, 1, false), (1, 1, false), (2, 1, false), (3, 1, false)], [], false⟩),
  (25, ⟨.agg, 4, 64, .agg [.int .i64 0, .str [], .str [], .nils], [(0, 1, false), (1, 1, false), (2, 1, false), (3, 1, false)], [], false⟩),
  (27, ⟨.other, 1, 8, .raw .nilFunc, [], [], false⟩),
  (28, ⟨.other, 1, 8, .raw .nilFunc, [], [], false⟩),
  (29, ⟨.other, 1, 8, .raw .nilFunc, [], [], false⟩),
  (30, ⟨.other, 1, 8, .raw .nilFunc, [], [], false⟩),
  (31, ⟨.other, 1, 8, .raw .nilFunc, [], [], false⟩),
  (32, ⟨.other, 1, 8, .raw .nilFunc, [], [], false⟩),
  (33, ⟨.slice 3, 1, 24, .nils, [], [], false⟩),
  (34, ⟨.other, 1, 8, .raw .nilFunc, [], [], false⟩),
  (35, ⟨.agg, 8, 104, .agg [.int .i64 0, .int .i64 0, .int .i64 0, .int .i64 0, .str [], .str [], .nils, .str []], [(0, 1, false), (1, 1, false), (2, 1, false), (3, 4, true), (7, 1, false)], [], false⟩),
  (36, ⟨.agg, 8, 104, .agg [.int .i64 0, .int .i64 0, .int .i64 0, .int .i64 0, .str [], .str [], .nils, .str []], [(0, 1, false), (1, 1, false), (2, 1, false), (3, 4, true), (7, 1, false)], [], false⟩),
  (38, ⟨.other, 1, 8, .raw .nilFunc, [], [], false⟩),
  (40, ⟨.other, 1, 8, .raw .nilFunc, [], [], false⟩),
  (41, ⟨.other, 1, 8, .raw .nilFunc, [], [], false⟩),
  (42, ⟨.slice 44, 1, 24, .nils, [], [], false⟩),
  (43, ⟨.agg, 4, 64, .agg [.int .i64 0, .str [], .str [], .nils], [(0, 1, false), (1, 1, false), (2, 1, false), (3, 1, false)], [], false⟩),
  (44, ⟨.agg, 4, 64, .agg [.int .i64 0, .str [], .str [], .nils], [(0, 1, false), (1, 1, false), (2, 1, false), (3, 1, false)], [], false⟩),
  (45, ⟨.other, 1, 8, .raw .nilFunc, [], [], false⟩),
  (46, ⟨.other, 1, 8, .raw .nilFunc, [], [], false⟩),
  (47, ⟨.other, 1, 8, .raw .nilFunc, [], [], false⟩),
  (48, ⟨.slice 91, 1, 24, .nils, [], [], false⟩),
  (49, ⟨.other, 1, 8, .raw .nilFunc, [], [], false⟩),
  (50, ⟨.slice 33, 1, 24, .nils, [], [], false⟩),
  (51, ⟨.other, 1, 8, .raw .nilFunc, [], [], false⟩),
  (52, ⟨.other, 1, 8, .raw .nilFunc, [], [], false⟩),
  (53, ⟨.ptr, 1, 8, .raw (.pointer none), [], [("loop.example/codicil/spec.add", 27), ("loop.example/codicil/spec.keys", 28)], false⟩),
  (54, ⟨.slice 9, 1, 24, .nils, [], [], false⟩),
  (55, ⟨.agg, 2, 48, .agg [.nils, .nils], [(0, 1, false), (1, 1, false)], [], false⟩),
  (56, ⟨.agg, 2, 48, .agg [.nils, .nils], [(0, 1, false), (1, 1, false)], [], false⟩),
  (57, ⟨.other, 1, 8, .raw .nilFunc, [], [], false⟩),
  (58, ⟨.other, 1, 8, .raw .nilFunc, [], [], false⟩),
  (59, ⟨.other, 1, 8, .raw .nilFunc, [], [], false⟩),
  (60, ⟨.map 3 4, 1, 8, .raw (.map none), [], [], false⟩),
  (61, ⟨.other, 1, 8, .raw .nilFunc, [], [], false⟩),
  (62, ⟨.other, 1, 8, .raw .nilFunc, [], [], false⟩),
  (63, ⟨.other, 1, 8, .raw .nilFunc, [], [], false⟩),
  (64, ⟨.agg, 6, 80, .agg [.int .i64 0, .str [], .str [], .nils, .int .i64 0, .int .i64 0], [(0, 4, true), (4, 1, false), (5, 1, false)], [], false⟩),
  (65, ⟨.agg, 6, 80, .agg [.int .i64 0, .str [], .str [], .nils, .int .i64 0, .int .i64 0], [(0, 4, true), (4, 1, false), (5, 1, false)], [], false⟩),
  (66, ⟨.other, 1, 8, .raw .nilFunc, [], [], false⟩),
  (67, ⟨.other, 1, 8, .raw .nilFunc, [], [], false⟩),
  (68, ⟨.ptr, 1, 8, .raw (.pointer none), [], [("loop.example/codicil/spec.of", 64), ("loop.example/codicil/spec.pick", 38)], false⟩),
  (69, ⟨.other, 1, 8, .raw .nilFunc, [], [], false⟩),
  (70, ⟨.other, 1, 8, .raw .nilFunc, [], [], false⟩),
  (71, ⟨.other, 1, 8, .raw .nilFunc, [], [], false⟩),
  (72, ⟨.ptr, 1, 8, .raw (.pointer none), [], [], false⟩),
  (73, ⟨.other, 1, 8, .raw .nilFunc, [], [], false⟩),
  (74, ⟨.other, 1, 8, .raw .nilFunc, [], [], false⟩),
  (75, ⟨.iface, 1, 16, .raw .nilIface, [], [], false⟩),
  (76, ⟨.iface, 1, 16, .raw .nilIface, [], [], false⟩),
  (78, ⟨.other, 1, 8, .raw .nilFunc, [], [], false⟩),
  (79, ⟨.other, 1, 8, .raw .nilFunc, [], [], false⟩),
  (80, ⟨.other, 1, 8, .raw .nilFunc, [], [], false⟩),
  (81, ⟨.other, 1, 8, .raw .nilFunc, [], [], false⟩),
  (83, ⟨.other, 1, 8, .raw .nilFunc, [], [], false⟩),
  (84, ⟨.other, 1, 8, .raw .nilFunc, [], [], false⟩),
  (85, ⟨.other, 1, 8, .raw .nilFunc, [], [], false⟩),
  (86, ⟨.other, 1, 8, .raw .nilFunc, [], [], false⟩),
  (87, ⟨.other, 1, 8, .raw .nilFunc, [], [], false⟩),
  (88, ⟨.other, 1, 8, .raw .nilFunc, [], [], false⟩),
  (89, ⟨.other, 1, 8, .raw .nilFunc, [], [], false⟩),
  (90, ⟨.agg, 3, 40, .agg [.str [], .str [], .int .i64 0], [(0, 1, false), (1, 1, false), (2, 1, false)], [], false⟩),
  (91, ⟨.agg, 3, 40, .agg [.str [], .str [], .int .i64 0], [(0, 1, false), (1, 1, false), (2, 1, false)], [], false⟩),
  (92, ⟨.other, 1, 8, .raw .nilFunc, [], [], false⟩),
  (93, ⟨.other, 1, 8, .raw .nilFunc, [], [], false⟩),
  (94, ⟨.other, 1, 8, .raw .nilFunc, [], [], false⟩),
  (95, ⟨.other, 1, 8, .raw .nilFunc, [], [], false⟩),
  (96, ⟨.other, 1, 8, .raw .nilFunc, [], [], false⟩),
  (97, ⟨.other, 1, 8, .raw .nilFunc, [], [], false⟩),
  (98, ⟨.other, 1, 8, .raw .nilFunc, [], [], false⟩),
  (99, ⟨.other, 1, 8, .raw .nilFunc, [], [], false⟩),
  (100, ⟨.other, 1, 8, .raw .nilFunc, [], [], false⟩),
  (101, ⟨.agg, 2, 32, .agg [.nils, .int .i64 0], [(0, 1, false), (1, 1, false)], [], false⟩),
  (102, ⟨.agg, 2, 32, .agg [.nils, .int .i64 0], [(0, 1, false), (1, 1, false)], [], false⟩),
  (103, ⟨.other, 1, 8, .raw .nilFunc, [], [], false⟩),
  (104, ⟨.other, 1, 8, .raw .nilFunc, [], [], false⟩),
  (105, ⟨.other, 1, 8, .raw .nilFunc, [], [], false⟩),
  (106, ⟨.agg, 6, 80, .agg [.int .i64 0, .int .i64 0, .int .i64 0, .str [], .str [], .nils], [(0, 1, false), (1, 1, false), (2, 4, true)], [], false⟩),
  (107, ⟨.agg, 6, 80, .agg [.int .i64 0, .int .i64 0, .int .i64 0, .str [], .str [], .nils], [(0, 1, false), (1, 1, false), (2, 4, true)], [("loop.example/codicil/impl.do", 97), ("loop.example/codicil/impl.undo", 98)], false⟩),
  (108, ⟨.agg, 1, 8, .agg [.int .i64 0], [(0, 1, false)], [], false⟩),
  (109, ⟨.agg, 1, 8, .agg [.int .i64 0], [(0, 1, false)], [("loop.example/codicil/impl.do", 105), ("loop.example/codicil/impl.undo", 106)], false⟩),
  (110, ⟨.other, 1, 8, .raw .nilFunc, [], [], false⟩),
  (111, ⟨.agg, 2, 24, .agg [.int .i64 0, .str []], [(0, 1, false), (1, 1, false)], [], false⟩),
  (112, ⟨.agg, 2, 24, .agg [.int .i64 0, .str []], [(0, 1, false), (1, 1, false)], [("loop.example/codicil/impl.do", 112), ("loop.example/codicil/impl.undo", 113)], false⟩),
  (113, ⟨.agg, 2, 24, .agg [.int .i64 0, .str []], [(0, 1, false), (1, 1, false)], [], false⟩),
  (114, ⟨.agg, 2, 24, .agg [.int .i64 0, .str []], [(0, 1, false), (1, 1, false)], [("loop.example/codicil/impl.do", 114), ("loop.example/codicil/impl.undo", 115)], false⟩),
  (115, ⟨.ptr, 1, 8, .raw (.pointer none), [], [], false⟩),
  (116, ⟨.other, 1, 8, .raw .nilFunc, [], [], false⟩),
  (117, ⟨.other, 1, 8, .raw .nilFunc, [], [], false⟩),
  (118, ⟨.other, 1, 8, .raw .nilFunc, [], [], false⟩),
  (119, ⟨.other, 1, 8, .raw .nilFunc, [], [], false⟩),
  (120, ⟨.other, 1, 8, .raw .nilFunc, [], [], false⟩),
  (121, ⟨.slice 128, 1, 24, .nils, [], [], false⟩),
  (122, ⟨.agg, 2, 40, .agg [.str [], .nils], [(0, 1, false), (1, 1, false)], [], false⟩),
  (123, ⟨.agg, 2, 40, .agg [.str [], .nils], [(0, 1, false), (1, 1, false)], [], false⟩),
  (124, ⟨.other, 1, 8, .raw .nilFunc, [], [], false⟩),
  (125, ⟨.other, 1, 8, .raw .nilFunc, [], [], false⟩),
  (126, ⟨.slice 131, 1, 24, .nils, [], [], false⟩),
  (127, ⟨.agg, 3, 48, .agg [.str [], .bool false, .nils], [(0, 1, false), (1, 1, false), (2, 1, false)], [], false⟩),
  (128, ⟨.agg, 3, 48, .agg [.str [], .bool false, .nils], [(0, 1, false), (1, 1, false), (2, 1, false)], [], false⟩),
  (129, ⟨.other, 1, 8, .raw .nilFunc, [], [], false⟩),
  (130, ⟨.agg, 3, 24, .agg [.str [], .bool false, .bool false], [(0, 1, false), (1, 1, false), (2, 1, false)], [], false⟩),
  (131, ⟨.agg, 3, 24, .agg [.str [], .bool false, .bool false], [(0, 1, false), (1, 1, false), (2, 1, false)], [], false⟩),
  (132, ⟨.other, 1, 8, .raw .nilFunc, [], [], false⟩),
  (133, ⟨.other, 1, 8, .raw .nilFunc, [], [], false⟩),
  (134, ⟨.other, 1, 8, .raw .nilFunc, [], [], false⟩),
  (135, ⟨.agg, 4, 40, .agg [.raw (.pointer none), .raw (.pointer none), .raw (.pointer none), .str []], [(0, 1, false), (1, 1, false), (2, 1, false), (3, 1, false)], [], false⟩),
  (136, ⟨.agg, 4, 40, .agg [.raw (.pointer none), .raw (.pointer none), .raw (.pointer none), .str []], [(0, 1, false), (1, 1, false), (2, 1, false), (3, 1, false)], [], false⟩),
  (140, ⟨.other, 1, 8, .raw .nilFunc, [], [], false⟩),
  (141, ⟨.int .u32, 1, 4, .int .u32 0, [], [], false⟩),
  (142, ⟨.int .u8, 1, 1, .int .u8 0, [], [], false⟩),
  (143, ⟨.int .u8, 1, 1, .int .u8 0, [], [], false⟩),
  (144, ⟨.other, 1, 8, .raw .nilFunc, [], [], false⟩),
  (145, ⟨.ptr, 1, 8, .raw (.pointer none), [], [], false⟩),
  (146, ⟨.int .i32, 1, 4, .int .i32 0, [], [], false⟩),
  (147, ⟨.int .i32, 1, 4, .int .i32 0, [], [], false⟩),
  (148, ⟨.agg, 11, 48, .agg [.int .u64 0, .int .u64 0, .int .u32 0, .int .u8 0, .int .u8 0, .int .u8 0, .int .u8 0, .raw .nilFunc, .raw (.pointer none), .int .i32 0, .int .i32 0], [(0, 1, false), (1, 1, false), (2, 1, false), (3, 1, false), (4, 1, false), (5, 1, false), (6, 1, false), (7, 1, false), (8, 1, false), (9, 1, false), (10, 1, false)], [], false⟩),
  (149, ⟨.agg, 11, 48, .agg [.int .u64 0, .int .u64 0, .int .u32 0, .int .u8 0, .int .u8 0, .int .u8 0, .int .u8 0, .raw .nilFunc, .raw (.pointer none), .int .i32 0, .int .i32 0], [(0, 1, false), (1, 1, false), (2, 1, false), (3, 1, false), (4, 1, false), (5, 1, false), (6, 1, false), (7, 1, false), (8, 1, false), (9, 1, false), (10, 1, false)], [], false⟩),
  (150, ⟨.other, 1, 8, .raw .nilFunc, [], [], false⟩),
  (151, ⟨.other, 1, 8, .raw .nilFunc, [], [], false⟩),
  (152, ⟨.other, 1, 8, .raw .nilFunc, [], [], false⟩),
  (153, ⟨.other, 1, 8, .raw .nilFunc, [], [], false⟩),
  (154, ⟨.other, 1, 8, .raw .nilFunc, [], [], false⟩),
  (155, ⟨.other, 1, 8, .raw .nilFunc, [], [], false⟩),
  (156, ⟨.other, 1, 8, .raw .nilFunc, [], [], false⟩),
  (157, ⟨.other, 1, 8, .raw .nilFunc, [], [], false⟩)]
theorem good : TauGood Try.prog (tauOf tauL) := tauGood (by kernel_rfl) (by kernel_rfl) (by decide)
end Go.Cod

namespace Go.Cod
open Go Go.Proofs
set_option maxRecDepth 10000
theorem l1In_pure (a b c : Int) : Pure Try.prog 60 [.int .i64 a, .int .i64 b, .int .i64 c] (· = .bool (decide (b ≤ a ∧ a ≤ c))) := by
  refine pure_of_awp good Try.func60 rfl (by kernel_rfl) (by decide) ?_
  conv => whnf
  by_cases h1 : b ≤ a
  · rw [leB_t h1]
    conv => whnf
    simp [h1, leB_def]
  · rw [leB_f (by omega)]
    conv => whnf
    simp [h1]

def lowerB (c : UInt8) : Bool := decide (97 ≤ c.toNat ∧ c.toNat ≤ 122)
def lower (s : List UInt8) : Bool := s.all lowerB
def nameL (s : List UInt8) : Bool := lower s && decide (1 ≤ (s.length : Int) ∧ (s.length : Int) ≤ 8)
theorem take_all {p : UInt8 → Bool} {s : List UInt8} {i : Nat} (h : i < s.length) : (s.take (i + 1)).all p = ((s.take i).all p && p s[i]) := by
  rw [List.take_succ_eq_append_getElem h, List.all_append]; simp
theorem l2Name_pure (s : List UInt8) (hs : s.length ≤ 9223372036854775806) : Pure Try.prog 61 [.str s] (· = .bool (nameL s)) := by
  refine pure_of_awp good Try.func61 rfl (by kernel_rfl) (by decide) ?_
  conv => whnf
  refine loop_intro (fun n fr st => st = [] ∧ ∃ i : Nat, n + i = s.length ∧ lower (s.take i) = true ∧ Holds fr [(0, .str s), (3, .int .i64 i)]) s.length ⟨rfl, 0, rfl, rfl, rfl, rfl, trivial⟩ ?_
  rintro n fr st ⟨rfl, i, hi, hlow, hh⟩
  obtain ⟨fr, rfl⟩ := hh.split
  clear hh
  conv => whnf
  by_cases hlt : i < s.length
  · rw [ltB_t (by omega)]
    have hstep := take_all (p := lowerB) hlt
    conv => whnf
    refine ⟨by omega, s[i], by simp [hlt], ?_⟩
    conv => whnf
    by_cases h1 : (97 : Int) ≤ (s[i].toNat : Int)
    · rw [ltB_f (by omega)]
      conv => whnf
      refine ⟨by omega, s[i], by simp [hlt], ?_⟩
      conv => whnf
      by_cases h2 : (s[i].toNat : Int) ≤ 122
      · rw [ltB_f (by omega)]
        conv => whnf
        refine ⟨n - 1, by omega, rfl, i + 1, by omega, ?_, ?_⟩
        · unfold lower at *; rw [hstep, hlow]; simp [lowerB]; omega
        · refine ⟨rfl, ?_, trivial⟩
          show V.int .i64 (IntKind.i64.wrap (i + 1)) = _
          rw [wrap64 (by omega) (by omega)]; simp
      · rw [ltB_t (by omega)]
        conv => whnf
        have hf : lower s = false := by
          unfold lower
          rw [List.all_eq_false]
          exact ⟨s[i], List.getElem_mem _, by simp only [lowerB, decide_eq_true_eq]; omega⟩
        simp only [nameL, hf, Bool.false_and]
    · rw [ltB_t (by omega)]
      conv => whnf
      have hf : lower s = false := by
        unfold lower
        rw [List.all_eq_false]
        exact ⟨s[i], List.getElem_mem _, by simp only [lowerB, decide_eq_true_eq]; omega⟩
      simp only [nameL, hf, Bool.false_and]
  · rw [ltB_f (by omega)]
    conv => whnf
    refine .inl ((l1In_pure _ _ _).mono ?_)
    rintro r rfl
    conv => whnf
    have : s.take i = s := List.take_of_length_le (by omega)
    rw [this] at hlow
    simp [nameL, hlow]
end Go.Cod

namespace Go.Cod
open Go Go.Proofs Go.ChangeShapes Go.WideShapes Go.ChangeAt Go.RowKit
set_option maxRecDepth 10000

/-- A tree. -/
inductive T where
  | mk (id : Int) (kind text : List UInt8) (kids : List T)

mutual
def T.cells : T → List V
  | .mk id kind text kids => [.int .i64 id, .str kind, .str text, .sl (T.rows kids)]
def T.rows : List T → List (List V)
  | [] => []
  | t :: ts => t.cells :: T.rows ts
end
theorem T.rows_eq (ts : List T) : T.rows ts = ts.map T.cells := by
  induction ts with
  | nil => rfl
  | cons t ts ih => simp [T.rows, ih]

/-- What a number, a text and a list may be at most. -/
inductive T.Ok : T → Prop
  | mk {id kind text kids} (h1 : -9223372036854775808 ≤ id ∧ id ≤ 9223372036854775807) (h2 : kind.length ≤ maxLen) (h3 : text.length ≤ maxLen) (h4 : kids.length ≤ maxLen) (h5 : ∀ t ∈ kids, T.Ok t) : T.Ok (.mk id kind text kids)

theorem map_of_forall {α β : Type} {f : α → β} {p : α → Prop} : ∀ {es : List β}, (∀ e ∈ es, ∃ a, e = f a ∧ p a) → ∃ xs : List α, es = xs.map f ∧ ∀ a ∈ xs, p a
  | [], _ => ⟨[], rfl, by simp⟩
  | e :: es, h => by
    obtain ⟨a, rfl, hp⟩ := h e (by simp)
    obtain ⟨xs, rfl, hq⟩ := map_of_forall (es := es) fun e he => h e (by simp [he])
    exact ⟨a :: xs, rfl, by simpa using ⟨hp, hq⟩⟩

theorem kids : Kids Try.prog (· < Try.prog.types.size) := kids_rows (by kernel_rfl) (by kernel_rfl)
theorem full : ∀ t e, t < Try.prog.types.size → Try.prog.underlying t = some (.slice e) → 0 < Try.prog.cellsOf e := slices_full_of Try.prog (by kernel_rfl)

theorem reads_tree {H : Type} {enc : TypeId × Value → H} {w : World} : ∀ n : Nat, Reads enc Try.prog w n 44 fun vs => ∃ t : T, vs = t.cells ∧ t.Ok := by
  intro n
  induction n using Nat.strongRecOn with
  | ind n ih =>
    have hS := reads_struct (enc := enc) (P := Try.prog) (w := w) (n := n) (t := 44)
      (Ss := [fun vs => ∃ i, vs = [.int .i64 i] ∧ IntKind.i64.min ≤ i ∧ i ≤ IntKind.i64.max, fun vs => ∃ s, vs = [.str s] ∧ s.length ≤ maxLen, fun vs => ∃ s, vs = [.str s] ∧ s.length ≤ maxLen,
        fun vs => ∃ es, vs = [.sl es] ∧ es.length ≤ maxLen ∧ ∀ r ∈ es, (∃ t : T, r = t.cells ∧ t.Ok) ∧ r.length = Try.prog.cellsOf 44 ∧ (∀ v ∈ r, v.leaf = true) ∧ V.clean.cleanL 0 r = true])
      kids (by decide +kernel) Try.underlying44 rfl ?_
    · intro cs x h
      obtain ⟨vs, ⟨_, _, rfl, ⟨i, rfl, hi⟩, _, _, rfl, ⟨s, rfl, hs⟩, _, _, rfl, ⟨s', rfl, hs'⟩, _, _, rfl, ⟨es, rfl, hes, hr⟩, rfl⟩, h2⟩ := hS cs x h
      obtain ⟨ts, rfl, hts⟩ := map_of_forall (f := T.cells) (p := T.Ok) fun e he => (hr e he).1
      refine ⟨_, ⟨.mk i s s' ts, ?_, .mk hi hs hs' (by simpa using hes) hts⟩, h2⟩
      simp [T.cells, T.rows_eq]
    · intro m hm j f S h1 h2
      match j with
      | 0 => simp at h1 h2; subst h1 h2; exact reads_int Try.underlying3
      | 1 => simp at h1 h2; subst h1 h2; exact reads_str Try.underlying9
      | 2 => simp at h1 h2; subst h1 h2; exact reads_str Try.underlying9
      | 3 => simp at h1 h2; subst h1 h2; exact reads_slice Try.underlying42 (by decide +kernel) fun m' hm' => ih m' (by omega)
      | j + 4 => simp at h1

end Go.Cod

namespace Go.Cod
open Go Go.Proofs
set_option maxRecDepth 10000

def T.kids : T → List T
  | .mk _ _ _ kids => kids
mutual
def szT : T → Int → Int
  | .mk _ kind text kids, left =>
    if left - kind.length < 0 then -1 else
    if left - kind.length - text.length < 0 then -1 else
    let l := if left - kind.length - text.length - kids.length < 0 then -1 else szGo kids (left - kind.length - text.length - kids.length)
    if l < 0 then -1 else l
def szGo : List T → Int → Int
  | [], l => l
  | t :: ts, l => if szT t l < 0 then -1 else szGo ts (szT t l)
end
def szL (ts : List T) (left : Int) : Int := if left - ts.length < 0 then -1 else szGo ts (left - ts.length)

mutual
theorem szT_le : ∀ (t : T) (left : Int), 0 ≤ left → szT t left ≤ left ∧ -1 ≤ szT t left
  | .mk id kind text kids, left, h => by
    simp only [szT]
    have := szGo_le kids (left - kind.length - text.length - kids.length)
    split
    · omega
    split
    · omega
    split
    · simp; omega
    · split <;> omega
theorem szGo_le : ∀ (ts : List T) (left : Int), 0 ≤ left → szGo ts left ≤ left ∧ -1 ≤ szGo ts left
  | [], left, h => by simp [szGo]; omega
  | t :: ts, left, h => by
    simp only [szGo]
    have := szT_le t left h
    split
    · omega
    · have := szGo_le ts (szT t left) (by omega)
      omega
end
theorem szL_le (ts : List T) (left : Int) (h : 0 ≤ left) : szL ts left ≤ left ∧ -1 ≤ szL ts left := by
  unfold szL
  split
  · omega
  · have := szGo_le ts (left - ts.length) (by omega)
    omega

theorem szT_pure1 (t : T) (ht : t.Ok) (left : Int) (h0 : 0 ≤ left) (h1 : left ≤ 4611686018427387904)
    (hL : ∀ left : Int, 0 ≤ left → left ≤ 4611686018427387904 → Pure Try.prog 46 [.sl (T.rows t.kids), .int .i64 left] (· = .int .i64 (szL t.kids left))) :
    Pure Try.prog 20 [.agg t.cells, .int .i64 left] (· = .int .i64 (szT t left)) := by
  cases ht with
  | @mk id kind text kids g1 g2 g3 g4 g5 =>
  simp only [maxLen] at g2 g3 g4
  refine pure_of_awp good Try.func20 rfl (by kernel_rfl) (by decide) ?_
  conv => whnf
  rw [wrap64 (by omega) (by omega)]
  by_cases a1 : left - kind.length < 0
  · rw [ltB_t (by omega)]
    conv => whnf
    simp [szT, a1]
  rw [ltB_f (by omega)]
  conv => whnf
  rw [wrap64 (by omega) (by omega)]
  by_cases a2 : left - kind.length - text.length < 0
  · rw [ltB_t (by omega)]
    conv => whnf
    simp [szT, a1, a2]
  rw [ltB_f (by omega)]
  conv => whnf
  refine .inl ((hL (left - kind.length - text.length) (by omega) (by omega)).mono ?_)
  rintro r rfl
  simp only [T.kids]
  have hb := szL_le kids (left - kind.length - text.length) (by omega)
  have he : szT (.mk id kind text kids) left = if szL kids (left - kind.length - text.length) < 0 then -1 else szL kids (left - kind.length - text.length) := by
    simp only [szT, szL, if_neg a1, if_neg a2]
    rfl
  conv => whnf
  by_cases a3 : szL kids (left - kind.length - text.length) < 0
  · rw [ltB_t (by omega)]
    conv => whnf
    rw [he, if_pos a3]
  rw [ltB_f (by omega)]
  conv => whnf
  rw [he, if_neg a3]

theorem rows_get (ts : List T) (i : Nat) (h : i < ts.length) : (T.rows ts)[i]? = some ts[i].cells := by
  rw [T.rows_eq]; simp [h]
theorem rows_len (ts : List T) : (T.rows ts).length = ts.length := by rw [T.rows_eq]; simp
theorem cells_len (t : T) : t.cells.length = 4 := by cases t; rfl

theorem szGo_drop (ts : List T) (i : Nat) (h : i < ts.length) (l : Int) : szGo (ts.drop i) l = if szT ts[i] l < 0 then -1 else szGo (ts.drop (i + 1)) (szT ts[i] l) := by
  rw [List.drop_eq_getElem_cons h]; simp [szGo]

theorem szL_pure1 (ts : List T) (hl : ts.length ≤ 9223372036854775807) (left : Int) (h0 : 0 ≤ left) (h1 : left ≤ 4611686018427387904)
    (hT : ∀ t ∈ ts, ∀ left : Int, 0 ≤ left → left ≤ 4611686018427387904 → Pure Try.prog 20 [.agg t.cells, .int .i64 left] (· = .int .i64 (szT t left))) :
    Pure Try.prog 46 [.sl (T.rows ts), .int .i64 left] (· = .int .i64 (szL ts left)) := by
  have hlr := rows_len ts
  refine pure_of_awp good Try.func46 rfl (by kernel_rfl) (by decide) ?_
  conv => whnf
  rw [wrap64 (by omega) (by omega)]
  by_cases a1 : left - ts.length < 0
  · rw [ltB_t (by omega)]
    conv => whnf
    simp [szL, a1]
  rw [ltB_f (by omega)]
  conv => whnf
  refine loop_intro (fun n fr st => st = [] ∧ ∃ (i : Nat) (l : Int), n + i = ts.length ∧ 0 ≤ l ∧ l ≤ 4611686018427387904 ∧ szL ts left = szGo (ts.drop i) l ∧ Holds fr [(0, .sl (T.rows ts)), (1, .int .i64 l), (5, .int .i64 i)]) ts.length
    ⟨rfl, 0, left - (T.rows ts).length, by simp, by omega, by omega, by simp [szL, hlr, a1], rfl, rfl, rfl, trivial⟩ ?_
  rintro n fr st ⟨rfl, i, l, hi, b0, b1, hsz, hh⟩
  obtain ⟨fr, rfl⟩ := hh.split
  clear hh
  conv => whnf
  by_cases hlt : i < ts.length
  · rw [ltB_t (by omega)]
    conv => whnf
    refine ⟨by omega, T.rows ts, ts[i].cells, 4, rfl, rows_get ts i hlt, rfl, cells_len _, ?_⟩
    have hc := hT ts[i] (List.getElem_mem _) l b0 b1
    have hb := szT_le ts[i] l b0
    rw [szGo_drop ts i hlt] at hsz
    generalize hg : ts[i] = t at hc hb hsz ⊢
    cases t with
    | mk id kind text kids =>
    conv => whnf
    refine .inl (hc.mono ?_)
    rintro r rfl
    conv => whnf
    by_cases a3 : szT (.mk id kind text kids) l < 0
    · rw [ltB_t (by omega)]
      conv => whnf
      rw [hsz, if_pos a3]
    rw [ltB_f (by omega)]
    conv => whnf
    refine ⟨n - 1, by omega, rfl, i + 1, szT (.mk id kind text kids) l, by omega, by omega, by omega, ?_, rfl, rfl, ?_, trivial⟩
    · rw [hsz, if_neg a3]
    · show V.int .i64 (IntKind.i64.wrap (i + 1)) = _
      rw [wrap64 (by omega) (by omega)]; simp
  · rw [ltB_f (by omega)]
    conv => whnf
    rw [hsz, List.drop_of_length_le (by omega)]
    rfl

theorem szT_pure (t : T) (ht : t.Ok) : ∀ (left : Int), 0 ≤ left → left ≤ 4611686018427387904 → Pure Try.prog 20 [.agg t.cells, .int .i64 left] (· = .int .i64 (szT t left)) := by
  induction ht with
  | @mk id kind text kids g1 g2 g3 g4 g5 ih =>
    intro left h0 h1
    exact szT_pure1 _ (.mk g1 g2 g3 g4 g5) left h0 h1 fun left h0 h1 => szL_pure1 kids (by simpa [maxLen] using g4) left h0 h1 ih
end Go.Cod

namespace Go.Cod
open Go Go.Proofs
set_option maxRecDepth 10000

inductive T.Small : T → Prop
  | mk {id kind text kids} (h1 : -9223372036854775808 ≤ id ∧ id ≤ 9223372036854775807) (h2 : kind.length ≤ 1048576) (h3 : text.length ≤ 1048576) (h4 : kids.length ≤ 1048576) (h5 : ∀ t ∈ kids, T.Small t) : T.Small (.mk id kind text kids)

def zrow : List V := [.int .i64 0, .str [], .str [], .nils]
def mix (ts : List T) (i : Nat) : List (List V) := (T.rows ts).take i ++ List.replicate (ts.length - i) zrow
theorem mix_get (ts : List T) (i : Nat) (h : i < ts.length) : (mix ts i)[i]? = some zrow := by
  unfold mix
  rw [List.getElem?_append_right (by rw [List.length_take, rows_len]; omega)]
  rw [List.length_take, rows_len, Nat.min_eq_left (by omega), Nat.sub_self, List.getElem?_replicate, if_pos (by omega)]
theorem mix_set (ts : List T) (i : Nat) (h : i < ts.length) : (mix ts i).set i ts[i].cells = mix ts (i + 1) := by
  unfold mix
  rw [List.set_append_right _ _ (by rw [List.length_take, rows_len]; omega), List.length_take, rows_len, Nat.min_eq_left (by omega), Nat.sub_self]
  rw [show ts.length - i = (ts.length - (i + 1)) + 1 by omega, List.replicate_succ, List.set_cons_zero, List.take_add_one, rows_get ts i h]
  simp
theorem toTreeS_pure1 (ts : List T) (hl : ts.length ≤ 1048576) (hT : ∀ t ∈ ts, Pure Try.prog 21 [.agg t.cells] (· = .agg t.cells)) :
    Pure Try.prog 47 [.sl (T.rows ts)] (· = .sl (T.rows ts)) := by
  have hlr := rows_len ts
  refine pure_of_awp good Try.func47 rfl (by kernel_rfl) (by decide) ?_
  conv => whnf
  refine ⟨by omega, by omega, ?_⟩
  conv => whnf
  refine ⟨by show (Int.toNat _) * 64 ≤ _; omega, by omega, ?_⟩
  conv => whnf
  refine loop_intro (fun n fr st => ∃ i : Nat, n + i = ts.length ∧ st = [⟨mix ts i, 4, true, true, false, .cell⟩] ∧ Holds fr [(0, .sl (T.rows ts)), (3, .own 0), (4, .int .i64 i)]) ts.length
    ⟨0, rfl, by simp [mix, hlr, zrow, V.cells], rfl, rfl, rfl, trivial⟩ ?_
  rintro n fr st ⟨i, hi, rfl, hh⟩
  obtain ⟨fr, rfl⟩ := hh.split
  clear hh
  conv => whnf
  by_cases hlt : i < ts.length
  · rw [ltB_t (by omega)]
    conv => whnf
    refine ⟨by omega, T.rows ts, ts[i].cells, 4, rfl, rows_get ts i hlt, rfl, cells_len _, ?_⟩
    have hc := hT ts[i] (List.getElem_mem _)
    have hm := mix_set ts i hlt
    have hmg := mix_get ts i hlt
    generalize ts[i] = t at hc hm
    cases t with
    | mk id kind text kids =>
    conv => whnf
    refine .inl (hc.mono ?_)
    rintro r rfl
    conv => whnf
    refine ⟨by omega, mix ts i, zrow, 4, rfl, hmg, rfl, rfl, ?_⟩
    conv => whnf
    refine AtRow_intro zrow hmg ?_
    conv => whnf
    refine ⟨n - 1, by omega, i + 1, by omega, ?_, rfl, rfl, ?_, trivial⟩
    · rw [← hm]; rfl
    · show V.int .i64 (IntKind.i64.wrap (i + 1)) = _
      rw [wrap64 (by omega) (by omega)]; simp
  · rw [ltB_f (by omega)]
    conv => whnf
    show V.sl (mix ts i) = _
    rw [mix, show ts.length - i = 0 by omega, List.take_of_length_le (by rw [hlr]; omega)]
    simp

theorem toTree_pure1 (t : T) (ht : t.Small)
    (hL : Pure Try.prog 47 [.sl (T.rows t.kids)] (· = .sl (T.rows t.kids))) :
    Pure Try.prog 21 [.agg t.cells] (· = .agg t.cells) := by
  cases ht with
  | @mk id kind text kids g1 g2 g3 g4 g5 =>
  simp only [T.kids] at hL
  refine pure_of_awp good Try.func21 rfl (by kernel_rfl) (by decide) ?_
  conv => whnf
  refine .inl (hL.mono ?_)
  rintro r rfl
  conv => whnf
  rfl
end Go.Cod

namespace Go.Cod
open Go Go.Proofs
set_option maxRecDepth 10000

theorem eqB_refl (a : Int) : eqB a a = true := by rw [eqB_def]; simp
theorem eqS_refl (a : List UInt8) : eqS a a = true := by rw [eqS_def]; simp

theorem eqTreeS_pure1 (ts : List T) (hl : ts.length ≤ 1048576) (hT : ∀ t ∈ ts, Pure Try.prog 22 [.agg t.cells, .agg t.cells] (· = .bool true)) :
    Pure Try.prog 48 [.sl (T.rows ts), .sl (T.rows ts)] (· = .bool true) := by
  have hlr := rows_len ts
  refine pure_of_awp good Try.func48 rfl (by kernel_rfl) (by decide) ?_
  conv => whnf
  rw [eqB_refl]
  conv => whnf
  refine loop_intro (fun n fr st => ∃ i : Nat, n + i = ts.length ∧ st = [] ∧ Holds fr [(0, .sl (T.rows ts)), (1, .sl (T.rows ts)), (5, .int .i64 i)]) ts.length
    ⟨0, rfl, rfl, rfl, rfl, rfl, trivial⟩ ?_
  rintro n fr st ⟨i, hi, rfl, hh⟩
  obtain ⟨fr, rfl⟩ := hh.split
  clear hh
  conv => whnf
  by_cases hlt : i < ts.length
  · rw [ltB_t (by omega)]
    conv => whnf
    refine ⟨by omega, T.rows ts, ts[i].cells, 4, rfl, rows_get ts i hlt, rfl, cells_len _, ?_⟩
    have hc := hT ts[i] (List.getElem_mem _)
    have hmg := rows_get ts i hlt
    generalize ts[i] = t at hc hmg
    cases t with
    | mk id kind text kids =>
    conv => whnf
    refine ⟨by omega, T.rows ts, _, 4, rfl, hmg, rfl, rfl, ?_⟩
    conv => whnf
    refine ⟨_, .inl hc, ?_⟩
    conv => whnf
    refine ⟨n - 1, by omega, i + 1, by omega, rfl, rfl, rfl, ?_, trivial⟩
    · show V.int .i64 (IntKind.i64.wrap (i + 1)) = _
      rw [wrap64 (by omega) (by omega)]; simp
  · rw [ltB_f (by omega)]
    conv => whnf

theorem eqTree_pure1 (t : T) (hL : Pure Try.prog 48 [.sl (T.rows t.kids), .sl (T.rows t.kids)] (· = .bool true)) :
    Pure Try.prog 22 [.agg t.cells, .agg t.cells] (· = .bool true) := by
  cases t with
  | mk id kind text kids =>
  simp only [T.kids] at hL
  refine pure_of_awp good Try.func22 rfl (by kernel_rfl) (by decide) ?_
  conv => whnf
  rw [eqB_refl]
  conv => whnf
  rw [eqS_refl]
  conv => whnf
  rw [eqS_refl]
  conv => whnf
  refine .inl (hL.mono ?_)
  rintro r rfl
  conv => whnf

theorem toTree_pure (t : T) (ht : t.Small) : Pure Try.prog 21 [.agg t.cells] (· = .agg t.cells) := by
  induction ht with
  | @mk id kind text kids g1 g2 g3 g4 g5 ih => exact toTree_pure1 _ (.mk g1 g2 g3 g4 g5) (toTreeS_pure1 kids g4 ih)
theorem eqTree_pure (t : T) (ht : t.Small) : Pure Try.prog 22 [.agg t.cells, .agg t.cells] (· = .bool true) := by
  induction ht with
  | @mk id kind text kids g1 g2 g3 g4 g5 ih => exact eqTree_pure1 _ (eqTreeS_pure1 kids g4 ih)

mutual
theorem small_of_sz : ∀ (t : T), t.Ok → ∀ left : Int, left ≤ 1048576 → 0 ≤ szT t left → t.Small
  | .mk id kind text kids, ht, left, h1, h2 => by
    cases ht with
    | mk g1 g2 g3 g4 g5 =>
      simp only [szT] at h2
      split at h2
      · omega
      split at h2
      · omega
      split at h2
      · simp at h2
      rename_i a1 a2 a3
      split at h2
      · omega
      refine .mk g1 (by omega) (by omega) (by omega) (small_of_szGo kids g5 _ (by omega) h2)
theorem small_of_szGo : ∀ (ts : List T), (∀ t ∈ ts, t.Ok) → ∀ left : Int, left ≤ 1048576 → 0 ≤ szGo ts left → ∀ t ∈ ts, t.Small
  | [], _, _, _, _ => by simp
  | t :: ts, h, left, h1, h2 => by
    simp only [szGo] at h2
    split at h2
    · omega
    rename_i a1
    by_cases h0 : 0 ≤ left
    · have h3 := (szT_le t left h0).1
      intro t' ht'
      have hh := small_of_sz t (h _ (by simp)) left h1 (by omega)
      rcases List.mem_cons.1 ht' with rfl | ht'
      · exact hh
      · exact small_of_szGo ts (fun t ht => h t (by simp [ht])) _ (by omega) h2 t' ht'
    · exfalso
      have : szT t left < 0 := by
        cases t with
        | mk id kind text kids => simp only [szT]; rw [if_pos (by omega)]; omega
      omega
end

end Go.Cod

namespace Go.Cod
open Go Go.Proofs
set_option maxRecDepth 10000

/-- Rows of numbers. -/
def irows (ns : List Int) : List (List V) := ns.map fun n => [.int .i64 n]
theorem irows_len (ns : List Int) : (irows ns).length = ns.length := by simp [irows]
theorem irows_get (ns : List Int) (i : Nat) (h : i < ns.length) : (irows ns)[i]? = some [.int .i64 ns[i]] := by simp [irows, h]

theorem l2Has_pure (ns : List Int) (x : Int) (hl : ns.length ≤ 9223372036854775806) : Pure Try.prog 34 [.sl (irows ns), .int .i64 x] (· = .bool (decide (x ∈ ns))) := by
  have hlr := irows_len ns
  refine pure_of_awp good Try.func34 rfl (by kernel_rfl) (by decide) ?_
  conv => whnf
  refine loop_intro (fun n fr st => ∃ i : Nat, n + i = ns.length ∧ st = [] ∧ x ∉ ns.take i ∧ Holds fr [(0, .sl (irows ns)), (1, .int .i64 x), (5, .int .i64 i)]) ns.length
    ⟨0, rfl, rfl, by simp, rfl, rfl, rfl, trivial⟩ ?_
  rintro n fr st ⟨i, hi, rfl, hx, hh⟩
  obtain ⟨fr, rfl⟩ := hh.split
  clear hh
  conv => whnf
  by_cases hlt : i < ns.length
  · rw [ltB_t (by omega)]
    conv => whnf
    refine ⟨by omega, irows ns, _, 1, rfl, irows_get ns i hlt, rfl, rfl, ?_⟩
    conv => whnf
    by_cases he : ns[i] = x
    · rw [eqB_t he]
      conv => whnf
      have : x ∈ ns := he ▸ List.getElem_mem _
      simp [this]
    · rw [eqB_f he]
      conv => whnf
      refine ⟨n - 1, by omega, i + 1, by omega, rfl, ?_, rfl, rfl, ?_, trivial⟩
      · rw [List.take_succ_eq_append_getElem hlt]
        simp only [List.mem_append, List.mem_singleton, not_or]
        exact ⟨hx, fun h => he h.symm⟩
      · show V.int .i64 (IntKind.i64.wrap (i + 1)) = _
        rw [wrap64 (by omega) (by omega)]; simp
  · rw [ltB_f (by omega)]
    conv => whnf
    rw [List.take_of_length_le (by omega)] at hx
    simp [hx]

mutual
def T.ids : T → List Int
  | .mk id _ _ kids => id :: T.idsL kids
def T.idsL : List T → List Int
  | [] => []
  | t :: ts => t.ids ++ T.idsL ts
end
theorem idsL_append (a b : List T) : T.idsL (a ++ b) = T.idsL a ++ T.idsL b := by
  induction a with
  | nil => rfl
  | cons x xs ih => simp [T.idsL, ih]
theorem idsL_take (ts : List T) (i : Nat) (h : i < ts.length) : T.idsL (ts.take (i + 1)) = T.idsL (ts.take i) ++ ts[i].ids := by
  rw [List.take_succ_eq_append_getElem h, idsL_append]; simp [T.idsL]
theorem irows_append (a b : List Int) : irows (a ++ b) = irows a ++ irows b := by simp [irows]

def textB (c : UInt8) : Bool := decide (32 ≤ c.toNat ∧ c.toNat ≤ 126 ∧ c.toNat ≠ 34)
def textL (s : List UInt8) : Bool := s.all textB && decide ((s.length : Int) ≤ 12)
theorem l2Text_pure (s : List UInt8) (hs : s.length ≤ 9223372036854775806) : Pure Try.prog 62 [.str s] (· = .bool (textL s)) := by
  have hno : ∀ (i : Nat) (h : i < s.length), textB s[i] = false → textL s = false := by
    intro i h hb
    have : s.all textB = false := by rw [List.all_eq_false]; exact ⟨s[i], List.getElem_mem _, by simp [hb]⟩
    simp only [textL, this, Bool.false_and]
  refine pure_of_awp good Try.func62 rfl (by kernel_rfl) (by decide) ?_
  conv => whnf
  refine loop_intro (fun n fr st => st = [] ∧ ∃ i : Nat, n + i = s.length ∧ (s.take i).all textB = true ∧ Holds fr [(0, .str s), (3, .int .i64 i)]) s.length ⟨rfl, 0, rfl, rfl, rfl, rfl, trivial⟩ ?_
  rintro n fr st ⟨rfl, i, hi, hlow, hh⟩
  obtain ⟨fr, rfl⟩ := hh.split
  clear hh
  conv => whnf
  by_cases hlt : i < s.length
  · rw [ltB_t (by omega)]
    have hstep := take_all (p := textB) hlt
    have hn := hno i hlt
    conv => whnf
    refine ⟨by omega, s[i], by simp [hlt], ?_⟩
    conv => whnf
    by_cases h1 : (s[i].toNat : Int) < 32
    · rw [ltB_t h1]
      conv => whnf
      rw [hn (by simp only [textB, decide_eq_false_iff_not]; omega)]
    rw [ltB_f (by omega)]
    conv => whnf
    refine ⟨by omega, s[i], by simp [hlt], ?_⟩
    conv => whnf
    by_cases h2 : (126 : Int) < s[i].toNat
    · rw [ltB_t h2]
      conv => whnf
      rw [hn (by simp only [textB, decide_eq_false_iff_not]; omega)]
    rw [ltB_f (by omega)]
    conv => whnf
    refine ⟨by omega, s[i], by simp [hlt], ?_⟩
    conv => whnf
    by_cases h3 : (s[i].toNat : Int) = 34
    · rw [eqB_t h3]
      conv => whnf
      rw [hn (by simp only [textB, decide_eq_false_iff_not]; omega)]
    rw [eqB_f h3]
    conv => whnf
    refine ⟨n - 1, by omega, rfl, i + 1, by omega, ?_, rfl, ?_, trivial⟩
    · rw [hstep, hlow]; simp only [textB, Bool.true_and, decide_eq_true_eq]; omega
    · show V.int .i64 (IntKind.i64.wrap (i + 1)) = _
      rw [wrap64 (by omega) (by omega)]; simp
  · rw [ltB_f (by omega)]
    conv => whnf
    rw [List.take_of_length_le (by omega)] at hlow
    show V.bool (leB _ _) = _
    simp [textL, hlow, leB_def]
end Go.Cod

namespace Go.Cod
open Go Go.Proofs
set_option maxRecDepth 10000

mutual
def plainT : T → Int → Bool
  | .mk id kind text kids, lv => !decide (6 < lv) && decide (1 ≤ id ∧ id ≤ 999) && nameL kind && textL text && plainL kids (lv + 1)
def plainL : List T → Int → Bool
  | [], _ => true
  | t :: ts, lv => plainT t lv && plainL ts lv
end
theorem plainL_eq (ts : List T) (lv : Int) : plainL ts lv = ts.all fun t => plainT t lv := by
  induction ts with
  | nil => rfl
  | cons t ts ih => simp [plainL, ih]

theorem l2Plain_pure1 (t : T) (hs : t.Small) (lv : Int) (h0 : 0 ≤ lv) (h7 : lv ≤ 1000) (hT : lv ≤ 6 → ∀ t' ∈ t.kids, Pure Try.prog 32 [.agg t'.cells, .int .i64 (lv + 1)] (· = .bool (plainT t' (lv + 1)))) :
    Pure Try.prog 32 [.agg t.cells, .int .i64 lv] (· = .bool (plainT t lv)) := by
  cases hs with
  | @mk id kind text kids g1 g2 g3 g4 g5 =>
  simp only [T.kids] at hT
  have hlr := rows_len kids
  refine pure_of_awp good Try.func32 rfl (by kernel_rfl) (by decide) ?_
  conv => whnf
  by_cases a1 : 6 < lv
  · rw [ltB_t a1]
    conv => whnf
    simp [plainT, a1]
  rw [ltB_f (by omega)]
  conv => whnf
  refine .inl ((l1In_pure _ _ _).mono ?_)
  rintro r rfl
  by_cases a2 : 1 ≤ id ∧ id ≤ 999
  case neg =>
    rw [decide_eq_false a2]
    conv => whnf
    simp [plainT, a2]
  rw [decide_eq_true a2]
  conv => whnf
  refine .inl ((l2Name_pure kind (by omega)).mono ?_)
  rintro r rfl
  cases a3 : nameL kind
  · conv => whnf
    simp [plainT, a3]
  conv => whnf
  refine .inl ((l2Text_pure text (by omega)).mono ?_)
  rintro r rfl
  cases a4 : textL text
  · conv => whnf
    simp [plainT, a4]
  conv => whnf
  have hp : plainT (.mk id kind text kids) lv = plainL kids (lv + 1) := by simp [plainT, a1, a2, a3, a4]
  rw [plainL_eq] at hp
  refine loop_intro (fun n fr st => ∃ i : Nat, n + i = kids.length ∧ st = [⟨[[.int .i64 id, .str kind, .str text, .sl (T.rows kids)]], 4, true, true, true, .cell⟩] ∧ (kids.take i).all (fun t => plainT t (lv + 1)) = true ∧ Holds fr [(1, .int .i64 lv), (2, .ptr 0 0 0), (5, .int .i64 i)]) kids.length
    ⟨0, rfl, rfl, rfl, rfl, rfl, rfl, trivial⟩ ?_
  rintro n fr st ⟨i, hi, rfl, hx, hh⟩
  obtain ⟨fr, rfl⟩ := hh.split
  clear hh
  conv => whnf
  by_cases hlt : i < kids.length
  · rw [ltB_t (by omega)]
    conv => whnf
    refine ⟨by omega, T.rows kids, kids[i].cells, 4, rfl, rows_get kids i hlt, rfl, cells_len _, ?_⟩
    have hc := hT (by omega) kids[i] (List.getElem_mem _)
    have hst : (kids.take (i + 1)).all (fun t => plainT t (lv + 1)) = plainT kids[i] (lv + 1) := by
      rw [List.take_succ_eq_append_getElem hlt, List.all_append, hx]; simp
    have hno : plainT kids[i] (lv + 1) = false → kids.all (fun t => plainT t (lv + 1)) = false := by
      intro h; rw [List.all_eq_false]; exact ⟨kids[i], List.getElem_mem _, by simp [h]⟩
    generalize kids[i] = t at hc hst hno ⊢
    cases t with
    | mk id' kind' text' kids' =>
    conv => whnf
    rw [wrap64 (by omega) (by omega)]
    refine .inl (hc.mono ?_)
    rintro r rfl
    cases a5 : plainT (.mk id' kind' text' kids') (lv + 1)
    · conv => whnf
      rw [hp, hno a5]
    conv => whnf
    refine ⟨n - 1, by omega, i + 1, by omega, rfl, by rw [hst, a5], rfl, rfl, ?_, trivial⟩
    show V.int .i64 (IntKind.i64.wrap (i + 1)) = _
    rw [wrap64 (by omega) (by omega)]; simp
  · rw [ltB_f (by omega)]
    conv => whnf
    rw [List.take_of_length_le (by omega)] at hx
    rw [hp, hx]

theorem l2Plain_pure (t : T) (hs : t.Small) : ∀ lv : Int, 0 ≤ lv → lv ≤ 1000 → Pure Try.prog 32 [.agg t.cells, .int .i64 lv] (· = .bool (plainT t lv)) := by
  induction hs with
  | @mk id kind text kids g1 g2 g3 g4 g5 ih =>
    intro lv h0 h7
    exact l2Plain_pure1 _ (.mk g1 g2 g3 g4 g5) lv h0 h7 fun h t' ht' => ih t' ht' (lv + 1) (by omega) (by omega)
end Go.Cod

namespace Go.Cod
open Go Go.Proofs
set_option maxRecDepth 10000

mutual
theorem ids_sz : ∀ (t : T) (left : Int), 0 ≤ szT t left → szT t left + t.ids.length ≤ left + 1
  | .mk id kind text kids, left, h => by
    simp only [szT] at h ⊢
    split at h
    · omega
    split at h
    · omega
    split at h
    · simp at h
    rename_i a1 a2 a3
    rw [if_neg a1, if_neg a2, if_neg a3]
    split at h
    · omega
    rename_i a4
    rw [if_neg a4]
    have := ids_szGo kids _ h
    simp only [T.ids, List.length_cons]
    omega
theorem ids_szGo : ∀ (ts : List T) (left : Int), 0 ≤ szGo ts left → szGo ts left + (T.idsL ts).length ≤ left + ts.length
  | [], left, h => by simp [szGo, T.idsL]
  | t :: ts, left, h => by
    simp only [szGo] at h ⊢
    split at h
    · omega
    rename_i a1
    rw [if_neg a1]
    have h1 := ids_sz t left (by omega)
    have h2 := ids_szGo ts _ h
    simp only [T.idsL, List.length_append, List.length_cons]
    omega
end
theorem idsL_split (ts : List T) (i : Nat) : T.idsL ts = T.idsL (ts.take i) ++ T.idsL (ts.drop i) := by
  induction ts generalizing i with
  | nil => simp [T.idsL]
  | cons t ts ih => cases i with
    | zero => simp [T.idsL]
    | succ i => simp only [List.take_succ_cons, List.drop_succ_cons, T.idsL, List.append_assoc]; rw [← ih i]
theorem irows_wid (l : List Int) : ∀ m ∈ irows l, m.length = 1 := by simp [irows]

theorem l2Ids_pure1 (t : T) (hs : t.Small) (hn : t.ids.length ≤ 1048577) (hT : ∀ t' ∈ t.kids, (t'.ids).length ≤ 1048577 → Pure Try.prog 33 [.agg t'.cells] (· = .sl (irows (t'.ids)))) :
    Pure Try.prog 33 [.agg t.cells] (· = .sl (irows t.ids)) := by
  cases hs with
  | @mk id kind text kids g1 g2 g3 g4 g5 =>
  simp only [T.kids, T.ids, List.length_cons] at hT hn ⊢
  have hlr := rows_len kids
  refine pure_of_awp good Try.func33 rfl (by kernel_rfl) (by decide) ?_
  conv => whnf
  refine loop_drop (fun n fr st => ∃ i : Nat, n + i = kids.length ∧ st = [⟨[[.int .i64 id, .str kind, .str text, .sl (T.rows kids)]], 4, true, true, true, .cell⟩, ⟨irows (id :: T.idsL (kids.take i)), 1, true, true, false, .cell⟩] ∧ Holds fr [(1, .ptr 0 0 0), (3, .own 1), (4, .int .i64 i)]) kids.length none
    ⟨0, rfl, rfl, rfl, rfl, rfl, trivial⟩ ?_
  rintro n fr st ⟨i, hi, rfl, hh⟩
  obtain ⟨fr, rfl⟩ := hh.split
  clear hh
  conv => whnf
  by_cases hlt : i < kids.length
  · rw [ltB_t (by omega)]
    conv => whnf
    refine ⟨by omega, T.rows kids, kids[i].cells, 4, rfl, rows_get kids i hlt, rfl, cells_len _, ?_⟩
    have hsp := idsL_split kids (i + 1)
    have htk := idsL_take kids i hlt
    have hl1 : (T.idsL kids).length = (T.idsL (kids.take (i + 1))).length + (T.idsL (kids.drop (i + 1))).length := by rw [hsp]; simp
    have hl2 : (T.idsL (kids.take (i + 1))).length = (T.idsL (kids.take i)).length + (kids[i].ids).length := by rw [htk]; simp
    have hc := hT kids[i] (List.getElem_mem _) (by omega)
    generalize kids[i] = t at hc htk hl2 ⊢
    cases t with
    | mk id' kind' text' kids' =>
    conv => whnf
    refine .inl (hc.mono ?_)
    rintro r rfl
    conv => whnf
    refine ⟨irows_wid _, ?_⟩
    conv => whnf
    refine ⟨by rw [irows_len, irows_len]; show (_ + _) * 8 ≤ _; simp only [List.length_cons]; omega, ?_⟩
    conv => whnf
    refine ⟨n - 1, by omega, some [0, 2], ?_⟩
    conv => whnf
    refine ⟨i + 1, by omega, ?_, rfl, rfl, ?_, trivial⟩
    · show [_, _] = [_, _]
      rw [htk]
      simp only [irows, List.map_cons, List.map_append]
      rfl
    · show V.int .i64 (IntKind.i64.wrap (i + 1)) = _
      rw [wrap64 (by omega) (by omega)]; simp
  · rw [ltB_f (by omega)]
    conv => whnf
    rw [List.take_of_length_le (by omega)]

theorem l2Ids_pure (t : T) (hs : t.Small) : t.ids.length ≤ 1048577 → Pure Try.prog 33 [.agg t.cells] (· = .sl (irows t.ids)) := by
  induction hs with
  | @mk id kind text kids g1 g2 g3 g4 g5 ih =>
    intro hn
    exact l2Ids_pure1 _ (.mk g1 g2 g3 g4 g5) hn fun t' ht' h => ih t' ht' h

theorem nodup_take {l : List Int} {i : Nat} (h : i < l.length) : (l.take (i + 1)).Nodup ↔ (l.take i).Nodup ∧ l[i] ∉ l.take i := by
  rw [List.take_succ_eq_append_getElem h, List.nodup_append]
  simp
  intro _
  constructor
  · intro h h2; exact h _ h2 rfl
  · intro h a ha e; exact h (e ▸ ha)

def okT (t : T) : Bool := plainT t 1 && decide t.ids.Nodup && decide (t.ids.length ≤ 20)

theorem specTreeOk_pure (t : T) (hs : t.Small) (hn : t.ids.length ≤ 1048577) : Pure Try.prog 12 [.agg t.cells] (· = .bool (okT t)) := by
  have hp := l2Plain_pure t hs 1 (by omega) (by omega)
  have hi := l2Ids_pure t hs hn
  have hok : okT t = (plainT t 1 && decide t.ids.Nodup && decide (t.ids.length ≤ 20)) := rfl
  generalize okT t = ok at *
  generalize plainT t 1 = pl at *
  generalize t.ids = ids at *
  cases t with
  | mk id kind text kids =>
  refine pure_of_awp good Try.func12 rfl (by kernel_rfl) (by decide) ?_
  conv => whnf
  refine .inl (hp.mono ?_)
  rintro r rfl
  cases pl
  · conv => whnf
    simp at hok; rw [hok]
  conv => whnf
  refine .inl (hi.mono ?_)
  rintro r rfl
  conv => whnf
  refine loop_intro (fun n fr st => ∃ i : Nat, n + i = ids.length ∧ st = [⟨[[.int .i64 id, .str kind, .str text, .sl (T.rows kids)]], 4, true, true, true, .cell⟩] ∧ (ids.take i).Nodup ∧ Holds fr [(3, .sl (irows ids)), (4, .int .i64 i)]) ids.length
    ⟨0, rfl, rfl, by simp, rfl, rfl, trivial⟩ ?_
  rintro n fr st ⟨i, hi, rfl, hx, hh⟩
  obtain ⟨fr, rfl⟩ := hh.split
  clear hh
  conv => whnf
  have hlr := irows_len ids
  by_cases hlt : i < ids.length
  · rw [ltB_t (by omega)]
    conv => whnf
    refine ⟨irows_wid _, ?_⟩
    conv => whnf
    refine ⟨by omega, by show Int.toNat (i : Int) ≤ _; rw [hlr]; omega, rfl, ?_⟩
    conv => whnf
    refine ⟨by omega, irows ids, _, 1, rfl, irows_get ids i hlt, rfl, rfl, ?_⟩
    conv => whnf
    have hcut : ((irows ids).take (Int.toNat (i : Int))).drop 0 = irows (ids.take i) := by simp [irows]
    have hc := l2Has_pure (ids.take i) ids[i] (by simp; omega)
    rw [← hcut] at hc
    refine ⟨_, .inl hc, ?_⟩
    have hnd := nodup_take hlt
    by_cases hm : ids[i] ∈ ids.take i
    · rw [decide_eq_true hm]
      conv => whnf
      have : ¬ ids.Nodup := fun h => (hnd.1 (h.sublist (List.take_sublist _ _))).2 hm
      simp [this] at hok; rw [hok]
    · rw [decide_eq_false hm]
      conv => whnf
      refine ⟨n - 1, by omega, i + 1, by omega, rfl, hnd.2 ⟨hx, hm⟩, rfl, ?_, trivial⟩
      show V.int .i64 (IntKind.i64.wrap (i + 1)) = _
      rw [wrap64 (by omega) (by omega)]; simp
  · rw [ltB_f (by omega)]
    conv => whnf
    rw [List.take_of_length_le (by omega)] at hx
    simp only [hx, decide_true, Bool.true_and, Bool.and_true] at hok
    rw [hok, leB_def, hlr]
    congr 1
    exact decide_eq_decide.2 (by omega)
end Go.Cod

namespace Go.Cod
open Go Go.Proofs
set_option maxRecDepth 10000

theorem textHasOnly_pure (s : List UInt8) (hs : s.length ≤ 9223372036854775806) (g : Nat) (p : UInt8 → Bool) (hp : ∀ b : UInt8, Pure Try.prog g [cellB b] (· = .bool (p b))) :
    Pure Try.prog 58 [.str s, .fn g []] (· = .bool (s.all p)) := by
  refine pure_of_awp good Try.func58 rfl (by kernel_rfl) (by decide) ?_
  conv => whnf
  refine loop_intro (fun n fr st => st = [] ∧ ∃ i : Nat, n + i = s.length ∧ (s.take i).all p = true ∧ Holds fr [(0, .str s), (1, .fn g []), (7, .int .i64 s.length), (8, .int .i64 i)]) s.length ⟨rfl, 0, rfl, rfl, rfl, rfl, rfl, rfl, trivial⟩ ?_
  rintro n fr st ⟨rfl, i, hi, hx, hh⟩
  obtain ⟨fr, rfl⟩ := hh.split
  clear hh
  conv => whnf
  by_cases hlt : i < s.length
  · rw [ltB_t (by omega)]
    conv => whnf
    refine ⟨by omega, s[i], by simp [hlt], ?_⟩
    conv => whnf
    have hst := take_all (p := p) hlt
    have hno : p s[i] = false → s.all p = false := by
      intro h; rw [List.all_eq_false]; exact ⟨s[i], List.getElem_mem _, by simp [h]⟩
    refine .inl ((hp s[i]).mono ?_)
    rintro r rfl
    cases a : p s[i]
    · conv => whnf
      rw [hno a]
    conv => whnf
    refine ⟨n - 1, by omega, rfl, i + 1, by omega, by rw [hst, hx, a]; rfl, rfl, rfl, rfl, ?_, trivial⟩
    show V.int .i64 (IntKind.i64.wrap (i + 1)) = _
    rw [wrap64 (by omega) (by omega)]; simp
  · rw [ltB_f (by omega)]
    conv => whnf
    rw [List.take_of_length_le (by omega)] at hx
    rw [hx]

theorem isLetter_pure (b : UInt8) : Pure Try.prog 77 [cellB b] (· = .bool (lowerB b)) := by
  refine pure_of_awp good Try.func77 rfl (by kernel_rfl) (by decide) ?_
  conv => whnf
  by_cases h1 : (97 : Int) ≤ (b.toNat : Int)
  · rw [leB_t (by omega)]
    conv => whnf
    congr 1
    rw [leB_def, lowerB]
    exact decide_eq_decide.2 (by omega)
  · rw [leB_f (by omega)]
    conv => whnf
    have : lowerB b = false := by unfold lowerB; simp; omega
    rw [this]
theorem isTreeText_pure (b : UInt8) : Pure Try.prog 59 [cellB b] (· = .bool (textB b)) := by
  refine pure_of_awp good Try.func59 rfl (by kernel_rfl) (by decide) ?_
  conv => whnf
  by_cases h1 : (32 : Int) ≤ (b.toNat : Int)
  · rw [leB_t (by omega)]
    conv => whnf
    by_cases h2 : (b.toNat : Int) ≤ 126
    · rw [leB_t (by omega)]
      conv => whnf
      congr 1
      rw [eqB_def]
      have : negB (decide ((b.toNat : Int) = 34)) = decide (b.toNat ≠ 34) := by
        by_cases h : b.toNat = 34
        · simp [h, negB]
        · have : ¬ (b.toNat : Int) = 34 := by omega
          simp [h, this, negB]
      rw [this, textB]
      exact decide_eq_decide.2 (by omega)
    · rw [leB_f (by omega)]
      conv => whnf
      have : textB b = false := by unfold textB; simp; omega
      rw [this]
  · rw [leB_f (by omega)]
    conv => whnf
    have : textB b = false := by unfold textB; simp; omega
    rw [this]
theorem nameOk_pure (s : List UInt8) (hs : s.length ≤ 9223372036854775806) : Pure Try.prog 57 [.str s] (· = .bool (nameL s)) := by
  refine pure_of_awp good Try.func57 rfl (by kernel_rfl) (by decide) ?_
  conv => whnf
  by_cases h1 : (1 : Int) ≤ (s.length : Int)
  case neg =>
    rw [leB_f (by omega)]
    conv => whnf
    simp [nameL]; omega
  rw [leB_t (by omega)]
  conv => whnf
  by_cases h2 : (s.length : Int) ≤ 8
  case neg =>
    rw [leB_f (by omega)]
    conv => whnf
    simp [nameL]; omega
  rw [leB_t (by omega)]
  conv => whnf
  refine .inl ((textHasOnly_pure s hs _ lowerB isLetter_pure).mono ?_)
  rintro r rfl
  conv => whnf
  simp [nameL, lower, h1, h2]

def thingB (id : Int) (kind text : List UInt8) : Bool := decide (1 ≤ id ∧ id ≤ 999) && nameL kind && textL text
theorem treeThingOk_pure (id : Int) (kind text : List UInt8) (kids : List T) (h2 : kind.length ≤ 9223372036854775806) (h3 : text.length ≤ 9223372036854775806) :
    Pure Try.prog 31 [.agg (T.mk id kind text kids).cells] (· = .bool (thingB id kind text)) := by
  refine pure_of_awp good Try.func31 rfl (by kernel_rfl) (by decide) ?_
  conv => whnf
  by_cases a1 : 1 ≤ id
  case neg =>
    rw [leB_f (by omega)]
    conv => whnf
    simp [thingB]; omega
  rw [leB_t (by omega)]
  conv => whnf
  by_cases a2 : id ≤ 999
  case neg =>
    rw [leB_f (by omega)]
    conv => whnf
    simp [thingB]; omega
  rw [leB_t (by omega)]
  conv => whnf
  refine .inl ((nameOk_pure kind (by omega)).mono ?_)
  rintro r rfl
  cases a3 : nameL kind
  · conv => whnf
    simp [thingB, a3]
  conv => whnf
  by_cases a4 : (text.length : Int) ≤ 12
  case neg =>
    rw [leB_f (by omega)]
    conv => whnf
    simp [thingB, textL]; omega
  rw [leB_t (by omega)]
  conv => whnf
  refine .inl ((textHasOnly_pure text (by omega) _ textB isTreeText_pure).mono ?_)
  rintro r rfl
  conv => whnf
  simp [thingB, textL, a1, a2, a3, a4]
end Go.Cod

namespace Go.Cod
open Go Go.Proofs
set_option maxRecDepth 10000

/-- A thing, that in which it is, its level. -/
abbrev Sp := T × Int × Int
def spV (s : Sp) : V := .agg (s.1.cells ++ [.int .i64 s.2.1, .int .i64 s.2.2])
mutual
def spT : T → Int → Int → List Sp
  | .mk id kind text kids, ov, lv => (.mk id kind text kids, ov, lv) :: spL kids id (IntKind.i64.wrap (lv + 1))
def spL : List T → Int → Int → List Sp
  | [], _, _ => []
  | t :: ts, ov, lv => spT t ov lv ++ spL ts ov lv
end
theorem spL_append (a b : List T) (ov lv : Int) : spL (a ++ b) ov lv = spL a ov lv ++ spL b ov lv := by
  induction a with
  | nil => rfl
  | cons t ts ih => simp [spL, ih]
def spRows (l : List Sp) : List (List V) := l.map fun s => [spV s]
theorem spRows_append (a b : List Sp) : spRows (a ++ b) = spRows a ++ spRows b := by simp [spRows]

/-- What is yielded in order is taken. -/
def Takes (ok : OkY) (log : List (List V)) (l : List Sp) : Prop := ∀ pre v suf, l = pre ++ v :: suf → ok (log ++ spRows pre) [spV v]
theorem Takes.left {ok : OkY} {log : List (List V)} {a b : List Sp} (h : Takes ok log (a ++ b)) : Takes ok log a := fun pre v suf e => h pre v (suf ++ b) (by rw [e]; simp)
theorem Takes.right {ok : OkY} {log : List (List V)} {a b : List Sp} (h : Takes ok log (a ++ b)) : Takes ok (log ++ spRows a) b := fun pre v suf e => by
  have := h (a ++ pre) v suf (by rw [e]; simp)
  rwa [spRows_append, ← List.append_assoc] at this
def Walked (log : List (List V)) (l : List Sp) (o : Out) (st' : St) : Prop := ∃ b log', o = .ret (.bool b) ∧ st' = [logO log' b] ∧ (b = true → log' = log ++ spRows l)

theorem treeWalk_full1 (t : T) (hs : t.Small) (ov lv : Int) (ok : OkY) (log : List (List V)) (hok : Takes ok log (spT t ov lv))
    (hT : ∀ t' ∈ t.kids, ∀ (ov lv : Int) (log : List (List V)), Takes ok log (spT t' ov lv) → Full Try.prog ok 56 [spV (t', ov, lv), .yld 0] [logO log true] (Walked log (spT t' ov lv))) :
    Full Try.prog ok 56 [spV (t, ov, lv), .yld 0] [logO log true] (Walked log (spT t ov lv)) := by
  cases hs with
  | @mk id kind text kids g1 g2 g3 g4 g5 =>
  simp only [T.kids] at hT
  have hlr := rows_len kids
  have hok0 : ok log [spV (.mk id kind text kids, ov, lv)] := by simpa [spRows] using hok [] _ _ rfl
  have hokL : Takes ok (log ++ [[spV (.mk id kind text kids, ov, lv)]]) (spL kids id (IntKind.i64.wrap (lv + 1))) := Takes.right (a := [(.mk id kind text kids, ov, lv)]) hok
  refine full_of_awp good Try.func56 rfl (by kernel_rfl) (by decide) ?_
  conv => whnf
  refine ⟨hok0, ?_⟩
  intro b
  have hfin : log ++ [[spV (.mk id kind text kids, ov, lv)]] ++ spRows (spL kids id (IntKind.i64.wrap (lv + 1))) = log ++ spRows (spT (.mk id kind text kids) ov lv) := by simp [spT, spRows]
  cases b
  · conv => whnf
    refine ⟨[], false, ?_⟩
    conv => whnf
    exact ⟨false, _, rfl, rfl, by simp⟩
  conv => whnf
  refine loop_drop (fun n fr st => ∃ i : Nat, n + i = kids.length ∧ st = [logO (log ++ [[spV (.mk id kind text kids, ov, lv)]] ++ spRows (spL (kids.take i) id (IntKind.i64.wrap (lv + 1)))) true, ⟨[[.int .i64 id, .str kind, .str text, .sl (T.rows kids), .int .i64 ov, .int .i64 lv]], 6, true, true, true, .cell⟩] ∧ Holds fr [(1, .yld 0), (2, .ptr 1 0 0), (13, .sl (T.rows kids)), (14, .int .i64 kids.length), (15, .int .i64 i)]) kids.length none
    ⟨0, rfl, by show [_, _] = [logO (_ ++ []) true, _]; rw [List.append_nil]; rfl, rfl, rfl, rfl, by rw [← hlr]; rfl, rfl, trivial⟩ ?_
  rintro n fr st ⟨i, hi, rfl, hh⟩
  obtain ⟨fr, rfl⟩ := hh.split
  clear hh
  conv => whnf
  by_cases hlt : i < kids.length
  · rw [ltB_t (by omega)]
    conv => whnf
    refine ⟨by omega, T.rows kids, kids[i].cells, 4, rfl, rows_get kids i hlt, rfl, cells_len _, ?_⟩
    have hc := hT kids[i] (List.getElem_mem _) id (IntKind.i64.wrap (lv + 1)) (log ++ [[spV (.mk id kind text kids, ov, lv)]] ++ spRows (spL (kids.take i) id (IntKind.i64.wrap (lv + 1)))) (by
      refine Takes.right (Takes.left (b := spL (kids.drop (i + 1)) id (IntKind.i64.wrap (lv + 1))) ?_)
      refine cast ?_ hokL
      congr 1
      conv => lhs; rw [← List.take_append_drop i kids, List.drop_eq_getElem_cons hlt]
      rw [spL_append]; simp [spL])
    have htk : spL (kids.take (i + 1)) id (IntKind.i64.wrap (lv + 1)) = spL (kids.take i) id (IntKind.i64.wrap (lv + 1)) ++ spT kids[i] id (IntKind.i64.wrap (lv + 1)) := by
      rw [List.take_succ_eq_append_getElem hlt, spL_append]; simp [spL]
    generalize kids[i] = t at hc htk ⊢
    cases t with
    | mk id' kind' text' kids' =>
    conv => whnf
    refine ⟨[0], false, ?_⟩
    conv => whnf
    refine hc.mono ?_
    rintro o st' ⟨b, log', rfl, rfl, hl⟩
    cases b
    · conv => whnf
      refine ⟨[], false, ?_⟩
      conv => whnf
      exact ⟨false, _, rfl, rfl, by simp⟩
    conv => whnf
    refine ⟨n - 1, by omega, some [0, 1], ?_⟩
    conv => whnf
    refine ⟨i + 1, by omega, ?_, rfl, rfl, rfl, rfl, ?_, trivial⟩
    · show [logO _ _, _] = [logO _ _, _]
      rw [hl rfl, htk, spRows_append, List.append_assoc]
      rfl
    · show V.int .i64 (IntKind.i64.wrap (i + 1)) = _
      rw [wrap64 (by omega) (by omega)]; simp
  · rw [ltB_f (by omega)]
    conv => whnf
    rw [List.take_of_length_le (by omega)]
    refine ⟨[], false, ?_⟩
    conv => whnf
    exact ⟨true, _, rfl, rfl, fun _ => hfin⟩
theorem treeWalk_full (t : T) (hs : t.Small) (ok : OkY) : ∀ (ov lv : Int) (log : List (List V)), Takes ok log (spT t ov lv) → Full Try.prog ok 56 [spV (t, ov, lv), .yld 0] [logO log true] (Walked log (spT t ov lv)) := by
  induction hs with
  | @mk id kind text kids g1 g2 g3 g4 g5 ih =>
    intro ov lv log hok
    exact treeWalk_full1 _ (.mk g1 g2 g3 g4 g5) ov lv ok log hok fun t' ht' => ih t' ht'
end Go.Cod

namespace Go.Cod
open Go Go.Proofs
set_option maxRecDepth 10000

def boxT (t : T) : O := ⟨[t.cells], 4, true, true, true, .cell⟩
theorem treeSpots1_full (t : T) (hs : t.Small) (ok : OkY) (hok : Takes ok [] (spT t 0 1)) : Full Try.prog ok 55 [.yld 0, .ptr 1 0 0] [logO [] true, boxT t] (fun o st' => ∃ r b log', o = .ret r ∧ st' = [logO log' b, boxT t] ∧ (b = true → log' = spRows (spT t 0 1))) := by
  have hc := treeWalk_full t hs ok 0 1 [] hok
  cases t with
  | mk id kind text kids =>
  refine full_of_awp good Try.func55 rfl (by kernel_rfl) (by decide) ?_
  conv => whnf
  refine ⟨[0], false, ?_⟩
  conv => whnf
  refine hc.mono ?_
  rintro o st' ⟨b, log', rfl, rfl, hl⟩
  conv => whnf
  refine ⟨[], false, ?_⟩
  conv => whnf
  exact ⟨_, b, log', rfl, rfl, hl⟩

theorem treeSpots_full (t : T) : Full Try.prog noY 30 [.agg t.cells] [] (fun o st' => o = .ret (.fn 55 [.ptr 0 0 0]) ∧ st' = [boxT t]) := by
  cases t with
  | mk id kind text kids =>
  refine full_of_awp good Try.func30 rfl (by kernel_rfl) (by decide) ?_
  conv => whnf
  refine ⟨[0], false, ?_⟩
  conv => whnf
  exact ⟨rfl, rfl⟩
end Go.Cod

namespace Go.Cod
open Go Go.Proofs
set_option maxRecDepth 10000

def T.id : T → Int
  | .mk id _ _ _ => id
def T.thing : T → Bool
  | .mk id kind text _ => thingB id kind text
def idS (s : Sp) : Int := s.1.id
theorem T.thing_mk (id : Int) (kind text : List UInt8) (kids : List T) : (T.mk id kind text kids).thing = thingB id kind text := rfl
mutual
theorem spT_ids : ∀ (t : T) (ov lv : Int), (spT t ov lv).map idS = t.ids
  | .mk id kind text kids, ov, lv => by simp [spT, T.ids, spL_ids kids, idS, T.id]
theorem spL_ids : ∀ (ts : List T) (ov lv : Int), (spL ts ov lv).map idS = T.idsL ts
  | [], _, _ => rfl
  | t :: ts, ov, lv => by simp [spL, T.idsL, spT_ids t, spL_ids ts]
end
mutual
theorem plainT_sp : ∀ (t : T) (ov lv : Int), 0 ≤ lv → lv ≤ 7 → (plainT t lv = true ↔ ∀ s ∈ spT t ov lv, s.2.2 ≤ 6 ∧ s.1.thing = true)
  | .mk id kind text kids, ov, lv, h0, h7 => by
    have hw : IntKind.i64.wrap (lv + 1) = lv + 1 := wrap64 (by omega) (by omega)
    simp only [plainT, spT, hw, List.mem_cons, forall_eq_or_imp, T.thing_mk, thingB, Bool.and_eq_true]
    by_cases h6 : lv ≤ 6
    · rw [plainL_sp kids id (lv + 1) (by omega) (by omega)]
      have : ¬ 6 < lv := by omega
      simp [this, h6, and_assoc]
    · have : 6 < lv := by omega
      simp [this, h6]
theorem plainL_sp : ∀ (ts : List T) (ov lv : Int), 0 ≤ lv → lv ≤ 7 → (plainL ts lv = true ↔ ∀ s ∈ spL ts ov lv, s.2.2 ≤ 6 ∧ s.1.thing = true)
  | [], _, _, _, _ => by simp [plainL, spL]
  | t :: ts, ov, lv, h0, h7 => by
    simp only [plainL, spL, Bool.and_eq_true, List.mem_append, plainT_sp t ov lv h0 h7, plainL_sp ts ov lv h0 h7]
    constructor
    · rintro ⟨a, b⟩ s (h | h)
      · exact a s h
      · exact b s h
    · intro h
      exact ⟨fun s hs => h s (.inl hs), fun s hs => h s (.inr hs)⟩
end
def AllOk (l : List Sp) : Prop := (∀ s ∈ l, s.2.2 ≤ 6 ∧ s.1.thing = true) ∧ (l.map idS).Nodup ∧ l.length ≤ 20
theorem AllOk.pre {a b : List Sp} (h : AllOk (a ++ b)) : AllOk a := by
  obtain ⟨h1, h2, h3⟩ := h
  refine ⟨fun s hs => h1 s (by simp [hs]), ?_, by simp at h3; omega⟩
  rw [List.map_append, List.nodup_append] at h2
  exact h2.1
theorem okT_iff (t : T) : okT t = true ↔ AllOk (spT t 0 1) := by
  have h := spT_ids t 0 1
  unfold okT AllOk
  rw [h]
  simp only [Bool.and_eq_true, decide_eq_true_eq, plainT_sp t 0 1 (by omega) (by omega), and_assoc]
  rw [← h, List.length_map]
theorem AllOk.snoc {l : List Sp} {s : Sp} : AllOk (l ++ [s]) ↔ AllOk l ∧ s.2.2 ≤ 6 ∧ s.1.thing = true ∧ idS s ∉ l.map idS ∧ l.length ≠ 20 := by
  unfold AllOk
  simp only [List.mem_append, List.mem_singleton, List.map_append, List.map_cons, List.map_nil, List.nodup_append, List.length_append, List.length_singleton]
  constructor
  · rintro ⟨h1, ⟨h2, _, h3⟩, h4⟩
    refine ⟨⟨fun s hs => h1 s (.inl hs), h2, by omega⟩, (h1 s (.inr rfl)).1, (h1 s (.inr rfl)).2, fun hm => h3 _ hm _ (by simp) rfl, by omega⟩
  · rintro ⟨⟨h1, h2, h4⟩, h5, h6, h7, h8⟩
    refine ⟨?_, ⟨h2, by simp, ?_⟩, by omega⟩
    · rintro s' (h | rfl)
      · exact h1 s' h
      · exact ⟨h5, h6⟩
    · intro a ha b hb e
      subst e; rw [hb] at ha; exact h7 ha

def seenRows (l : List Int) : List (List V) := l.map fun i => [.int .i64 i, .bool true]
theorem seenRows_len (l : List Int) : (seenRows l).length = l.length := by simp [seenRows]
theorem findRow_seen (l : List Int) (x : Int) : findRow (.int .i64 x) (seenRows l) = if x ∈ l then some (.bool true) else none := by
  induction l with
  | nil => rfl
  | cons a l ih =>
    by_cases h : a = x
    · subst h; simp [seenRows, findRow, rowKey, keyEq, rowVal]
    · have : ¬ x = a := fun e => h e.symm
      have e : findRow (.int .i64 x) ([.int .i64 a, .bool true] :: seenRows l) = findRow (.int .i64 x) (seenRows l) := by
        show (if decide (a = x) = true then _ else _) = _
        rw [if_neg (by simpa using h)]
      refine e.trans (ih.trans ?_)
      simp [this]
theorem putRow_seen (l : List Int) (x : Int) (h : x ∉ l) : putRow (.int .i64 x) (.bool true) (seenRows l) = seenRows (l ++ [x]) := by
  induction l with
  | nil => rfl
  | cons a l ih =>
    simp only [List.mem_cons, not_or] at h
    simp only [seenRows, List.map_cons, List.cons_append] at ih ⊢
    have h' : ¬ a = x := fun e => h.1 e.symm
    simp only [putRow, rowKey, keyEq, h', decide_false, Bool.false_eq_true, if_false, ih h.2]

def okbT (t : T) : OkY := fun log vs => ∃ pre s suf, spT t 0 1 = pre ++ s :: suf ∧ log = spRows pre ∧ vs = [spV s]
theorem okbT_takes (t : T) : Takes (okbT t) [] (spT t 0 1) := fun pre v suf e => ⟨pre, v, suf, e, by simp, rfl⟩
theorem spRows_len (l : List Sp) : (spRows l).length = l.length := by simp [spRows]
theorem implTreeOk_pure (t : T) (hs : t.Small) (hsps : ∀ s ∈ spT t 0 1, s.1.Small) : Pure Try.prog 11 [.agg t.cells] (· = .bool (okT t)) := by
  have hsp := treeSpots_full t
  have hok := okT_iff t
  have hcl := treeSpots1_full t hs _ (okbT_takes t)
  have hbox : boxT t = ⟨[t.cells], 4, true, true, true, .cell⟩ := rfl
  generalize okT t = okt at *
  have hobt : okbT t = fun log vs => ∃ pre s suf, spT t 0 1 = pre ++ s :: suf ∧ log = spRows pre ∧ vs = [spV s] := rfl
  generalize okbT t = okb at *
  generalize spT t 0 1 = sps at *
  cases t with
  | mk id kind text kids =>
  refine pure_of_awp good Try.func11 rfl (by kernel_rfl) (by decide) ?_
  conv => whnf
  refine .inr (.inl ⟨[], false, ?_⟩)
  conv => whnf
  refine hsp.mono ?_
  rintro o st' ⟨rfl, rfl⟩
  conv => whnf
  refine ⟨[4], false, okb, fun log st' => AllOk (sps.take log.length) ∧ st' = [⟨[(T.mk id kind text kids).cells], 4, true, true, true, .cell⟩, ⟨[[.bool false]], 1, true, true, true, .cell⟩, ⟨seenRows ((sps.take log.length).map idS), kindCode .i64, false, true, false, .map⟩, ⟨[[.map 2]], 1, true, true, true, .cell⟩, ⟨[(T.mk id kind text kids).cells], 4, false, true, true, .cell⟩], ?_⟩
  conv => whnf
  refine ⟨⟨⟨by simp, by simp, by simp⟩, rfl⟩, ?_, ?_⟩
  · rintro log vs st' ⟨hall, rfl⟩ ho
    rw [hobt] at ho
    obtain ⟨pre, s, suf, rfl, rfl, rfl⟩ := ho
    have htk : (pre ++ s :: suf).take (spRows pre).length = pre := by rw [spRows_len]; simp
    have htk1 : (pre ++ s :: suf).take (spRows pre ++ [[spV s]]).length = pre ++ [s] := by rw [List.length_append, spRows_len]; show List.take (pre.length + 1) _ = _; rw [List.take_append, List.take_of_length_le (by omega)]; simp
    rw [htk] at hall ⊢
    refine ⟨rfl, ?_⟩
    have hsn := AllOk.snoc (l := pre) (s := s)
    have hno : ¬ AllOk (pre ++ [s]) → okt = false := fun h => by
      cases e : okt
      · rfl
      · exact absurd (AllOk.pre (b := suf) (by simpa using hok.1 e)) h
    obtain ⟨⟨id', kind', text', kids'⟩, ov, lv⟩ := s
    simp only [T.thing_mk, idS, T.id] at hsn
    have hfr := findRow_seen (pre.map idS) id'
    have hpr := putRow_seen (pre.map idS) id'
    conv => whnf
    by_cases a1 : 6 < lv
    · rw [ltB_t a1]
      conv => whnf
      rw [hno fun h => by have : lv ≤ 6 := (hsn.1 h).2.1; omega]
    rw [ltB_f (show lv ≤ 6 by omega)]
    conv => whnf
    rw [seenRows_len, List.length_map]
    by_cases a2 : pre.length = 20
    · rw [eqB_t (by omega)]
      conv => whnf
      rw [hno fun h => by have := (hsn.1 h).2.2.2.2; omega]
    rw [eqB_f (by omega)]
    conv => whnf
    by_cases a3 : id' ∈ pre.map idS
    · rw [if_pos a3] at hfr
      refine AtKey_intro _ hfr ?_
      conv => whnf
      rw [hno fun h => (hsn.1 h).2.2.2.1 a3]
    rw [if_neg a3] at hfr
    refine AtKey_intro _ hfr ?_
    conv => whnf
    obtain ⟨b2, b3⟩ : kind'.length ≤ 1048576 ∧ text'.length ≤ 1048576 := by
      have h := hsps (.mk id' kind' text' kids', ov, lv) (by simp)
      cases h
      exact ⟨by assumption, by assumption⟩
    refine .inl ((treeThingOk_pure id' kind' text' kids' (by omega) (by omega)).mono ?_)
    rintro r rfl
    cases a4 : thingB id' kind' text'
    · conv => whnf
      rw [hno fun h => by have := (hsn.1 h).2.2.1; rw [a4] at this; cases this]
    conv => whnf
    refine ⟨some [0, 1, 2, 3, 4], ?_⟩
    conv => whnf
    have hall' : AllOk (pre ++ [(.mk id' kind' text' kids', ov, lv)]) := hsn.2 ⟨hall, (show lv ≤ 6 by omega), a4, a3, a2⟩
    have hpr := hpr a3
    rw [htk1]
    refine ⟨hall', ?_⟩
    have hse : seenRows ((pre ++ [((.mk id' kind' text' kids', ov, lv) : Sp)]).map idS) = putRow (.int .i64 id') (.bool true) (seenRows (pre.map idS)) := by
      rw [hpr, List.map_append]; rfl
    rw [hse]
    rfl
  · refine hcl.mono ?_
    rintro o st' ⟨r, b, log', rfl, rfl, hl⟩
    refine ⟨_, _, _, rfl, rfl, fun hb st' hI => ?_⟩
    obtain ⟨hall, rfl⟩ := hI
    rw [hl hb, List.take_of_length_le (by rw [spRows_len]; omega)] at hall
    conv => whnf
    rw [hok.2 hall]
end Go.Cod

namespace Go.Cod
open Go Go.Proofs
set_option maxRecDepth 10000

mutual
theorem spT_small : ∀ (t : T) (ov lv : Int), t.Small → ∀ s ∈ spT t ov lv, s.1.Small
  | .mk id kind text kids, ov, lv, h => by
    intro s hs
    rcases List.mem_cons.1 hs with rfl | hs
    · exact h
    · cases h with
      | mk g1 g2 g3 g4 g5 => exact spL_small kids _ _ g5 s hs
theorem spL_small : ∀ (ts : List T) (ov lv : Int), (∀ t ∈ ts, t.Small) → ∀ s ∈ spL ts ov lv, s.1.Small
  | [], _, _, _ => by simp [spL]
  | t :: ts, ov, lv, h => by
    intro s hs
    rcases List.mem_append.1 hs with hs | hs
    · exact spT_small t ov lv (h t (by simp)) s hs
    · exact spL_small ts ov lv (fun t ht => h t (by simp [ht])) s hs
end
theorem implTreeOk (t : T) (hs : t.Small) : Pure Try.prog 11 [.agg t.cells] (· = .bool (okT t)) := implTreeOk_pure t hs (spT_small t 0 1 hs)

end Go.Cod

namespace Go.Cod
open Go Go.Proofs
set_option maxRecDepth 10000

end Go.Cod

namespace Go.Cod
open Go Go.Proofs
set_option maxRecDepth 10000

end Go.Cod

namespace Go.Cod
open Go Go.Proofs
set_option maxRecDepth 10000

/-- A tree whose slices lie in a pool: block and capacity of what is in a thing. -/
inductive LT where
  | mk (id : Int) (kind text : List UInt8) (h : Option (Nat × Nat)) (kids : List LT)

def hdV : Option (Nat × Nat) → Nat → V
  | none, _ => .nils
  | some (b, c), n => .dref b n c
def LT.cells : LT → List V
  | .mk id kind text h kids => [.int .i64 id, .str kind, .str text, hdV h kids.length]
def LT.rows (ls : List LT) : List (List V) := ls.map LT.cells
mutual
def LT.erase : LT → T
  | .mk id kind text _ kids => .mk id kind text (LT.eraseL kids)
def LT.eraseL : List LT → List T
  | [] => []
  | l :: ls => l.erase :: LT.eraseL ls
end
/-- The blocks of a list and of all in it. -/
def rootE : Option (Nat × Nat) → List LT → List (List V)
  | none, _ => []
  | some (b, c), kids => [ent b c 4 (LT.rows kids)]
mutual
def LT.ents : LT → List (List V)
  | .mk _ _ _ h kids => LT.entsL kids ++ rootE h kids
def LT.entsL : List LT → List (List V)
  | [] => []
  | l :: ls => l.ents ++ LT.entsL ls
end
mutual
/-- Where there is no block nothing is in it. -/
def LT.Wf : LT → Prop
  | .mk _ _ _ h kids => (h = none → kids = []) ∧ LT.WfL kids
def LT.WfL : List LT → Prop
  | [] => True
  | l :: ls => l.Wf ∧ LT.WfL ls
end
theorem LT.eraseL_eq (ls : List LT) : LT.eraseL ls = ls.map LT.erase := by
  induction ls with
  | nil => rfl
  | cons l ls ih => simp [LT.eraseL, ih]
theorem LT.eraseL_len (ls : List LT) : (LT.eraseL ls).length = ls.length := by simp [LT.eraseL_eq]
theorem LT.rows_len (ls : List LT) : (LT.rows ls).length = ls.length := by simp [LT.rows]
theorem LT.cells_len (l : LT) : l.cells.length = 4 := by cases l; rfl
theorem LT.rows_get (ls : List LT) (i : Nat) (h : i < ls.length) : (LT.rows ls)[i]? = some ls[i].cells := by simp [LT.rows, h]
theorem hdV_ok (h : Option (Nat × Nat)) (n : Nat) : (hdV h n).leaf = true ∧ (hdV h n).clean 0 = true ∧ (hdV h n).flat = true := by
  rcases h with _ | ⟨b, c⟩ <;> exact ⟨rfl, rfl, rfl⟩
theorem T.cells_ok (t : T) : V.clean.cleanL 0 t.cells = true ∧ ∀ x ∈ t.cells, x.leaf = true := by
  cases t with
  | mk id kind text kids => exact ⟨rfl, by simp [T.cells, V.leaf]⟩
theorem T.rows_ok (ts : List T) : V.clean.cleanLL 0 (T.rows ts) = true ∧ ∀ e ∈ T.rows ts, ∀ x ∈ e, x.leaf = true := by
  rw [T.rows_eq]
  refine ⟨?_, fun e he => ?_⟩
  · rw [cleanLL_iff]
    intro e he
    obtain ⟨t, _, rfl⟩ := List.mem_map.1 he
    exact t.cells_ok.1
  · obtain ⟨t, _, rfl⟩ := List.mem_map.1 he
    exact t.cells_ok.2

mutual
/-- As others see it. -/
theorem LT.view {es : List (List V)} : ∀ (l : LT), l.Wf → (∀ e ∈ l.ents, e ∈ es) → ViewL es l.cells l.erase.cells
  | .mk id kind text h kids, hw, he => by
    simp only [LT.Wf] at hw
    simp only [LT.ents, List.mem_append] at he
    have hk := LT.viewL kids hw.2 (fun e h => he e (.inl h))
    simp only [LT.cells, LT.erase, T.cells]
    refine ⟨rfl, fun i x y a b => ?_⟩
    match i, a, b with
    | 0, a, b => simp at a b; subst a; subst b; exact .same _
    | 1, a, b => simp at a b; subst a; subst b; exact .same _
    | 2, a, b => simp at a b; subst a; subst b; exact .same _
    | 3, a, b =>
      simp at a b; subst a; subst b
      rcases h with _ | ⟨b, c⟩
      · rw [hw.1 rfl]; exact .nils
      · refine .dref (sz := 4) (rows := LT.rows kids) (he _ (.inr (by simp [rootE]))) (LT.rows_len kids).symm (by rw [T.rows_eq, List.length_map, LT.eraseL_len, LT.rows_len]) (T.rows_ok _).1 (T.rows_ok _).2 (fun i r r' p q => ?_) (fun i r r' j x y p q u v => ?_)
        · simp only [LT.rows, List.getElem?_map, Option.map_eq_some_iff] at p
          obtain ⟨l, _, rfl⟩ := p
          rw [T.rows_eq, List.getElem?_map, Option.map_eq_some_iff] at q
          obtain ⟨t, _, rfl⟩ := q
          rw [LT.cells_len, _root_.Go.Cod.cells_len]
        · simp only [LT.rows, List.getElem?_map, Option.map_eq_some_iff] at p
          obtain ⟨l, hl, rfl⟩ := p
          rw [T.rows_eq, LT.eraseL_eq, List.map_map, List.getElem?_map, hl] at q
          simp only [Option.map_some, Option.some.injEq] at q
          subst q
          exact (hk l (List.mem_of_getElem? hl)).2 j x y u (by simpa [Function.comp] using v)
    | i + 4, a, b => simp at a
theorem LT.viewL {es : List (List V)} : ∀ (ls : List LT), LT.WfL ls → (∀ e ∈ LT.entsL ls, e ∈ es) → ∀ l ∈ ls, ViewL es l.cells l.erase.cells
  | [], _, _, l, h => by simp at h
  | l :: ls, hw, he, l', h => by
    simp only [LT.WfL] at hw
    simp only [LT.entsL, List.mem_append] at he
    have h0 := LT.view l hw.1 fun e h => he e (.inl h)
    rcases List.mem_cons.1 h with h | h
    · rw [h]; exact h0
    · exact LT.viewL ls hw.2 (fun e h => he e (.inr h)) l' h
end
end Go.Cod

namespace Go.Cod
open Go Go.Proofs
set_option maxRecDepth 10000

end Go.Cod

namespace Go.Cod
open Go Go.Proofs
set_option maxRecDepth 10000

/- Things counted; marked. -/
mutual
def LT.size : LT → Nat
  | .mk _ _ _ _ kids => 1 + LT.sizeL kids
def LT.sizeL : List LT → Nat
  | [] => 0
  | l :: ls => l.size + LT.sizeL ls
end
/- Trees, marked. -/
mutual
def T.size : T → Nat
  | .mk _ _ _ kids => 1 + T.sizeL kids
def T.sizeL : List T → Nat
  | [] => 0
  | t :: ts => t.size + T.sizeL ts
end

theorem putEnt_mem {b c s : Nat} {rows rows' : List (List V)} {es : List (List V)} (h : ent b c s rows ∈ es) : ent b c s rows' ∈ putEnt b rows' es := by
  unfold putEnt
  exact List.mem_map.2 ⟨_, h, by rw [if_pos (labOf_ent b c s rows)]; rfl⟩
theorem putEnt_other {b : Nat} {rows' : List (List V)} {es : List (List V)} {e : List V} (h : e ∈ es) (hb : labOf e ≠ b) : e ∈ putEnt b rows' es := by
  unfold putEnt
  exact List.mem_map.2 ⟨e, h, by rw [if_neg hb]⟩

end Go.Cod

namespace Go.Cod
open Go Go.Proofs
set_option maxRecDepth 10000

end Go.Cod

namespace Go.Cod
open Go Go.Proofs
set_option maxRecDepth 10000

def LT.kids : LT → List LT
  | .mk _ _ _ _ kids => kids

end Go.Cod

namespace Go.Cod
open Go Go.Proofs
set_option maxRecDepth 10000

end Go.Cod

namespace Go.Cod
open Go Go.Proofs
set_option maxRecDepth 10000

end Go.Cod

namespace Go.Cod
open Go Go.Proofs
set_option maxRecDepth 10000

end Go.Cod

namespace Go.Cod
open Go Go.Proofs
set_option maxRecDepth 10000

mutual
theorem LT.flat : ∀ (l : LT), ∀ e ∈ l.ents, ∀ r ∈ rowsOf e, ∀ x ∈ r, x.flat = true
  | .mk id kind text h kids => by
    intro e he
    simp only [LT.ents, List.mem_append] at he
    rcases he with he | he
    · exact LT.flatL kids e he
    · rcases h with _ | ⟨b, c⟩
      · simp [rootE] at he
      · simp only [rootE, List.mem_singleton] at he
        subst he
        intro r hr x hx
        simp only [rowsOf, ent, LT.rows, List.mem_map] at hr
        obtain ⟨l, _, rfl⟩ := hr
        cases l with
        | mk lid lk lt lh lks =>
        simp only [LT.cells, List.mem_cons, List.not_mem_nil, or_false] at hx
        rcases hx with rfl | rfl | rfl | rfl
        · rfl
        · rfl
        · rfl
        · exact (hdV_ok _ _).2.2
theorem LT.flatL : ∀ (ls : List LT), ∀ e ∈ LT.entsL ls, ∀ r ∈ rowsOf e, ∀ x ∈ r, x.flat = true
  | [] => by simp [LT.entsL]
  | l :: ls => by
    intro e he
    simp only [LT.entsL, List.mem_append] at he
    rcases he with he | he
    · exact LT.flat l e he
    · exact LT.flatL ls e he
end
theorem FlatO.pool (l : LT) : FlatO (poolO l.ents) := ⟨rfl, .inr ⟨rfl, rfl, l.flat⟩⟩
def T.kind : T → List UInt8
  | .mk _ kind _ _ => kind
def T.text : T → List UInt8
  | .mk _ _ text _ => text
theorem viewL2 {es : List (List V)} {x y x' y' : V} (h : View es x y) (h' : View es x' y') : ViewL es [x, x'] [y, y'] := ⟨rfl, fun i a b p q => by
  match i, p, q with
  | 0, p, q => simp at p q; subst p; subst q; exact h
  | 1, p, q => simp at p q; subst p; subst q; exact h'
  | i + 2, p, q => simp at p⟩
end Go.Cod

namespace Go.Cod
open Go Go.Proofs
set_option maxRecDepth 10000

end Go.Cod

namespace Go.Cod
open Go Go.Proofs
set_option maxRecDepth 10000

/- What is found. -/
/- What something is in. -/
end Go.Cod

namespace Go.Cod
open Go Go.Proofs
set_option maxRecDepth 10000

end Go.Cod

namespace Go.Cod
open Go Go.Proofs
set_option maxRecDepth 10000

end Go.Cod

namespace Go.Cod
open Go Go.Proofs
set_option maxRecDepth 10000

end Go.Cod

namespace Go.Cod
open Go Go.Proofs
variable [Lam]

/- A long region in pieces. -/
def aOpsR (P : Program) (ok : OkY) (τ : Tau) (ops : Array Oper) (l : List Oper) : (Nat → V) → St → ((Nat → V) → St → Prop) → (V → (Nat → V) → St → Prop) → Prop :=
  List.rec (motive := fun _ => (Nat → V) → St → ((Nat → V) → St → Prop) → (V → (Nat → V) → St → Prop) → Prop)
    (fun fr st K _ => K fr st)
    (fun o _ ih fr st K Z => match o.guard with
      | none => aOp P ok τ o fr st (fun v st' => force v fun v => forceSt st' fun st' => ih (put fr o.dst v) st' K Z) (fun v st' => Z v fr st')
      | some (j, want) => match (ops[j]?).bind (·.dst) with
        | some d => (match fr d with
          | .bool b => BC (if want then b else negB b) (aOp P ok τ o fr st (fun v st' => force v fun v => forceSt st' fun st' => ih (put fr o.dst v) st' K Z) (fun v st' => Z v fr st'))
            (ih (put fr o.dst undefV) st K Z)
          | .raw (.tuple _) => ih (put fr o.dst undefV) st K Z
          | _ => False)
        | none => False) l
theorem aOpsR_eq (P : Program) (ok : OkY) (τ : Tau) (ops : Array Oper) (l : List Oper) : aOpsR P ok τ ops l = aOps P ok τ ops l := rfl
theorem aOps_append (P : Program) (ok : OkY) (τ : Tau) (ops : Array Oper) (K : (Nat → V) → St → Prop) (Z : V → (Nat → V) → St → Prop) (l2 : List Oper) : ∀ (l1 : List Oper) (fr : Nat → V) (st : St),
    aOps P ok τ ops (l1 ++ l2) fr st K Z = aOps P ok τ ops l1 fr st (fun fr st => aOps P ok τ ops l2 fr st K Z) Z
  | [], fr, st => rfl
  | o :: l1, fr, st => by
    have ih := aOps_append P ok τ ops K Z l2 l1
    rw [List.cons_append, aOps_cons, aOps_cons]
    simp only [ih]
theorem aOps_cut {P : Program} {ok : OkY} {τ : Tau} {ops : Array Oper} {l : List Oper} {fr : Nat → V} {st : St} {K : (Nat → V) → St → Prop} {Z : V → (Nat → V) → St → Prop} (k : Nat)
    (h : ∀ K1 : (Nat → V) → St → Prop, (∀ fr st, aOps P ok τ ops (l.drop k) fr st K Z → K1 fr st) → aOpsR P ok τ ops (l.take k) fr st K1 Z) : aOps P ok τ ops l fr st K Z := by
  have := h (fun fr st => aOps P ok τ ops (l.drop k) fr st K Z) fun _ _ h => h
  rw [aOpsR_eq, ← aOps_append, List.take_append_drop] at this
  exact this
theorem aOps_with {P : Program} {ok : OkY} {τ : Tau} {ops : Array Oper} {l : List Oper} {fr : Nat → V} {st : St} {K : (Nat → V) → St → Prop} {Z : V → (Nat → V) → St → Prop} (L : List (Nat × V)) (hh : Holds fr L) (h : ∀ b, aOpsR P ok τ ops l (setL b L) st K Z) : aOps P ok τ ops l fr st K Z := by
  obtain ⟨b, rfl⟩ := hh.split
  exact h b
theorem aOps_cutw {P : Program} {ok : OkY} {τ : Tau} {ops : Array Oper} {l : List Oper} {fr : Nat → V} {st : St} {K : (Nat → V) → St → Prop} {Z : V → (Nat → V) → St → Prop} (k : Nat) (L : List (Nat × V)) (hh : Holds fr L)
    (h : ∀ K1 : (Nat → V) → St → Prop, (∀ fr st, aOps P ok τ ops (l.drop k) fr st K Z → K1 fr st) → ∀ b, aOpsR P ok τ ops (l.take k) (setL b L) st K1 Z) : aOps P ok τ ops l fr st K Z := by
  obtain ⟨b, rfl⟩ := hh.split
  exact aOps_cut k fun K1 h1 => h K1 h1 b
end Go.Cod

namespace Go.Cod
open Go Go.Proofs
variable [Lam]

/- The walk of a region, sealed for the kernel too. -/
def awpG (A : Program → OkY → Tau → Array Oper → List Oper → (Nat → V) → St → ((Nat → V) → St → Prop) → (V → (Nat → V) → St → Prop) → Prop) (P : Program) (ok : OkY) (τ : Tau) (nb : Nat) (c : Code) : (Ex → (Nat → V) → St → Prop) → (Nat → V) → St → Prop :=
  Code.rec (motive := fun _ => Nat → (Ex → (Nat → V) → St → Prop) → (Nat → V) → St → Prop)
    (fun _ Q fr st => Q .normal fr st)
    (fun _ ops d _ Q fr st => match d with
      | false => A P ok τ ops ops.toList fr st (Q .normal) (fun v => Q (.pan v))
      | true => (match hasHand τ ops with
        | true => withMat τ ops fun M CH => Chk (mix2Ok τ M CH ops) (aEOps2 P τ CH ops ops.toList 0 fr st fun fr => forcePlan (planOf M CH ops) fun plan => aXOps P ok τ ops plan (Q .normal) plan [] fr st)
        | false => (match orderOk ops with
          | true => aQOps P τ ops ops.toList fr st fun fr => Q .normal fr st
          | false => (match mixOk ops with
            | true => aEOps P τ ops ops.toList 0 fr st fun fr => aCOps P ok τ ops ops.toList 0 fr st (Q .normal)
            | false => withMat τ ops fun M CH => (match mix2Ok τ M CH ops with
              | true => aEOps2 P τ CH ops ops.toList 0 fr st fun fr => forcePlan (planOf M CH ops) fun plan => aXOps P ok τ ops plan (Q .normal) plan [] fr st
              | false => aAny P ok τ ops (Q .normal) (fun v => Q (.pan v)) ops.size [] fr st)))))
    (fun _ _ iha ihb nb Q fr st => iha nb (AThen (ihb nb Q) Q) fr st)
    (fun c _ _ iha ihb nb Q fr st => ACond (ev fr c) (iha nb Q fr st) (ihb nb Q fr st))
    (fun id _ ih nb Q fr st => ih nb (ABlock id Q) fr st)
    (fun _ ih nb Q fr st => ∃ (J : Nat → (Nat → V) → St → Prop) (n : Nat) (flag : Bool) (s0 : Option (List Nat)), cmp nb s0 fr st (J n) ∧
      ∀ n fr st, J n fr st → ih nb (AThen (ALoop nb flag J n) Q) fr st)
    (fun f ps _ _ ihx ihy _ Q fr st => (match ev fr f with
      | .fn g cap => ARange P g cap ps.size (fun Q vs st' => ihx st.length (AThen (ihy st.length Q) fun _ _ _ => False) (setPs ps.toList vs fr) st') Q fr st
      | _ => False))
    (fun id _ Q fr st => Q (.exit id) fr st)
    (fun _ _ _ _ _ _ => False)
    (fun _ _ _ _ _ => False)
    (fun _ _ _ _ _ => False)
    (fun _ Q fr st => Q .ret fr st)
    (fun _ _ _ _ _ => False) c nb

theorem pure_of_box {P : Program} {τ : Tau} (hτ : TauGood P τ) {f : FuncId} {fn : Func} {c : Code} {args : List V} {R : V → Prop}
    (hf : P.funcs[f]? = some fn) (hb : fn.body = some c) (hname : (fn.name == "runtime.NumGoroutine") = false) (hc : codeOk fn.ntmps c = true)
    (h : ∀ A, A = aOps → awpG A P noY τ 0 c (AEnd τ fn.results.toList R) (initFr args) []) : Pure P f args R := pure_of_awp hτ hf hb hname hc (h aOps rfl)
section
variable {A : Program → OkY → Tau → Array Oper → List Oper → (Nat → V) → St → ((Nat → V) → St → Prop) → (V → (Nat → V) → St → Prop) → Prop}
variable {P : Program} {ok : OkY} {τ : Tau} {ops : Array Oper} {l : List Oper} {fr : Nat → V} {st : St} {K : (Nat → V) → St → Prop} {Z : V → (Nat → V) → St → Prop}
theorem box_go (hA : A = aOps) (h : aOpsR P ok τ ops l fr st K Z) : A P ok τ ops l fr st K Z := by rw [hA]; exact h
theorem box_cut (hA : A = aOps) (k : Nat) (h : ∀ K1 : (Nat → V) → St → Prop, (∀ fr st, A P ok τ ops (l.drop k) fr st K Z → K1 fr st) → aOpsR P ok τ ops (l.take k) fr st K1 Z) : A P ok τ ops l fr st K Z := by
  rw [hA] at h ⊢
  exact aOps_cut k h
theorem box_with (hA : A = aOps) (L : List (Nat × V)) (hh : Holds fr L) (h : ∀ b, aOpsR P ok τ ops l (setL b L) st K Z) : A P ok τ ops l fr st K Z := by
  rw [hA]
  exact aOps_with L hh h
theorem box_cutw (hA : A = aOps) (k : Nat) (L : List (Nat × V)) (hh : Holds fr L)
    (h : ∀ K1 : (Nat → V) → St → Prop, (∀ fr st, A P ok τ ops (l.drop k) fr st K Z → K1 fr st) → ∀ b, aOpsR P ok τ ops (l.take k) (setL b L) st K1 Z) : A P ok τ ops l fr st K Z := by
  rw [hA] at h ⊢
  exact aOps_cutw k L hh h
end
end Go.Cod

namespace Go.Cod
open Go Go.Proofs
set_option linter.all false
variable [Lam]

/-- What a function leaves as its own is shared for good. -/
theorem Full.own_pure {P : Program} {f : FuncId} {args : List V} {rows : List (List V)} {w : Nat} (h : Full P noY f args [] fun o st' => o = .ret (.own 0) ∧ st' = [⟨rows, w, true, true, false, .cell⟩])
    (hcl : V.clean.cleanLL 0 rows = true) (hlf : ∀ e ∈ rows, ∀ x ∈ e, x.leaf = true) (hfl : ∀ e ∈ rows, ∀ x ∈ e, x.flat = true) (ha : V.clean.cleanL 0 args = true) : Pure P f args (· = .sl rows) := by
  have h1 := Full.lent (ok := noY) (ps := [[]]) (vs := args) h ⟨rfl, fun i x y p q => by rw [p] at q; cases q; exact .same _⟩ ha (by
    rintro o st1 ⟨rfl, rfl⟩
    exact ⟨_, rfl, rfl, fun p hp => by rw [List.mem_singleton.1 hp]; exact ⟨rfl, .inl ⟨rfl, hfl⟩⟩⟩)
  have h2 := Full.absorb (R' := fun o st' => ∃ b c, o = .ret (.dref b rows.length c) ∧ st' = [poolO [ent b c w rows]]) h1 (by
    rintro o st' ⟨v, st1, ⟨hv, rfl⟩, rfl, rfl⟩
    cases hv
    exact ⟨.own 1, [poolO []], 0, [], rows, w, rfl, rfl, rfl, Nat.le_refl _, by simp [poolO], fun b c => ⟨rfl, b, c, rfl, rfl⟩⟩)
  refine Full.freeze (Full.start (st0 := []) h2) ?_
  rintro o st' ⟨b, c, rfl, rfl⟩
  refine ⟨_, _, .sl rows, rfl, rfl, ?_, rfl, rfl⟩
  refine .dref (sz := w) (rows := rows) (by simp) rfl rfl hcl hlf (fun i r r' p q => ?_) (fun i r r' j x y p q u v => ?_)
  · rw [p] at q; cases q; rfl
  · rw [p] at q; cases q; rw [u] at v; cases v; exact .same _
end Go.Cod

namespace Go.Cod
set_option linter.all false

/-! The least cost to make one forest another, by places: p and q tell where what is in a thing begins, u what it costs that one becomes the other. -/
def dist (p q : Nat → Nat) (u : Nat → Nat → Nat) (l1 h1 l2 h2 : Nat) : Nat :=
  if h1 ≤ l1 then h2 - l2 else if h2 ≤ l2 then h1 - l1 else
    min (min (dist p q u l1 (h1 - 1) l2 h2 + 1) (dist p q u l1 h1 l2 (h2 - 1) + 1))
      (dist p q u l1 (max l1 (min (p (h1 - 1)) (h1 - 1))) l2 (max l2 (min (q (h2 - 1)) (h2 - 1))) + dist p q u (max l1 (min (p (h1 - 1)) (h1 - 1))) (h1 - 1) (max l2 (min (q (h2 - 1)) (h2 - 1))) (h2 - 1) + u (h1 - 1) (h2 - 1))
termination_by (h1 - l1) + (h2 - l2)
decreasing_by all_goals omega

def Closed (p : Nat → Nat) (l h : Nat) : Prop := ∀ x, l ≤ x → x < h → l ≤ p x
structure Lamin (p : Nat → Nat) (n : Nat) : Prop where
  le : ∀ x, x < n → p x ≤ x
  nest : ∀ x y, x < y → y < n → x < p y ∨ p y ≤ p x
theorem Closed.le {p l h h'} (H : Closed p l h) (hh : h' ≤ h) : Closed p l h' := fun x a b => H x a (by omega)
theorem Closed.from {p l h m} (H : Closed p m h) (hh : l ≤ m) : ∀ x, m ≤ x → x < h → l ≤ p x := fun x a b => Nat.le_trans hh (H x a b)
theorem Lamin.closed {p n} (H : Lamin p n) {a : Nat} (ha : a < n) : Closed p (p a) (a + 1) := fun x h1 h2 => by
  rcases Nat.lt_or_ge x a with h | h
  · rcases H.nest x a h ha with h3 | h3
    · omega
    · exact h3
  · have : x = a := by omega
    subst this; exact Nat.le_refl _

variable {p q : Nat → Nat} {u : Nat → Nat → Nat}
theorem dist_l {l1 h1 l2 h2 : Nat} (h : h1 ≤ l1) : dist p q u l1 h1 l2 h2 = h2 - l2 := by
  rw [dist, if_pos h]
theorem dist_r {l1 h1 l2 h2 : Nat} (h : h2 ≤ l2) : dist p q u l1 h1 l2 h2 = h1 - l1 := by
  rw [dist]
  by_cases h' : h1 ≤ l1
  · rw [if_pos h']; omega
  · rw [if_neg h', if_pos h]
theorem dist_succ {l1 a l2 b : Nat} (h1 : l1 ≤ a) (h2 : l2 ≤ b) : dist p q u l1 (a + 1) l2 (b + 1) =
    min (min (dist p q u l1 a l2 (b + 1) + 1) (dist p q u l1 (a + 1) l2 b + 1))
      (dist p q u l1 (max l1 (min (p a) a)) l2 (max l2 (min (q b) b)) + dist p q u (max l1 (min (p a) a)) a (max l2 (min (q b) b)) b + u a b) := by
  rw [dist, if_neg (by omega), if_neg (by omega)]
  simp only [Nat.add_sub_cancel]
theorem dist_step {l1 a l2 b : Nat} (h1 : l1 ≤ p a) (h1' : p a ≤ a) (h2 : l2 ≤ q b) (h2' : q b ≤ b) : dist p q u l1 (a + 1) l2 (b + 1) =
    min (min (dist p q u l1 a l2 (b + 1) + 1) (dist p q u l1 (a + 1) l2 b + 1)) (dist p q u l1 (p a) l2 (q b) + dist p q u (p a) a (q b) b + u a b) := by
  rw [dist_succ (by omega) (by omega), show max l1 (min (p a) a) = p a by omega, show max l2 (min (q b) b) = q b by omega]
theorem dist_del {l1 a l2 h2 : Nat} (h : l1 ≤ a) : dist p q u l1 (a + 1) l2 h2 ≤ dist p q u l1 a l2 h2 + 1 := by
  by_cases h' : h2 ≤ l2
  · rw [dist_r h', dist_r h']; omega
  · obtain ⟨b, rfl⟩ : ∃ b, h2 = b + 1 := ⟨h2 - 1, by omega⟩
    rw [dist_succ h (by omega)]; omega
theorem dist_ins {l1 h1 l2 b : Nat} (h : l2 ≤ b) : dist p q u l1 h1 l2 (b + 1) ≤ dist p q u l1 h1 l2 b + 1 := by
  by_cases h' : h1 ≤ l1
  · rw [dist_l h', dist_l h']; omega
  · obtain ⟨a, rfl⟩ : ∃ a, h1 = a + 1 := ⟨h1 - 1, by omega⟩
    rw [dist_succ (by omega) h]; omega
theorem dist_mat {l1 a l2 b : Nat} (h1 : l1 ≤ p a) (h1' : p a ≤ a) (h2 : l2 ≤ q b) (h2' : q b ≤ b) : dist p q u l1 (a + 1) l2 (b + 1) ≤ dist p q u l1 (p a) l2 (q b) + dist p q u (p a) a (q b) b + u a b := by
  rw [dist_step h1 h1' h2 h2']; omega
theorem dist_dels {l1 m1 l2 h2 : Nat} (h : l1 ≤ m1) : ∀ k, dist p q u l1 (m1 + k) l2 h2 ≤ dist p q u l1 m1 l2 h2 + k
  | 0 => by simp
  | k + 1 => by
    have := dist_dels (l2 := l2) (h2 := h2) h k
    have := dist_del (p := p) (q := q) (u := u) (l1 := l1) (a := m1 + k) (l2 := l2) (h2 := h2) (by omega)
    rw [← Nat.add_assoc]; omega
theorem dist_inss {l1 h1 l2 m2 : Nat} (h : l2 ≤ m2) : ∀ k, dist p q u l1 h1 l2 (m2 + k) ≤ dist p q u l1 h1 l2 m2 + k
  | 0 => by simp
  | k + 1 => by
    have := dist_inss (l1 := l1) (h1 := h1) h k
    have := dist_ins (p := p) (q := q) (u := u) (l1 := l1) (h1 := h1) (l2 := l2) (b := m2 + k) (by omega)
    rw [← Nat.add_assoc]; omega
/-- Side by side it costs no more. -/
theorem dist_app : ∀ (n : Nat) {l1 m1 h1 l2 m2 h2 : Nat}, (h1 - m1) + (h2 - m2) ≤ n → l1 ≤ m1 → m1 ≤ h1 → l2 ≤ m2 → m2 ≤ h2 → (∀ x, x < h1 → p x ≤ x) → (∀ x, x < h2 → q x ≤ x) → Closed p m1 h1 → Closed q m2 h2 →
    dist p q u l1 h1 l2 h2 ≤ dist p q u l1 m1 l2 m2 + dist p q u m1 h1 m2 h2 := by
  intro n
  induction n with
  | zero =>
    intro l1 m1 h1 l2 m2 h2 hn a1 a2 b1 b2 _ _ _ _
    obtain rfl : h1 = m1 := by omega
    obtain rfl : h2 = m2 := by omega
    omega
  | succ n ih =>
    intro l1 m1 h1 l2 m2 h2 hn a1 a2 b1 b2 lp lq cp cq
    by_cases e1 : h1 ≤ m1
    · obtain rfl : h1 = m1 := by omega
      rw [dist_l (l1 := h1) (Nat.le_refl _)]
      obtain ⟨k, rfl⟩ : ∃ k, h2 = m2 + k := ⟨h2 - m2, by omega⟩
      have := dist_inss (p := p) (q := q) (u := u) (l1 := l1) (h1 := h1) b1 k
      omega
    by_cases e2 : h2 ≤ m2
    · obtain rfl : h2 = m2 := by omega
      rw [dist_r (l2 := h2) (Nat.le_refl _)]
      obtain ⟨k, rfl⟩ : ∃ k, h1 = m1 + k := ⟨h1 - m1, by omega⟩
      have := dist_dels (p := p) (q := q) (u := u) (l2 := l2) (h2 := h2) a1 k
      omega
    obtain ⟨a, rfl⟩ : ∃ a, h1 = a + 1 := ⟨h1 - 1, by omega⟩
    obtain ⟨b, rfl⟩ : ∃ b, h2 = b + 1 := ⟨h2 - 1, by omega⟩
    have ca := cp a (by omega) (by omega)
    have cb := cq b (by omega) (by omega)
    have la := lp a (by omega)
    have lb := lq b (by omega)
    have i1 := ih (l1 := l1) (m1 := m1) (h1 := a) (l2 := l2) (m2 := m2) (h2 := b + 1) (by omega) a1 (by omega) b1 b2 (fun x h => lp x (by omega)) lq (cp.le (by omega)) cq
    have i2 := ih (l1 := l1) (m1 := m1) (h1 := a + 1) (l2 := l2) (m2 := m2) (h2 := b) (by omega) a1 (by omega) b1 (by omega) lp (fun x h => lq x (by omega)) cp (cq.le (by omega))
    have i3 := ih (l1 := l1) (m1 := m1) (h1 := p a) (l2 := l2) (m2 := m2) (h2 := q b) (by omega) a1 (by omega) b1 (by omega) (fun x h => lp x (by omega)) (fun x h => lq x (by omega)) (cp.le (by omega)) (cq.le (by omega))
    rw [dist_step (l1 := l1) (by omega) la (by omega) lb, dist_step (l1 := m1) ca la cb lb]
    omega
/-- .. by the cost of the last trees as wholes. -/
theorem dist_tree {n m l1 a l2 b : Nat} (hp : Lamin p n) (hq : Lamin q m) (ha : a < n) (hb : b < m) (h1 : l1 ≤ p a) (h2 : l2 ≤ q b) : dist p q u l1 (a + 1) l2 (b + 1) =
    min (min (dist p q u l1 a l2 (b + 1) + 1) (dist p q u l1 (a + 1) l2 b + 1)) (dist p q u l1 (p a) l2 (q b) + dist p q u (p a) (a + 1) (q b) (b + 1)) := by
  have la := hp.le a ha
  have lb := hq.le b hb
  have e1 := dist_app (p := p) (q := q) (u := u) _ (l1 := l1) (m1 := p a) (h1 := a + 1) (l2 := l2) (m2 := q b) (h2 := b + 1) (Nat.le_refl _) h1 (by omega) h2 (by omega) (fun x h => hp.le x (by omega)) (fun x h => hq.le x (by omega)) (hp.closed ha) (hq.closed hb)
  have e2 := dist_mat (p := p) (q := q) (u := u) (l1 := p a) (a := a) (l2 := q b) (b := b) (Nat.le_refl _) la (Nat.le_refl _) lb
  rw [dist_l (l1 := p a) (h1 := p a) (Nat.le_refl _)] at e2
  have e3 := dist_step (p := p) (q := q) (u := u) (l1 := l1) (a := a) (l2 := l2) (b := b) h1 la h2 lb
  have e4 := dist_del (p := p) (q := q) (u := u) (l1 := l1) (a := a) (l2 := l2) (h2 := b + 1) (by omega)
  have e5 := dist_ins (p := p) (q := q) (u := u) (l1 := l1) (h1 := a + 1) (l2 := l2) (b := b) (by omega)
  omega
theorem dist_le : ∀ (n : Nat) {l1 h1 l2 h2 : Nat}, (h1 - l1) + (h2 - l2) ≤ n → dist p q u l1 h1 l2 h2 ≤ (h1 - l1) + (h2 - l2) ∧ h1 - l1 ≤ dist p q u l1 h1 l2 h2 + (h2 - l2) ∧ h2 - l2 ≤ dist p q u l1 h1 l2 h2 + (h1 - l1) := by
  intro n
  induction n with
  | zero =>
    intro l1 h1 l2 h2 hn
    rw [dist_l (by omega)]; omega
  | succ n ih =>
    intro l1 h1 l2 h2 hn
    by_cases e1 : h1 ≤ l1
    · rw [dist_l e1]; omega
    by_cases e2 : h2 ≤ l2
    · rw [dist_r e2]; omega
    obtain ⟨a, rfl⟩ : ∃ a, h1 = a + 1 := ⟨h1 - 1, by omega⟩
    obtain ⟨b, rfl⟩ : ∃ b, h2 = b + 1 := ⟨h2 - 1, by omega⟩
    have i1 := ih (l1 := l1) (h1 := a) (l2 := l2) (h2 := b + 1) (by omega)
    have i2 := ih (l1 := l1) (h1 := a + 1) (l2 := l2) (h2 := b) (by omega)
    rw [dist_succ (by omega) (by omega)]
    generalize hP : max l1 (min (p a) a) = P
    generalize hQ : max l2 (min (q b) b) = Q
    have i3 := ih (l1 := l1) (h1 := P) (l2 := l2) (h2 := Q) (by omega)
    have i4 := ih (l1 := P) (h1 := a) (l2 := Q) (h2 := b) (by omega)
    omega
end Go.Cod

namespace Go.Cod
set_option linter.all false

/-! The things of a tree, each behind what is in it. -/
structure Th where
  k : List UInt8
  t : List UInt8
  f : Nat
mutual
def nT : T → Nat
  | .mk _ _ _ ks => nL ks + 1
def nL : List T → Nat
  | [] => 0
  | t :: ts => nT t + nL ts
end
mutual
def postT (n : Nat) : T → List Th
  | .mk _ k x ks => postL n ks ++ [⟨k, x, n⟩]
def postL (n : Nat) : List T → List Th
  | [] => []
  | t :: ts => postT n t ++ postL (n + nT t) ts
end
mutual
theorem postT_len : ∀ (n : Nat) (t : T), (postT n t).length = nT t
  | n, .mk _ k x ks => by simp [postT, nT, postL_len n ks]
theorem postL_len : ∀ (n : Nat) (ts : List T), (postL n ts).length = nL ts
  | n, [] => rfl
  | n, t :: ts => by simp [postL, nL, postT_len n t, postL_len _ ts]
end
theorem postL_append (n : Nat) (F G : List T) : postL n (F ++ G) = postL n F ++ postL (n + nL F) G := by
  induction F generalizing n with
  | nil => simp [postL, nL]
  | cons t F ih => simp only [List.cons_append, postL, ih, nL, List.append_assoc, Nat.add_assoc]
theorem nL_append (F G : List T) : nL (F ++ G) = nL F + nL G := by
  induction F with
  | nil => simp [nL]
  | cons t F ih => simp only [List.cons_append, nL, ih]; omega
theorem postL_one (n : Nat) (t : T) : postL n [t] = postT n t := by simp [postL]
def Th.add (s : Nat) (h : Th) : Th := ⟨h.k, h.t, h.f + s⟩
/-- What is in a thing stands side by side, or one in the other. -/
structure Nest (n : Nat) (L : List Th) : Prop where
  le : ∀ (x : Nat) e, L[x]? = some e → n ≤ e.f ∧ e.f ≤ n + x
  nest : ∀ (x y : Nat) e e', x < y → L[x]? = some e → L[y]? = some e' → n + x < e'.f ∨ e'.f ≤ e.f
theorem Nest.app {n : Nat} {L M : List Th} (h1 : Nest n L) (h2 : Nest (n + L.length) M) : Nest n (L ++ M) := by
  refine ⟨fun x e h => ?_, fun x y e e' hxy h h' => ?_⟩
  · by_cases hx : x < L.length
    · rw [List.getElem?_append_left hx] at h; exact h1.le x e h
    · rw [List.getElem?_append_right (by omega)] at h
      have := h2.le _ e h; omega
  · by_cases hy : y < L.length
    · rw [List.getElem?_append_left hy] at h'
      rw [List.getElem?_append_left (by omega)] at h
      exact h1.nest x y e e' hxy h h'
    · rw [List.getElem?_append_right (by omega)] at h'
      by_cases hx : x < L.length
      · have := h2.le _ e' h'; omega
      · rw [List.getElem?_append_right (by omega)] at h
        have := h2.nest _ _ e e' (by omega) h h'; omega
theorem Nest.root {n : Nat} {L : List Th} (h1 : Nest n L) (e0 : Th) (h0 : e0.f = n) : Nest n (L ++ [e0]) := by
  refine ⟨fun x e h => ?_, fun x y e e' hxy h h' => ?_⟩
  · by_cases hx : x < L.length
    · rw [List.getElem?_append_left hx] at h; exact h1.le x e h
    · rw [List.getElem?_append_right (by omega), List.getElem?_singleton] at h
      split at h
      · cases h; omega
      · cases h
  · by_cases hy : y < L.length
    · rw [List.getElem?_append_left hy] at h'
      rw [List.getElem?_append_left (by omega)] at h
      exact h1.nest x y e e' hxy h h'
    · rw [List.getElem?_append_right (by omega), List.getElem?_singleton] at h'
      split at h'
      · cases h'
        by_cases hx : x < L.length
        · rw [List.getElem?_append_left hx] at h
          have := h1.le x e h; omega
        · omega
      · cases h'
mutual
theorem postT_nest : ∀ (n : Nat) (t : T), Nest n (postT n t)
  | n, .mk _ k x ks => by simp only [postT]; exact (postL_nest n ks).root _ rfl
theorem postL_nest : ∀ (n : Nat) (ts : List T), Nest n (postL n ts)
  | n, [] => ⟨fun x e h => by simp [postL] at h, fun x y e e' _ h => by simp [postL] at h⟩
  | n, t :: ts => by
    simp only [postL]
    refine (postT_nest n t).app ?_
    rw [postT_len]; exact postL_nest _ ts
end
def fstOf (L : List Th) (x : Nat) : Nat := match L[x]? with
  | some e => e.f
  | none => 0
def labAt (L : List Th) (x : Nat) : Option (List UInt8 × List UInt8) := (L[x]?).map fun e => (e.k, e.t)
def unl (L M : List Th) (a b : Nat) : Nat := if labAt L a = labAt M b then 0 else 1
theorem fstOf_get {L : List Th} {x : Nat} {e : Th} (h : L[x]? = some e) : fstOf L x = e.f := by simp [fstOf, h]
theorem Nest.lamin {L : List Th} (h : Nest 0 L) : Lamin (fstOf L) L.length := by
  refine ⟨fun x hx => ?_, fun x y hxy hy => ?_⟩
  · have e := List.getElem?_eq_getElem hx
    rw [fstOf_get e]
    have := h.le x _ e; omega
  · have e := List.getElem?_eq_getElem (l := L) (i := x) (by omega)
    have e' := List.getElem?_eq_getElem hy
    rw [fstOf_get e, fstOf_get e']
    have := h.nest x y _ _ hxy e e'; omega
theorem Nest.closed {n : Nat} {L : List Th} (h : Nest 0 L) : Closed (fstOf L) 0 n := fun x _ _ => Nat.zero_le _
/-- What it costs to make one list of trees another. -/
def fd (F G : List T) : Nat := dist (fstOf (postL 0 F)) (fstOf (postL 0 G)) (unl (postL 0 F) (postL 0 G)) 0 (nL F) 0 (nL G)
theorem nL_one (t : T) : nL [t] = nT t := by simp [nL]
/- Alike, but for numbers. -/
theorem nT_pos (t : T) : 0 < nT t := by cases t; simp [nT]
/-- What it costs to make one tree another. -/
def costT (a b : T) : Nat := fd [a] [b]
theorem costT_eq (a b : T) : costT a b = dist (fstOf (postT 0 a)) (fstOf (postT 0 b)) (unl (postT 0 a) (postT 0 b)) 0 (nT a) 0 (nT b) := by
  unfold costT fd; rw [postL_one, postL_one, nL_one, nL_one]
end Go.Cod

namespace Go.Cod
open Go Go.Proofs
set_option linter.all false
set_option maxRecDepth 10000

/-! Tables of numbers in a pool. -/
def numR (m : Nat) (g : Nat → Int) : List (List V) := (List.range m).map fun j => [V.int .i64 (g j)]
theorem numR_len (m : Nat) (g : Nat → Int) : (numR m g).length = m := by simp [numR]
theorem numR_get {m : Nat} (g : Nat → Int) {j : Nat} (h : j < m) : (numR m g)[j]? = some [.int .i64 (g j)] := by simp [numR, h]
theorem numR_zero {m : Nat} {g : Nat → Int} (h : ∀ j, g j = 0) : List.replicate m [V.int .i64 0] = numR m g := by
  apply List.ext_getElem?
  intro j
  by_cases hj : j < m
  · rw [numR_get g hj, List.getElem?_replicate, if_pos hj, h]
  · rw [List.getElem?_eq_none (by simp; omega), List.getElem?_eq_none (by rw [numR_len]; omega)]
def upd1 (g : Nat → Int) (j : Nat) (v : Int) : Nat → Int := fun y => if y = j then v else g y
def upd2 (f : Nat → Nat → Int) (i j : Nat) (v : Int) : Nat → Nat → Int := fun x y => if x = i ∧ y = j then v else f x y
theorem numR_set (m : Nat) (g : Nat → Int) (j : Nat) (v : Int) : (numR m g).set j [.int .i64 v] = numR m (upd1 g j v) := by
  apply List.ext_getElem?
  intro y
  rw [List.getElem?_set]
  by_cases hy : y < m
  · rw [numR_get (upd1 g j v) hy]
    by_cases e : j = y
    · subst e; rw [if_pos rfl, if_pos (by rw [numR_len]; exact hy)]; unfold upd1; rw [if_pos rfl]
    · rw [if_neg e, numR_get g hy]; unfold upd1; rw [if_neg (Ne.symm e)]
  · rw [List.getElem?_eq_none (l := numR m (upd1 g j v)) (by rw [numR_len]; omega)]
    split
    · rw [if_neg (by rw [numR_len]; omega)]
    · rw [List.getElem?_eq_none (by rw [numR_len]; omega)]
/-- A table's rows, as far as they are made. -/
def rootR (n : Nat) (bs : List Nat) (m : Nat) : List (List V) := bs.map (fun x => [V.dref x m m]) ++ List.replicate (n - bs.length) [.nils]
theorem rootR_get {n : Nat} {bs : List Nat} {m i x : Nat} (h : bs[i]? = some x) : (rootR n bs m)[i]? = some [.dref x m m] := by
  have hi := (List.getElem?_eq_some_iff.1 h).1
  unfold rootR
  rw [List.getElem?_append_left (by simpa using hi), List.getElem?_map, h]; rfl
theorem rootR_nil {n : Nat} {bs : List Nat} {m : Nat} (h : bs.length < n) : (rootR n bs m)[bs.length]? = some [.nils] := by
  unfold rootR
  rw [List.getElem?_append_right (by simp), List.length_map, Nat.sub_self, List.getElem?_replicate, if_pos (by omega)]
theorem rootR_set {n : Nat} {bs : List Nat} {m x : Nat} (h : bs.length < n) : (rootR n bs m).set bs.length [.dref x m m] = rootR n (bs ++ [x]) m := by
  unfold rootR
  obtain ⟨d, hd⟩ : ∃ d, n - bs.length = d + 1 := ⟨n - bs.length - 1, by omega⟩
  rw [List.set_append_right _ _ (by simp), hd, List.replicate_succ]
  simp only [List.length_map, Nat.sub_self, List.set_cons_zero, List.map_append, List.map_cons, List.map_nil, List.length_append, List.length_cons, List.length_nil, List.append_assoc, List.singleton_append]
  rw [show n - (bs.length + (0 + 1)) = d by omega]
structure Tab (es : List (List V)) (b n : Nat) (bs : List Nat) (m : Nat) (f : Nat → Nat → Int) : Prop where
  root : ent b n 1 (rootR n bs m) ∈ es
  row : ∀ (i x : Nat), bs[i]? = some x → ent x m 1 (numR m (f i)) ∈ es
  nd : (b :: bs).Nodup
  le : bs.length ≤ n
theorem lab_ent (b c s : Nat) (r : List (List V)) : labOf (ent b c s r) = b := rfl
theorem Tab.fresh {es b n bs m f} (h : Tab es b n bs m f) {x : Nat} (hx : ∀ e ∈ es, labOf e ≠ x) : x ∉ b :: bs := by
  intro hm
  rcases List.mem_cons.1 hm with rfl | hm
  · exact hx _ h.root rfl
  · obtain ⟨i, hi⟩ := List.getElem?_of_mem hm
    exact hx _ (h.row i x hi) rfl
theorem Tab.more {es b n bs m f} (h : Tab es b n bs m f) (es' : List (List V)) : Tab (es ++ es') b n bs m f :=
  ⟨List.mem_append_left _ h.root, fun i x hi => List.mem_append_left _ (h.row i x hi), h.nd, h.le⟩
theorem Tab.other {es b n bs m f} (h : Tab es b n bs m f) {x : Nat} (hx : x ∉ b :: bs) (r : List (List V)) : Tab (putEnt x r es) b n bs m f :=
  ⟨putEnt_other h.root (by rw [lab_ent]; rintro rfl; exact hx (by simp)), fun i y hi => putEnt_other (h.row i y hi) (by rw [lab_ent]; rintro rfl; exact hx (List.mem_cons_of_mem _ (List.mem_of_getElem? hi))), h.nd, h.le⟩
theorem Tab.put {es b n bs m f} (h : Tab es b n bs m f) {i x : Nat} (hi : bs[i]? = some x) (j : Nat) (v : Int) : Tab (putEnt x ((numR m (f i)).set j [.int .i64 v]) es) b n bs m (upd2 f i j v) := by
  have hnd := List.nodup_cons.1 h.nd
  refine ⟨putEnt_other h.root ?_, fun i' y hi' => ?_, h.nd, h.le⟩
  · rw [lab_ent]; rintro rfl; exact hnd.1 (List.mem_of_getElem? hi)
  · by_cases e : i' = i
    · subst e
      rw [hi] at hi'; cases hi'
      have := putEnt_mem (rows' := (numR m (f i')).set j [.int .i64 v]) (h.row i' x hi)
      rw [numR_set] at this ⊢
      rw [show upd2 f i' j v i' = upd1 (f i') j v by funext y; simp [upd2, upd1]]
      exact this
    · have hne : y ≠ x := by
        rintro rfl
        exact e ((List.getElem?_inj (List.getElem?_eq_some_iff.1 hi').1 hnd.2).1 (hi'.trans hi.symm))
      rw [show upd2 f i j v i' = f i' by funext y; simp [upd2, e]]
      exact putEnt_other (h.row i' y hi') (by rw [lab_ent]; exact hne)
theorem Tab.begin (es : List (List V)) (b n m : Nat) (f : Nat → Nat → Int) : Tab (es ++ [ent b n 1 (List.replicate n [.nils])]) b n [] m f :=
  ⟨List.mem_append_right _ (by simp [rootR]), fun i x hi => by simp at hi, by simp, Nat.zero_le _⟩
theorem Tab.grow {es b n bs m f} (h : Tab es b n bs m f) (hn : bs.length < n) (hf : ∀ j, f bs.length j = 0) {x : Nat} (hx : ∀ e ∈ es, labOf e ≠ x) :
    Tab (putEnt b ((rootR n bs m).set bs.length [.dref x m m]) (es ++ [ent x m 1 (List.replicate m [.int .i64 0])])) b n (bs ++ [x]) m f := by
  have hxb := h.fresh hx
  have hnd := List.nodup_cons.1 h.nd
  refine ⟨?_, fun i y hi => putEnt_other ?_ ?_, ?_, by simp; omega⟩
  · rw [rootR_set hn]
    exact putEnt_mem (List.mem_append_left _ h.root)
  · by_cases hi' : i < bs.length
    · rw [List.getElem?_append_left hi'] at hi
      exact List.mem_append_left _ (h.row i y hi)
    · rw [List.getElem?_append_right (by omega), List.getElem?_singleton] at hi
      split at hi
      · cases hi
        have : i = bs.length := by omega
        subst this
        rw [← numR_zero hf]
        simp
      · cases hi
  · rw [lab_ent]
    rintro rfl
    by_cases hi' : i < bs.length
    · rw [List.getElem?_append_left hi'] at hi
      exact hnd.1 (List.mem_of_getElem? hi)
    · rw [List.getElem?_append_right (by omega), List.getElem?_singleton] at hi
      split at hi
      · cases hi; exact hxb (by simp)
      · cases hi
  · rw [List.nodup_cons]
    refine ⟨?_, ?_⟩
    · intro hm
      rcases List.mem_append.1 hm with hm | hm
      · exact hnd.1 hm
      · simp at hm; subst hm; exact hxb (by simp)
    · rw [List.nodup_append]
      refine ⟨hnd.2, by simp, ?_⟩
      intro a ha c hc
      simp at hc; subst hc
      rintro rfl
      exact hxb (List.mem_cons_of_mem _ ha)
theorem Tab.at {es b n bs m f} (h : Tab es b n bs m f) {i : Nat} (hi : i < bs.length) : ∃ x, bs[i]? = some x ∧ (rootR n bs m)[i]? = some [.dref x m m] ∧ ent x m 1 (numR m (f i)) ∈ es := by
  have e := List.getElem?_eq_getElem hi
  exact ⟨_, e, rootR_get e, h.row _ _ e⟩
end Go.Cod

namespace Go.Cod
open Go Go.Proofs
set_option linter.all false
set_option maxRecDepth 10000

def mn (x y : Int) : Int := if y < x then y else x
theorem least_pure (x a b : Int) : Pure Try.prog 53 [.int .i64 x, .sl [[.int .i64 a], [.int .i64 b]]] (· = .int .i64 (mn (mn x a) b)) := by
  refine pure_of_awp good Try.func53 rfl (by kernel_rfl) (by decide) ?_
  conv => whnf
  refine loop_intro (fun n fr st => ∃ i : Nat, n + i = 2 ∧ st = [] ∧ ((i = 0 ∧ Holds fr [(0, .int .i64 x), (7, .sl [[.int .i64 a], [.int .i64 b]]), (8, .int .i64 2), (9, .int .i64 0)]) ∨
      (i = 1 ∧ Holds fr [(0, .int .i64 (mn x a)), (7, .sl [[.int .i64 a], [.int .i64 b]]), (8, .int .i64 2), (9, .int .i64 1)]) ∨ (i = 2 ∧ Holds fr [(0, .int .i64 (mn (mn x a) b)), (8, .int .i64 2), (9, .int .i64 2)]))) 2 ?_ ?_
  · exact ⟨0, rfl, rfl, .inl ⟨rfl, rfl, rfl, rfl, rfl, trivial⟩⟩
  rintro n fr st ⟨i, hi, rfl, ⟨rfl, hh⟩ | ⟨rfl, hh⟩ | ⟨rfl, hh⟩⟩
  · obtain ⟨fr, rfl⟩ := hh.split
    clear hh
    conv => whnf
    rw [ltB_t (by omega)]
    conv => whnf
    refine ⟨by omega, _, _, 1, rfl, rfl, rfl, rfl, ?_⟩
    conv => whnf
    refine semMin rfl rfl ?_
    conv => whnf
    refine ⟨n - 1, by omega, 1, by omega, rfl, .inr (.inl ⟨rfl, rfl, rfl, rfl, rfl, trivial⟩)⟩
  · obtain ⟨fr, rfl⟩ := hh.split
    clear hh
    conv => whnf
    rw [ltB_t (by omega)]
    conv => whnf
    refine ⟨by omega, _, _, 1, rfl, rfl, rfl, rfl, ?_⟩
    conv => whnf
    refine semMin rfl rfl ?_
    conv => whnf
    refine ⟨n - 1, by omega, 2, by omega, rfl, .inr (.inr ⟨rfl, rfl, rfl, rfl, trivial⟩)⟩
  · obtain ⟨fr, rfl⟩ := hh.split
    clear hh
    conv => whnf
    rw [ltB_f (by omega)]
    conv => whnf
theorem l5Least_pure (x a b : Int) : Pure Try.prog 54 [.int .i64 x, .int .i64 a, .int .i64 b] (· = .int .i64 (mn (mn x a) b)) := by
  refine pure_of_awp good Try.func54 rfl (by kernel_rfl) (by decide) ?_
  conv => whnf
  by_cases h1 : a < x
  · rw [ltB_t h1]
    conv => whnf
    rw [show mn x a = a by unfold mn; rw [if_pos h1]]
    by_cases h2 : b < a
    · rw [ltB_t h2]
      conv => whnf
      unfold mn; rw [if_pos h2]
    · rw [ltB_f (by omega)]
      conv => whnf
      unfold mn; rw [if_neg h2]
  · rw [ltB_f (by omega)]
    conv => whnf
    rw [show mn x a = x by unfold mn; rw [if_neg h1]]
    by_cases h2 : b < x
    · rw [ltB_t h2]
      conv => whnf
      unfold mn; rw [if_pos h2]
    · rw [ltB_f (by omega)]
      conv => whnf
      unfold mn; rw [if_neg h2]
def Th.cells (h : Th) : List V := [.str h.k, .str h.t, .int .i64 h.f]
def unH (a b : Th) : Nat := if a.k = b.k ∧ a.t = b.t then 0 else 1
theorem diffUnlike_pure (a b : Th) : Pure Try.prog 52 [.agg a.cells, .agg b.cells] (· = .int .i64 (unH a b)) := by
  obtain ⟨ak, at', af⟩ := a
  obtain ⟨bk, bt, bf⟩ := b
  refine pure_of_awp good Try.func52 rfl (by kernel_rfl) (by decide) ?_
  conv => whnf
  by_cases h1 : ak = bk
  · rw [eqS_t h1]
    conv => whnf
    by_cases h2 : at' = bt
    · rw [eqS_t h2]
      conv => whnf
      simp [unH, h1, h2]
    · rw [eqS_f h2]
      conv => whnf
      simp [unH, h1, h2]
  · rw [eqS_f h1]
    conv => whnf
    simp [unH, h1]
def thR (L : List Th) : List (List V) := L.map Th.cells
theorem thR_len (L : List Th) : (thR L).length = L.length := by simp [thR]
theorem thR_get {L : List Th} {i : Nat} {e : Th} (h : L[i]? = some e) : (thR L)[i]? = some e.cells := by simp [thR, h]
theorem thR_app (L M : List Th) : thR (L ++ M) = thR L ++ thR M := by simp [thR]
theorem diffTable_new (n m : Nat) (hn : n ≤ 1000000) (hm : m ≤ 1000000) : Full Try.prog noY 25 [.int .i64 n, .int .i64 m] [poolO []] fun o st' => ∃ b bs es, o = .ret (.dref b n n) ∧ st' = [poolO es] ∧ Tab es b n bs m (fun _ _ => 0) ∧ bs.length = n := by
  refine full_of_awp good Try.func25 rfl (by kernel_rfl) (by decide) ?_
  conv => whnf
  refine semMake (k := 0) (m := n) good rfl rfl rfl rfl rfl rfl rfl rfl (by show n * 24 ≤ _; omega) (by omega) fun b hb => ?_
  conv => whnf
  have hT := Tab.begin [] b n m (fun _ _ => 0)
  simp only [List.nil_append] at hT
  refine loop_drop (fun k fr st => ∃ bs es, k + bs.length = n ∧ st = [poolO es] ∧ Tab es b n bs m (fun _ _ => 0) ∧ Holds fr [(1, .int .i64 m), (5, .dref b n n), (10, .int .i64 n), (11, .int .i64 bs.length)]) n none ?_ ?_
  · exact ⟨[], _, rfl, rfl, hT, rfl, rfl, rfl, rfl, trivial⟩
  clear hT
  rintro k fr st ⟨bs, es, hk, rfl, hT, hh⟩
  obtain ⟨fr, rfl⟩ := hh.split
  clear hh
  conv => whnf
  by_cases hlt : bs.length < n
  · rw [ltB_t (by omega)]
    conv => whnf
    refine semMake (k := 0) (m := m) good rfl rfl rfl rfl rfl rfl rfl rfl (by show m * 8 ≤ _; omega) (by omega) fun x hx => ?_
    conv => whnf
    have hG := hT.grow hlt (fun _ => rfl) hx
    refine ⟨by omega, by omega, ?_⟩
    conv => whnf
    refine ⟨0, n, rootR n bs m, [.nils], _, List.mem_append_left _ hT.root, rootR_nil hlt, rfl, ?_⟩
    conv => whnf
    refine ⟨k - 1, by omega, none, bs ++ [x], _, by simp; omega, rfl, hG, rfl, rfl, rfl, ?_, trivial⟩
    show V.int .i64 (IntKind.i64.wrap (bs.length + 1)) = _
    rw [wrap64 (by omega) (by omega)]; simp
  · rw [ltB_f (by omega)]
    conv => whnf
    refine ⟨[], false, ?_⟩
    conv => whnf
    exact ⟨b, bs, es, rfl, rfl, hT, by have := hT.le; omega⟩
end Go.Cod

namespace Go.Cod
open Go Go.Proofs
set_option linter.all false
set_option maxRecDepth 10000

theorem nL_take (ks : List T) (i : Nat) (h : i < ks.length) : nL (ks.take (i + 1)) = nL (ks.take i) + nT ks[i] := by
  rw [List.take_succ_eq_append_getElem h, nL_append, nL_one]
theorem nL_take_le (ks : List T) (i : Nat) : nL (ks.take i) ≤ nL ks := by
  have := nL_append (ks.take i) (ks.drop i)
  rw [List.take_append_drop] at this; omega
theorem len_nL (ks : List T) : ks.length ≤ nL ks := by
  induction ks with
  | nil => simp [nL]
  | cons t ks ih => have := nT_pos t; simp only [nL, List.length_cons]; omega
theorem postL_take (n : Nat) (ks : List T) (i : Nat) (h : i < ks.length) : postL n (ks.take (i + 1)) = postL n (ks.take i) ++ postT (n + nL (ks.take i)) ks[i] := by
  rw [List.take_succ_eq_append_getElem h, postL_append, postL_one]
def ThN (t : T) (o : Out) (st' : St) : Prop := o = .ret (.own 0) ∧ st' = [⟨thR (postT 0 t), 3, true, true, false, .cell⟩]
def ThO (L : List Th) (t : T) (o : Out) (st' : St) : Prop := o = .ret (.own 1) ∧ st' = [⟨thR L, 3, false, true, false, .cell⟩, ⟨thR (L ++ postT L.length t), 3, true, true, false, .cell⟩]
set_option maxHeartbeats 800000 in
theorem diffThings_own1 (id : Int) (kind text : List UInt8) (kids : List T) (L : List Th) (hs : L.length + nL kids + 1 ≤ 1048576)
    (hT : ∀ t' ∈ kids, ∀ L : List Th, L.length + nT t' ≤ 1048576 → Full Try.prog noY 24 [.own 0, .agg t'.cells] [⟨thR L, 3, true, true, false, .cell⟩] (ThO L t')) :
    Full Try.prog noY 24 [.own 0, .agg (T.mk id kind text kids).cells] [⟨thR L, 3, true, true, false, .cell⟩] (ThO L (.mk id kind text kids)) := by
  have hlr := Go.Cod.rows_len kids
  have hkl := len_nL kids
  have hLl := thR_len L
  have hres : L ++ postT L.length (.mk id kind text kids) = (L ++ postL L.length kids) ++ [⟨kind, text, L.length⟩] := by simp [postT]
  unfold ThO
  rw [hres]
  clear hres
  refine full_of_awp good Try.func24 rfl (by kernel_rfl) (by decide) ?_
  conv => whnf
  refine loop_drop (fun n fr st => ∃ i : Nat, n + i = kids.length ∧
      ((i = 0 ∧ Holds fr [(0, .own 0), (3, .ptr 1 0 0), (5, .int .i64 L.length), (11, .sl (T.rows kids)), (12, .int .i64 kids.length), (13, .int .i64 i)] ∧ st = [⟨thR L, 3, true, true, false, .cell⟩, ⟨[(T.mk id kind text kids).cells], 4, true, true, true, .cell⟩]) ∨
       (0 < i ∧ Holds fr [(0, .own 2), (3, .ptr 1 0 0), (5, .int .i64 L.length), (11, .sl (T.rows kids)), (12, .int .i64 kids.length), (13, .int .i64 i)] ∧ st = [⟨thR L, 3, false, true, false, .cell⟩, ⟨[(T.mk id kind text kids).cells], 4, true, true, true, .cell⟩, ⟨thR (L ++ postL L.length (kids.take i)), 3, true, true, false, .cell⟩]))) kids.length none ?_ ?_
  · exact ⟨0, rfl, .inl ⟨rfl, ⟨rfl, rfl, by rw [← hLl]; rfl, rfl, by rw [← hlr]; rfl, rfl, trivial⟩, rfl⟩⟩
  rintro n fr st ⟨i, hi, ⟨rfl, hh, rfl⟩ | ⟨hi0, hh, rfl⟩⟩
  · obtain ⟨fr, rfl⟩ := hh.split
    clear hh
    conv => whnf
    by_cases hlt : 0 < kids.length
    · rw [ltB_t (by omega)]
      conv => whnf
      have hg := Go.Cod.rows_get kids 0 hlt
      have hc := hT kids[0] (List.getElem_mem _) L
      have hn := nL_take kids 0 hlt
      have hle := nL_take_le kids 1
      have hp := postL_take L.length kids 0 hlt
      simp only [List.take_zero, nL, Nat.zero_add, postL, List.nil_append, Nat.add_zero] at hn hp
      generalize kids[0] = t at hc hg hn hp
      obtain ⟨id', kind', text', kids'⟩ := t
      refine ⟨by omega, T.rows kids, _, 4, rfl, hg, rfl, rfl, ?_⟩
      conv => whnf
      refine ⟨[0], false, ?_⟩
      conv => whnf
      refine (hc (by omega)).mono ?_
      rintro o st' ⟨rfl, rfl⟩
      rw [← hp]
      conv => whnf
      refine ⟨n - 1, by omega, some [0, 1, 3], ?_⟩
      conv => whnf
      exact ⟨1, by omega, .inr ⟨by omega, ⟨rfl, rfl, rfl, rfl, rfl, rfl, trivial⟩, rfl⟩⟩
    · rw [ltB_f (by omega)]
      obtain rfl : kids = [] := List.eq_nil_of_length_eq_zero (by omega)
      conv => whnf
      refine ⟨fun m hm => by rw [List.mem_singleton.1 hm]; rfl, ?_⟩
      conv => whnf
      refine ⟨by show ((thR L).length + 1) * 40 ≤ _; omega, ?_⟩
      conv => whnf
      refine ⟨[3], false, ?_⟩
      conv => whnf
      refine ⟨rfl, ?_⟩
      simp only [postL, List.append_nil, thR_app]
      rfl
  · obtain ⟨fr, rfl⟩ := hh.split
    clear hh
    conv => whnf
    by_cases hlt : i < kids.length
    · rw [ltB_t (by omega)]
      conv => whnf
      have hg := Go.Cod.rows_get kids i hlt
      have hc := hT kids[i] (List.getElem_mem _) (L ++ postL L.length (kids.take i))
      have hn := nL_take kids i hlt
      have hle := nL_take_le kids (i + 1)
      have hp := postL_take L.length kids i hlt
      have hll : (L ++ postL L.length (kids.take i)).length = L.length + nL (kids.take i) := by simp [postL_len]
      rw [hll] at hc
      unfold ThO at hc
      rw [hll] at hc
      simp only [List.append_assoc, ← hp] at hc
      generalize kids[i] = t at hc hg hn
      obtain ⟨id', kind', text', kids'⟩ := t
      generalize L ++ postL L.length (kids.take i) = M at *
      refine ⟨by omega, T.rows kids, _, 4, rfl, hg, rfl, rfl, ?_⟩
      conv => whnf
      refine ⟨[2], false, ?_⟩
      conv => whnf
      refine (hc (by omega)).mono ?_
      rintro o st' ⟨rfl, rfl⟩
      conv => whnf
      refine ⟨n - 1, by omega, some [0, 1, 4], ?_⟩
      conv => whnf
      refine ⟨i + 1, by omega, .inr ⟨by omega, ⟨rfl, rfl, rfl, rfl, rfl, ?_, trivial⟩, rfl⟩⟩
      show V.int .i64 (IntKind.i64.wrap (i + 1)) = _
      rw [wrap64 (by omega) (by omega)]; simp
    · rw [ltB_f (by omega)]
      rw [List.take_of_length_le (by omega)]
      have hll : (thR (L ++ postL L.length kids)).length = L.length + nL kids := by rw [thR_len]; simp [postL_len]
      generalize hM : L ++ postL L.length kids = M at *
      conv => whnf
      refine ⟨fun m hm => by rw [List.mem_singleton.1 hm]; rfl, ?_⟩
      conv => whnf
      refine ⟨by show ((thR M).length + 1) * 40 ≤ _; omega, ?_⟩
      conv => whnf
      refine ⟨[4], false, ?_⟩
      conv => whnf
      refine ⟨rfl, ?_⟩
      rw [thR_app]
      rfl
set_option maxHeartbeats 800000 in
theorem diffThings_nil1 (id : Int) (kind text : List UInt8) (kids : List T) (hs : nL kids + 1 ≤ 1048576)
    (hT0 : ∀ t' ∈ kids, nT t' ≤ 1048576 → Full Try.prog noY 24 [.nils, .agg t'.cells] [] (ThN t'))
    (hT : ∀ t' ∈ kids, ∀ L : List Th, L.length + nT t' ≤ 1048576 → Full Try.prog noY 24 [.own 0, .agg t'.cells] [⟨thR L, 3, true, true, false, .cell⟩] (ThO L t')) :
    Full Try.prog noY 24 [.nils, .agg (T.mk id kind text kids).cells] [] (ThN (.mk id kind text kids)) := by
  have hlr := Go.Cod.rows_len kids
  have hkl := len_nL kids
  have hres : postT 0 (.mk id kind text kids) = postL 0 kids ++ [⟨kind, text, 0⟩] := by simp [postT]
  unfold ThN
  rw [hres]
  clear hres
  refine full_of_awp good Try.func24 rfl (by kernel_rfl) (by decide) ?_
  conv => whnf
  refine loop_drop (fun n fr st => ∃ i : Nat, n + i = kids.length ∧
      ((i = 0 ∧ Holds fr [(0, .nils), (3, .ptr 0 0 0), (5, .int .i64 0), (11, .sl (T.rows kids)), (12, .int .i64 kids.length), (13, .int .i64 i)] ∧ st = [⟨[(T.mk id kind text kids).cells], 4, true, true, true, .cell⟩]) ∨
       (0 < i ∧ Holds fr [(0, .own 1), (3, .ptr 0 0 0), (5, .int .i64 0), (11, .sl (T.rows kids)), (12, .int .i64 kids.length), (13, .int .i64 i)] ∧ st = [⟨[(T.mk id kind text kids).cells], 4, true, true, true, .cell⟩, ⟨thR (postL 0 (kids.take i)), 3, true, true, false, .cell⟩]))) kids.length none ?_ ?_
  · exact ⟨0, rfl, .inl ⟨rfl, ⟨rfl, rfl, rfl, rfl, by rw [← hlr]; rfl, rfl, trivial⟩, rfl⟩⟩
  rintro n fr st ⟨i, hi, ⟨rfl, hh, rfl⟩ | ⟨hi0, hh, rfl⟩⟩
  · obtain ⟨fr, rfl⟩ := hh.split
    clear hh
    conv => whnf
    by_cases hlt : 0 < kids.length
    · rw [ltB_t (by omega)]
      conv => whnf
      have hg := Go.Cod.rows_get kids 0 hlt
      have hc := hT0 kids[0] (List.getElem_mem _)
      have hn := nL_take kids 0 hlt
      have hle := nL_take_le kids 1
      have hp := postL_take 0 kids 0 hlt
      simp only [List.take_zero, nL, Nat.zero_add, postL, List.nil_append, Nat.add_zero] at hn hp
      unfold ThN at hc
      rw [← hp] at hc
      generalize kids[0] = t at hc hg hn
      obtain ⟨id', kind', text', kids'⟩ := t
      refine ⟨by omega, T.rows kids, _, 4, rfl, hg, rfl, rfl, ?_⟩
      conv => whnf
      refine .inr (.inl ⟨[], true, ?_⟩)
      conv => whnf
      refine (hc (by omega)).mono ?_
      rintro o st' ⟨rfl, rfl⟩
      conv => whnf
      refine ⟨n - 1, by omega, some [0, 2], ?_⟩
      conv => whnf
      exact ⟨1, by omega, .inr ⟨by omega, ⟨rfl, rfl, rfl, rfl, rfl, rfl, trivial⟩, rfl⟩⟩
    · rw [ltB_f (by omega)]
      obtain rfl : kids = [] := List.eq_nil_of_length_eq_zero (by omega)
      conv => whnf
      refine ⟨fun m hm => by rw [List.mem_singleton.1 hm]; rfl, ?_⟩
      conv => whnf
      refine ⟨by show 1 * 40 ≤ _; omega, .inr ⟨(by intro e; cases e), ?_⟩⟩
      conv => whnf
      refine ⟨[2], false, ?_⟩
      conv => whnf
      exact ⟨rfl, rfl⟩
  · obtain ⟨fr, rfl⟩ := hh.split
    clear hh
    conv => whnf
    by_cases hlt : i < kids.length
    · rw [ltB_t (by omega)]
      conv => whnf
      have hg := Go.Cod.rows_get kids i hlt
      have hc := hT kids[i] (List.getElem_mem _) (postL 0 (kids.take i))
      have hn := nL_take kids i hlt
      have hle := nL_take_le kids (i + 1)
      have hp := postL_take 0 kids i hlt
      unfold ThO at hc
      rw [postL_len] at hc
      rw [Nat.zero_add] at hp
      rw [← hp] at hc
      generalize kids[i] = t at hc hg hn
      obtain ⟨id', kind', text', kids'⟩ := t
      generalize postL 0 (kids.take i) = M at *
      refine ⟨by omega, T.rows kids, _, 4, rfl, hg, rfl, rfl, ?_⟩
      conv => whnf
      refine ⟨[1], false, ?_⟩
      conv => whnf
      refine (hc (by omega)).mono ?_
      rintro o st' ⟨rfl, rfl⟩
      conv => whnf
      refine ⟨n - 1, by omega, some [0, 3], ?_⟩
      conv => whnf
      refine ⟨i + 1, by omega, .inr ⟨by omega, ⟨rfl, rfl, rfl, rfl, rfl, ?_, trivial⟩, rfl⟩⟩
      show V.int .i64 (IntKind.i64.wrap (i + 1)) = _
      rw [wrap64 (by omega) (by omega)]; simp
    · rw [ltB_f (by omega)]
      rw [List.take_of_length_le (by omega)]
      have hll : (thR (postL 0 kids)).length = nL kids := by rw [thR_len]; simp [postL_len]
      generalize hM : postL 0 kids = M at *
      conv => whnf
      refine ⟨fun m hm => by rw [List.mem_singleton.1 hm]; rfl, ?_⟩
      conv => whnf
      refine ⟨by show ((thR M).length + 1) * 40 ≤ _; omega, ?_⟩
      conv => whnf
      refine ⟨[3], false, ?_⟩
      conv => whnf
      refine ⟨rfl, ?_⟩
      rw [thR_app]
      rfl
theorem diffThings_own (t : T) (ht : t.Small) : ∀ L : List Th, L.length + nT t ≤ 1048576 → Full Try.prog noY 24 [.own 0, .agg t.cells] [⟨thR L, 3, true, true, false, .cell⟩] (ThO L t) := by
  induction ht with
  | @mk id kind text kids g1 g2 g3 g4 g5 ih =>
    intro L hL
    simp only [nT] at hL
    exact diffThings_own1 id kind text kids L (by omega) ih
theorem diffThings_nil (t : T) (ht : t.Small) (hn : nT t ≤ 1048576) : Full Try.prog noY 24 [.nils, .agg t.cells] [] (ThN t) := by
  induction ht with
  | @mk id kind text kids g1 g2 g3 g4 g5 ih =>
    simp only [nT] at hn
    exact diffThings_nil1 id kind text kids hn (fun t' h' h => ih t' h' h) (fun t' h' => diffThings_own t' (g5 t' h'))
end Go.Cod

namespace Go.Cod
open Go Go.Proofs
set_option linter.all false
set_option maxRecDepth 10000

theorem thR_ok (L : List Th) : V.clean.cleanLL 0 (thR L) = true ∧ (∀ e ∈ thR L, ∀ x ∈ e, x.leaf = true) ∧ ∀ e ∈ thR L, ∀ x ∈ e, x.flat = true := by
  have key : ∀ e ∈ thR L, ∃ h : Th, e = h.cells := fun e he => by
    obtain ⟨h, _, rfl⟩ := List.mem_map.1 he
    exact ⟨h, rfl⟩
  refine ⟨?_, fun e he x hx => ?_, fun e he x hx => ?_⟩
  · rw [cleanLL_iff]
    intro e he
    obtain ⟨h, rfl⟩ := key e he
    rfl
  · obtain ⟨h, rfl⟩ := key e he
    simp [Th.cells] at hx
    rcases hx with rfl | rfl | rfl <;> rfl
  · obtain ⟨h, rfl⟩ := key e he
    simp [Th.cells] at hx
    rcases hx with rfl | rfl | rfl <;> rfl
theorem diffThings_pure (t : T) (ht : t.Small) (hn : nT t ≤ 1048576) : Pure Try.prog 24 [.nils, .agg t.cells] (· = .sl (thR (postT 0 t))) := by
  obtain ⟨h1, h2, h3⟩ := thR_ok (postT 0 t)
  refine Full.own_pure (diffThings_nil t ht hn) h1 h2 h3 ?_
  cases t; rfl
end Go.Cod

namespace Go.Cod
open Go Go.Proofs
set_option linter.all false
variable [Lam]

/- The walk of a statement whose order is open, sealed: what comes behind it is proved once. -/
def drawR (P : Program) (ok : OkY) (τ : Tau) (ops : Array Oper) (fr : Nat → V) (st : St) (K : (Nat → V) → St → Prop) (Z : V → (Nat → V) → St → Prop) : Prop := (match hasHand τ ops with
        | true => withMat τ ops fun M CH => Chk (mix2Ok τ M CH ops) (aEOps2 P τ CH ops ops.toList 0 fr st fun fr => forcePlan (planOf M CH ops) fun plan => aXOps P ok τ ops plan K plan [] fr st)
        | false => (match orderOk ops with
          | true => aQOps P τ ops ops.toList fr st fun fr => K fr st
          | false => (match mixOk ops with
            | true => aEOps P τ ops ops.toList 0 fr st fun fr => aCOps P ok τ ops ops.toList 0 fr st K
            | false => withMat τ ops fun M CH => (match mix2Ok τ M CH ops with
              | true => aEOps2 P τ CH ops ops.toList 0 fr st fun fr => forcePlan (planOf M CH ops) fun plan => aXOps P ok τ ops plan K plan [] fr st
              | false => aAny P ok τ ops K Z ops.size [] fr st))))
abbrev WalkA := Program → OkY → Tau → Array Oper → List Oper → (Nat → V) → St → ((Nat → V) → St → Prop) → (V → (Nat → V) → St → Prop) → Prop
abbrev WalkX := Program → OkY → Tau → Array Oper → (Nat → V) → St → ((Nat → V) → St → Prop) → (V → (Nat → V) → St → Prop) → Prop
def awpX (A : WalkA) (X : WalkX) (P : Program) (ok : OkY) (τ : Tau) (nb : Nat) (c : Code) : (Ex → (Nat → V) → St → Prop) → (Nat → V) → St → Prop :=
  Code.rec (motive := fun _ => Nat → (Ex → (Nat → V) → St → Prop) → (Nat → V) → St → Prop)
    (fun _ Q fr st => Q .normal fr st)
    (fun _ ops d _ Q fr st => match d with
      | false => A P ok τ ops ops.toList fr st (Q .normal) (fun v => Q (.pan v))
      | true => X P ok τ ops fr st (Q .normal) (fun v => Q (.pan v)))
    (fun _ _ iha ihb nb Q fr st => iha nb (AThen (ihb nb Q) Q) fr st)
    (fun c _ _ iha ihb nb Q fr st => ACond (ev fr c) (iha nb Q fr st) (ihb nb Q fr st))
    (fun id _ ih nb Q fr st => ih nb (ABlock id Q) fr st)
    (fun _ ih nb Q fr st => ∃ (J : Nat → (Nat → V) → St → Prop) (n : Nat) (flag : Bool) (s0 : Option (List Nat)), cmp nb s0 fr st (J n) ∧
      ∀ n fr st, J n fr st → ih nb (AThen (ALoop nb flag J n) Q) fr st)
    (fun f ps _ _ ihx ihy _ Q fr st => (match ev fr f with
      | .fn g cap => ARange P g cap ps.size (fun Q vs st' => ihx st.length (AThen (ihy st.length Q) fun _ _ _ => False) (setPs ps.toList vs fr) st') Q fr st
      | _ => False))
    (fun id _ Q fr st => Q (.exit id) fr st)
    (fun _ _ _ _ _ _ => False)
    (fun _ _ _ _ _ => False)
    (fun _ _ _ _ _ => False)
    (fun _ Q fr st => Q .ret fr st)
    (fun _ _ _ _ _ => False) c nb
theorem full_of_draw {P : Program} {ok : OkY} {τ : Tau} (hτ : TauGood P τ) {f : FuncId} {fn : Func} {c : Code} {args : List V} {st0 : St} {R : Out → St → Prop}
    (hf : P.funcs[f]? = some fn) (hb : fn.body = some c) (hname : (fn.name == "runtime.NumGoroutine") = false) (hc : codeOk fn.ntmps c = true)
    (h : ∀ X, X = drawR → awpX aOps X P ok τ st0.length c (AEndF τ fn.results.toList st0.length R) (initFr args) st0) : Full P ok f args st0 R := full_of_awp hτ hf hb hname hc (h drawR rfl)
variable {X : WalkX} {P : Program} {ok : OkY} {τ : Tau} {ops : Array Oper} {fr : Nat → V} {st : St} {K : (Nat → V) → St → Prop} {Z : V → (Nat → V) → St → Prop}
/-- .. with the slots that are still looked at. -/
theorem draw_with (hX : X = drawR) (L : List (Nat × V)) (hh : Holds fr L) (h : ∀ C : (Nat → V) → St → Prop, (∀ fr st, K fr st → C fr st) → ∀ b, drawR P ok τ ops (setL b L) st C Z) : X P ok τ ops fr st K Z := by
  obtain ⟨b, rfl⟩ := hh.split
  rw [hX]
  exact h K (fun _ _ x => x) b
theorem draw_go (hX : X = drawR) (h : drawR P ok τ ops fr st K Z) : X P ok τ ops fr st K Z := by rw [hX]; exact h
end Go.Cod

namespace Go.Cod
open Go Go.Proofs
set_option linter.all false
set_option maxRecDepth 10000

def viewW (n m : Nat) (f : Nat → Nat → Int) : List (List V) := (List.range n).map fun a => [V.sl (numR m (f a))]
theorem viewW_get {n m : Nat} (f : Nat → Nat → Int) {a : Nat} (h : a < n) : (viewW n m f)[a]? = some [.sl (numR m (f a))] := by simp [viewW, h]
theorem viewW_len (n m : Nat) (f : Nat → Nat → Int) : (viewW n m f).length = n := by simp [viewW]
/-- What is known of a table of costs: the rows ahead of x, and of row x the places ahead of y. -/
structure Known (f : Nat → Nat → Int) (d : Nat → Nat → Nat) (r c x y : Nat) : Prop where
  done : ∀ a b, a ≤ r → b ≤ c → (a = 0 ∨ b = 0 ∨ a ≤ x ∨ (a = x + 1 ∧ b ≤ y)) → f a b = d a b
theorem wrapN (n : Nat) (h : n ≤ 1000000) : IntKind.i64.wrap (n : Int) = (n : Int) := wrap64 (by omega) (by omega)
theorem wrapA (n k : Nat) (h : n + k ≤ 1000000) : IntKind.i64.wrap ((n : Int) + (k : Int)) = ((n + k : Nat) : Int) := by rw [← wrapN (n + k) h]; simp
theorem wrapA1 (n : Nat) (h : n + 1 ≤ 1000000) : IntKind.i64.wrap ((n : Int) + 1) = ((n + 1 : Nat) : Int) := by rw [← wrapN (n + 1) h]; simp
theorem wrapS (n k : Nat) (h : n ≤ 1000000) (hk : k ≤ n) : IntKind.i64.wrap ((n : Int) - (k : Int)) = ((n - k : Nat) : Int) := by rw [← wrapN (n - k) (by omega)]; congr 1; omega
set_option maxHeartbeats 8000000 in
theorem diffWhole_run (D E : List Th) (i j left top r c : Nat) (di dj : Th) (g : Nat → Nat → Int) (d : Nat → Nat → Nat) (lD : D.length ≤ 1000) (lE : E.length ≤ 1000) (hi : D[i]? = some di) (hj : E[j]? = some dj) (hl : di.f = left) (ht : dj.f = top)
    (hir : left + r = i + 1) (hjc : top + c = j + 1) (hr1 : 1 ≤ r) (hc1 : 1 ≤ c) (h0 : ∀ x, d x 0 = x) (h1 : ∀ y, d 0 y = y) (hb : ∀ x y, x ≤ r → y ≤ c → d x y ≤ 2000)
    (hf : ∀ x a, x < r → D[left + x]? = some a → left ≤ a.f ∧ a.f ≤ left + x) (hf' : ∀ y b, y < c → E[top + y]? = some b → top ≤ b.f ∧ b.f ≤ top + y)
    (hs1 : ∀ x y a b, x < r → y < c → D[left + x]? = some a → E[top + y]? = some b → (left < a.f ∨ top < b.f) → ∃ w : Nat, g (left + x) (top + y) = w ∧ w ≤ 2000 ∧ d (x + 1) (y + 1) = min (min (d x (y + 1) + 1) (d (x + 1) y + 1)) (d (a.f - left) (b.f - top) + w))
    (hs2 : ∀ x y a b, x < r → y < c → D[left + x]? = some a → E[top + y]? = some b → a.f = left → b.f = top → d (x + 1) (y + 1) = min (min (d x (y + 1) + 1) (d (x + 1) y + 1)) (d x y + unH a b)) :
    Full Try.prog noY 26 [.sl (thR D), .sl (thR E), .int .i64 i, .int .i64 j, .sl (viewW D.length E.length g)] [poolO []] fun o st' => ∃ es, o = .ret (.int .i64 (d r c : Nat)) ∧ st' = [poolO es] := by
  have lhi : i < D.length := (List.getElem?_eq_some_iff.1 hi).1
  have lhj : j < E.length := (List.getElem?_eq_some_iff.1 hj).1
  have hti := thR_get hi
  have htj := thR_get hj
  obtain ⟨dik, dit, dif⟩ := di
  obtain ⟨djk, djt, djf⟩ := dj
  simp only at hl ht
  subst hl; subst ht
  have hdt := diffTable_new (r + 1) (c + 1) (by omega) (by omega)
  refine full_of_draw good Try.func26 rfl (by kernel_rfl) (by decide) fun X hX => ?_
  conv => whnf
  refine draw_go hX ?_
  conv => whnf
  refine ⟨by omega, _, _, 3, rfl, hti, rfl, rfl, ?_⟩
  conv => whnf
  refine ⟨by omega, _, _, 3, rfl, htj, rfl, rfl, ?_⟩
  conv => whnf
  rw [wrapS i dif (by omega) (by omega), wrapS j djf (by omega) (by omega), wrapA1 _ (by omega), wrapA1 _ (by omega), show i - dif + 1 = r by omega, show j - djf + 1 = c by omega]
  rw [wrapA1 r (by omega), wrapA1 c (by omega)]
  refine .inr (.inl ⟨[0], false, ?_⟩)
  conv => whnf
  refine hdt.mono ?_
  rintro o st' ⟨b, bs, es, rfl, rfl, hT, hbl⟩
  clear hdt hti htj
  have hw1 : V.int .i64 (IntKind.i64.wrap (r + 1)) = .int .i64 (r + 1 : Nat) := by rw [wrapA1 r (by omega)]
  have hw2 : V.int .i64 (IntKind.i64.wrap (c + 1)) = .int .i64 (c + 1 : Nat) := by rw [wrapA1 c (by omega)]
  conv => whnf
  -- the first column
  refine loop_drop (fun n fr st => ∃ (k : Nat) (es : List (List V)) (f : Nat → Nat → Int), n + k = r + 1 ∧ st = [poolO es] ∧ Tab es b (r + 1) bs (c + 1) f ∧ (∀ x, x < k → f x 0 = x) ∧
      Holds fr [(0, .sl (thR D)), (1, .sl (thR E)), (4, .sl (viewW D.length E.length g)), (11, .int .i64 dif), (12, .int .i64 djf), (13, .int .i64 r), (14, .int .i64 c), (15, .dref b (r + 1) (r + 1)), (47, .int .i64 (r + 1 : Nat)), (48, .int .i64 k)]) (r + 1) none ?_ ?_
  · exact ⟨0, es, _, rfl, rfl, hT, (fun x hx => absurd hx (Nat.not_lt_zero _)), rfl, rfl, rfl, rfl, rfl, rfl, rfl, rfl, hw1, rfl, trivial⟩
  clear hT es
  rintro n fr st ⟨k, es, f, hk, rfl, hT, hF, hh⟩
  obtain ⟨fr, rfl⟩ := hh.split
  clear hh
  conv => whnf
  by_cases hlt : k < r + 1
  · rw [ltB_t (by omega)]
    conv => whnf
    obtain ⟨x, hx, hx1, hx2⟩ := hT.at (i := k) (by omega)
    refine ⟨by omega, by omega, ?_⟩
    conv => whnf
    refine ⟨0, r + 1, _, _, hT.root, hx1, ?_⟩
    conv => whnf
    refine ⟨by omega, by omega, ?_⟩
    conv => whnf
    refine ⟨0, c + 1, _, _, _, hx2, numR_get _ (by omega), rfl, ?_⟩
    conv => whnf
    refine ⟨n - 1, by omega, none, k + 1, _, _, by omega, rfl, hT.put hx 0 k, ?_, rfl, rfl, rfl, rfl, rfl, rfl, rfl, rfl, rfl, ?_, trivial⟩
    · intro x hx
      unfold upd2
      by_cases e : x = k
      · subst e; simp
      · rw [if_neg (fun h => e h.1)]; exact hF x (by omega)
    · show V.int .i64 (IntKind.i64.wrap (k + 1)) = _
      rw [wrapA1 k (by omega)]
  rw [ltB_f (by omega)]
  conv => whnf
  -- the first row
  replace hF : ∀ x, x < r + 1 → f x 0 = x := fun x hx => hF x (by omega)
  clear hlt hk
  refine loop_drop (fun n fr st => ∃ (k : Nat) (es : List (List V)) (f : Nat → Nat → Int), n + k = c + 1 ∧ st = [poolO es] ∧ Tab es b (r + 1) bs (c + 1) f ∧ (∀ x, x < r + 1 → f x 0 = x) ∧ (∀ y, y < k → f 0 y = y) ∧
      Holds fr [(0, .sl (thR D)), (1, .sl (thR E)), (4, .sl (viewW D.length E.length g)), (11, .int .i64 dif), (12, .int .i64 djf), (13, .int .i64 r), (14, .int .i64 c), (15, .dref b (r + 1) (r + 1)), (59, .int .i64 (c + 1 : Nat)), (60, .int .i64 k)]) (c + 1) none ?_ ?_
  · exact ⟨0, es, f, rfl, rfl, hT, hF, (fun x hx => absurd hx (Nat.not_lt_zero _)), rfl, rfl, rfl, rfl, rfl, rfl, rfl, rfl, hw2, rfl, trivial⟩
  clear hT hF es f fr
  rintro n fr st ⟨k, es, f, hk, rfl, hT, hF, hG, hh⟩
  obtain ⟨fr, rfl⟩ := hh.split
  clear hh
  conv => whnf
  by_cases hlt : k < c + 1
  · rw [ltB_t (by omega)]
    conv => whnf
    obtain ⟨x, hx, hx1, hx2⟩ := hT.at (i := 0) (by omega)
    refine ⟨by omega, by omega, ?_⟩
    conv => whnf
    refine ⟨0, r + 1, _, _, hT.root, hx1, ?_⟩
    conv => whnf
    refine ⟨by omega, by omega, ?_⟩
    conv => whnf
    refine ⟨0, c + 1, _, _, _, hx2, numR_get _ hlt, rfl, ?_⟩
    conv => whnf
    refine ⟨n - 1, by omega, none, k + 1, _, _, by omega, rfl, hT.put hx k k, ?_, ?_, rfl, rfl, rfl, rfl, rfl, rfl, rfl, rfl, rfl, ?_, trivial⟩
    · intro x hx
      unfold upd2
      by_cases e : x = 0 ∧ 0 = k
      · rw [if_pos e]; omega
      · rw [if_neg e]; exact hF x hx
    · intro y hy
      unfold upd2
      by_cases e : y = k
      · subst e; simp
      · rw [if_neg (fun h => e h.2)]; exact hG y (by omega)
    · show V.int .i64 (IntKind.i64.wrap (k + 1)) = _
      rw [wrapA1 k (by omega)]
  rw [ltB_f (by omega)]
  conv => whnf
  have hK : Known f d r c 0 0 := ⟨fun a b ha hb h => by
    rcases h with rfl | rfl | h | ⟨rfl, h⟩
    · rw [h1]; exact hG b (by omega)
    · rw [h0]; exact hF a (by omega)
    · obtain rfl : a = 0 := by omega
      rw [h1]; exact hG b (by omega)
    · obtain rfl : b = 0 := by omega
      rw [h0]; exact hF _ (by omega)⟩
  clear hlt hk hF hG
  -- row by row
  refine loop_drop (fun n fr st => ∃ (k : Nat) (es : List (List V)) (f : Nat → Nat → Int), n + k = r ∧ st = [poolO es] ∧ Tab es b (r + 1) bs (c + 1) f ∧ Known f d r c k 0 ∧
      Holds fr [(0, .sl (thR D)), (1, .sl (thR E)), (4, .sl (viewW D.length E.length g)), (11, .int .i64 dif), (12, .int .i64 djf), (13, .int .i64 r), (14, .int .i64 c), (15, .dref b (r + 1) (r + 1)), (70, .int .i64 r), (71, .int .i64 k)]) r none ?_ ?_
  · exact ⟨0, es, f, rfl, rfl, hT, hK, rfl, rfl, rfl, rfl, rfl, rfl, rfl, rfl, rfl, rfl, trivial⟩
  clear hT hK es f fr
  rintro n fr st ⟨k, es, f, hk, rfl, hT, hK, hh⟩
  obtain ⟨fr, rfl⟩ := hh.split
  clear hh
  conv => whnf
  by_cases hlt : k < r
  · rw [ltB_t (by omega)]
    conv => whnf
    refine loop_drop (fun n fr st => ∃ (l : Nat) (es : List (List V)) (f : Nat → Nat → Int), n + l = c ∧ st = [poolO es] ∧ Tab es b (r + 1) bs (c + 1) f ∧ Known f d r c k l ∧
      Holds fr [(0, .sl (thR D)), (1, .sl (thR E)), (4, .sl (viewW D.length E.length g)), (11, .int .i64 dif), (12, .int .i64 djf), (13, .int .i64 r), (14, .int .i64 c), (15, .dref b (r + 1) (r + 1)), (18, .int .i64 k), (70, .int .i64 r), (71, .int .i64 k), (74, .int .i64 c), (75, .int .i64 l)]) c none ?_ ?_
    · exact ⟨0, es, f, rfl, rfl, hT, hK, rfl, rfl, rfl, rfl, rfl, rfl, rfl, rfl, rfl, rfl, rfl, rfl, rfl, trivial⟩
    clear hT hK es f fr
    rintro m fr st ⟨l, es, f, hl, rfl, hT, hK, hh⟩
    obtain ⟨fr, rfl⟩ := hh.split
    clear hh
    conv => whnf
    by_cases hltc : l < c
    · rw [ltB_t (by omega)]
      conv => whnf
      obtain ⟨was, hwas⟩ : ∃ a, D[dif + k]? = some a := ⟨_, List.getElem?_eq_getElem (by omega)⟩
      obtain ⟨is, his⟩ : ∃ a, E[djf + l]? = some a := ⟨_, List.getElem?_eq_getElem (by omega)⟩
      have e1 := hf k was hlt hwas
      have e2 := hf' l is hltc his
      have e3 := hs1 k l was is hlt hltc hwas his
      have e4 := hs2 k l was is hlt hltc hwas his
      have hun := diffUnlike_pure was is
      have htw := thR_get hwas
      have hti := thR_get his
      obtain ⟨wk, wt, wf⟩ := was
      obtain ⟨ik, it, jf⟩ := is
      simp only at e1 e2 e3 e4
      refine draw_with hX [(0, .sl (thR D)), (1, .sl (thR E)), (4, .sl (viewW D.length E.length g)), (11, .int .i64 dif), (12, .int .i64 djf), (13, .int .i64 r), (14, .int .i64 c), (15, .dref b (r + 1) (r + 1)), (18, .int .i64 k), (19, .int .i64 l), (70, .int .i64 r), (71, .int .i64 k), (74, .int .i64 c), (75, .int .i64 l)] ⟨rfl, rfl, rfl, rfl, rfl, rfl, rfl, rfl, rfl, rfl, rfl, rfl, rfl, rfl, trivial⟩ fun C hC fr => ?_
      have hwk := wrapA dif k (by omega)
      have hwl := wrapA djf l (by omega)
      have key : ∀ fr st, (Holds fr [(0, .sl (thR D)), (1, .sl (thR E)), (4, .sl (viewW D.length E.length g)), (11, .int .i64 dif), (12, .int .i64 djf), (13, .int .i64 r), (14, .int .i64 c), (15, .dref b (r + 1) (r + 1)), (18, .int .i64 k), (19, .int .i64 l), (20, .ptr 1 0 0), (21, .ptr 2 0 0), (70, .int .i64 r), (71, .int .i64 k), (74, .int .i64 c), (75, .int .i64 l)] ∧
            st = [poolO es, ⟨[[.str wk, .str wt, .int .i64 wf]], 3, true, true, true, .cell⟩, ⟨[[.str ik, .str it, .int .i64 jf]], 3, true, true, true, .cell⟩]) ∨
          (Holds fr [(0, .sl (thR D)), (1, .sl (thR E)), (4, .sl (viewW D.length E.length g)), (11, .int .i64 dif), (12, .int .i64 djf), (13, .int .i64 r), (14, .int .i64 c), (15, .dref b (r + 1) (r + 1)), (18, .int .i64 k), (19, .int .i64 l), (20, .ptr 2 0 0), (21, .ptr 1 0 0), (70, .int .i64 r), (71, .int .i64 k), (74, .int .i64 c), (75, .int .i64 l)] ∧
            st = [poolO es, ⟨[[.str ik, .str it, .int .i64 jf]], 3, true, true, true, .cell⟩, ⟨[[.str wk, .str wt, .int .i64 wf]], 3, true, true, true, .cell⟩]) → C fr st := by
        rintro fr st hJ
        refine hC _ _ ?_
        clear hC
        obtain ⟨xk, hx0, hx1, hx2⟩ := hT.at (i := k) (by omega)
        obtain ⟨xk', hy0, hy1, hy2⟩ := hT.at (i := k + 1) (by omega)
        obtain ⟨xf, hz0, hz1, hz2⟩ := hT.at (i := wf - dif) (by omega)
        have hwk1 := wrapA1 k (by omega)
        have hwl1 := wrapA1 l (by omega)
        have hws1 := wrapS wf dif (by omega) (by omega)
        have hws2 := wrapS jf djf (by omega) (by omega)
        have k1 := hK.done k l (by omega) (by omega) (by omega)
        have k2 := hK.done k (l + 1) (by omega) (by omega) (by omega)
        have k3 := hK.done (k + 1) l (by omega) (by omega) (by omega)
        have k4 := hK.done (wf - dif) (jf - djf) (by omega) (by omega) (by omega)
        have b1 := hb k l (by omega) (by omega)
        have b2 := hb k (l + 1) (by omega) (by omega)
        have b3 := hb (k + 1) l (by omega) (by omega)
        have b4 := hb (wf - dif) (jf - djf) (by omega) (by omega)
        have bu : unH ⟨wk, wt, wf⟩ ⟨ik, it, jf⟩ ≤ 1 := by unfold unH; split <;> omega
        have hgw := viewW_get (m := E.length) g (show dif + k < D.length by omega)
        have hgn := numR_get (g (dif + k)) (show djf + l < E.length by omega)
        rcases hJ with ⟨hh, rfl⟩ | ⟨hh, rfl⟩
        all_goals
          obtain ⟨fr, rfl⟩ := hh.split
          clear hh
          conv => whnf
          refine draw_go hX ?_
          conv => whnf
          refine ⟨by omega, by omega, ?_⟩
          conv => whnf
          refine ⟨0, r + 1, _, _, hT.root, hx1, ?_⟩
          conv => whnf
          refine ⟨by omega, by omega, ?_⟩
          conv => whnf
          refine ⟨0, c + 1, _, _, hx2, numR_get _ (by omega), ?_⟩
          conv => whnf
          refine ⟨_, .inl hun, ?_⟩
          conv => whnf
          have hval : ∀ v : Nat, d (k + 1) (l + 1) = min (min (d k (l + 1) + 1) (d (k + 1) l + 1)) v → mn (mn (v : Int) (IntKind.i64.wrap (f k (l + 1) + 1))) (IntKind.i64.wrap (f (k + 1) l + 1)) = d (k + 1) (l + 1) := fun v hv => by
            rw [k2, k3, wrapA1 _ (by omega), wrapA1 _ (by omega)]
            unfold mn; split <;> split <;> omega
          have hfin : ∃ v : Nat, v ≤ 4000 ∧ d (k + 1) (l + 1) = min (min (d k (l + 1) + 1) (d (k + 1) l + 1)) v ∧ ((dif < wf ∨ djf < jf) → IntKind.i64.wrap (f (wf - dif) (jf - djf) + g (dif + k) (djf + l)) = v) ∧ (¬ (dif < wf ∨ djf < jf) → IntKind.i64.wrap (f k l + unH ⟨wk, wt, wf⟩ ⟨ik, it, jf⟩) = v) := by
            by_cases a : dif < wf ∨ djf < jf
            · obtain ⟨w, w1, w2, w3⟩ := e3 a
              exact ⟨_, by omega, w3, (fun _ => by rw [k4, w1, wrapA _ _ (by omega)]), fun h => absurd a h⟩
            · exact ⟨_, by omega, e4 (by omega) (by omega), (fun h => absurd h a), fun _ => by rw [k1, wrapA _ _ (by omega)]⟩
          obtain ⟨v, hv1, hv2, hv3, hv4⟩ := hfin
          have hvv := hval v hv2
          clear hval hv2 e3 e4 k1 k2 k3 k4
          by_cases a1 : dif < wf
          · rw [ltB_t (by omega)]
            conv => whnf
            refine draw_go hX ?_
            conv => whnf
            refine ⟨by rw [hws1]; omega, by rw [hws1]; omega, ?_⟩
            conv => whnf
            refine ⟨0, r + 1, _, _, hT.root, by rw [hws1]; exact hz1, ?_⟩
            conv => whnf
            refine ⟨by rw [hws2]; omega, by rw [hws2]; omega, ?_⟩
            conv => whnf
            refine ⟨0, c + 1, _, _, hz2, by rw [hws2]; exact numR_get _ (by omega), ?_⟩
            conv => whnf
            refine ⟨by rw [hwk]; omega, _, _, 1, rfl, by rw [hwk]; exact hgw, rfl, rfl, ?_⟩
            conv => whnf
            refine ⟨by rw [hwl]; omega, _, _, 1, rfl, by rw [hwl]; exact hgn, rfl, rfl, ?_⟩
            conv => whnf
            refine draw_with hX [(0, .sl (thR D)), (1, .sl (thR E)), (4, .sl (viewW D.length E.length g)), (11, .int .i64 dif), (12, .int .i64 djf), (13, .int .i64 r), (14, .int .i64 c), (15, .dref b (r + 1) (r + 1)), (18, .int .i64 k), (19, .int .i64 l), (22, .int .i64 v), (70, .int .i64 r), (71, .int .i64 k), (74, .int .i64 c), (75, .int .i64 l)] ⟨rfl, rfl, rfl, rfl, rfl, rfl, rfl, rfl, rfl, rfl, congrArg (V.int .i64) (hv3 (.inl a1)), rfl, rfl, rfl, rfl, trivial⟩ fun C hC fr => ?_
            have hend : ∀ fr st, (∃ (a1 a2 b1 b2 : List UInt8) (a3 b3 : Int) (o3 : List (List V)) (o4 : Bool), st = [poolO (putEnt xk' ((numR (c + 1) (f (k + 1))).set (l + 1) [.int .i64 (mn (mn (v : Int) (IntKind.i64.wrap (f k (l + 1) + 1))) (IntKind.i64.wrap (f (k + 1) l + 1)))]) es), ⟨[[.str a1, .str a2, .int .i64 a3]], 3, true, true, true, .cell⟩, ⟨[[.str b1, .str b2, .int .i64 b3]], 3, true, true, true, .cell⟩, ⟨o3, 1, true, o4, false, .cell⟩]) ∧ Holds fr [(0, .sl (thR D)), (1, .sl (thR E)), (4, .sl (viewW D.length E.length g)), (11, .int .i64 dif), (12, .int .i64 djf), (13, .int .i64 r), (14, .int .i64 c), (15, .dref b (r + 1) (r + 1)), (18, .int .i64 k), (70, .int .i64 r), (71, .int .i64 k), (74, .int .i64 c), (75, .int .i64 l)] → C fr st := by
              rintro fr st ⟨⟨a1, a2, b1, b2, a3, b3, o3, o4, rfl⟩, hh⟩
              obtain ⟨fr, rfl⟩ := hh.split
              refine hC _ _ ?_
              clear hC hh
              conv => whnf
              refine ⟨m - 1, by omega, some [0], ?_⟩
              conv => whnf
              refine ⟨l + 1, _, _, by omega, rfl, hT.put hy0 (l + 1) _, ⟨fun x y hx hy h => ?_⟩, rfl, rfl, rfl, rfl, rfl, rfl, rfl, rfl, rfl, rfl, rfl, rfl, ?_, trivial⟩
              · unfold upd2
                by_cases e : x = k + 1 ∧ y = l + 1
                · rw [if_pos e, e.1, e.2]; exact hvv
                · rw [if_neg e]; exact hK.done x y hx hy (by omega)
              · show V.int .i64 (IntKind.i64.wrap (l + 1)) = _
                rw [wrapA1 l (by omega)]
            conv => whnf
            refine ⟨by rw [hwk1]; omega, by rw [hwk1]; omega, ?_⟩
            conv => whnf
            refine ⟨0, r + 1, _, _, hT.root, by rw [hwk1]; exact hy1, ?_⟩
            conv => whnf
            refine ⟨by omega, by omega, ?_⟩
            conv => whnf
            refine ⟨0, r + 1, _, _, hT.root, hx1, ?_⟩
            conv => whnf
            refine ⟨by rw [hwl1]; omega, by rw [hwl1]; omega, ?_⟩
            conv => whnf
            refine ⟨0, c + 1, _, _, hx2, by rw [hwl1]; exact numR_get _ (by omega), ?_⟩
            conv => whnf
            refine ⟨by rw [hwk1]; omega, by rw [hwk1]; omega, ?_⟩
            conv => whnf
            refine ⟨0, r + 1, _, _, hT.root, by rw [hwk1]; exact hy1, ?_⟩
            conv => whnf
            refine ⟨by omega, by omega, ?_⟩
            conv => whnf
            refine ⟨0, c + 1, _, _, hy2, numR_get _ (by omega), ?_⟩
            conv => whnf
            refine ⟨[], false, ?_⟩
            conv => whnf
            refine Full.mono (least_pure v (IntKind.i64.wrap (f k (l + 1) + 1)) (IntKind.i64.wrap (f (k + 1) l + 1))) ?_
            rintro o st' ⟨rfl, rr, rfl, rfl⟩
            conv => whnf
            refine And.intro (by (conv => whnf); exact ⟨by rw [hwk1]; omega, by rw [hwk1]; omega, rfl⟩) ?_
            conv => whnf
            refine And.intro (by (conv => whnf); exact ⟨0, r + 1, rootR (r + 1) bs (c + 1), [.dref xk' (c + 1) (c + 1)], hT.root, by rw [hwk1]; exact hy1, rfl⟩) ?_
            conv => whnf
            refine ⟨by rw [hwl1]; omega, by rw [hwl1]; omega, ?_⟩
            conv => whnf
            refine ⟨0, c + 1, _, _, putEnt xk' ((numR (c + 1) (f (k + 1))).set (l + 1) [.int .i64 (mn (mn (v : Int) (IntKind.i64.wrap (f k (l + 1) + 1))) (IntKind.i64.wrap (f (k + 1) l + 1)))]) es, hy2, by rw [hwl1]; exact numR_get _ (by omega), by rw [hwl1]; rfl, ?_⟩
            conv => whnf
            refine hend _ _ ⟨⟨_, _, _, _, _, _, _, _, rfl⟩, rfl, rfl, rfl, rfl, rfl, rfl, rfl, rfl, rfl, rfl, rfl, rfl, rfl, trivial⟩
          · rw [ltB_f (by omega)]
            conv => whnf
            by_cases a2 : djf < jf
            · rw [ltB_t (by omega)]
              conv => whnf
              refine draw_go hX ?_
              conv => whnf
              refine ⟨by rw [hws1]; omega, by rw [hws1]; omega, ?_⟩
              conv => whnf
              refine ⟨0, r + 1, _, _, hT.root, by rw [hws1]; exact hz1, ?_⟩
              conv => whnf
              refine ⟨by rw [hws2]; omega, by rw [hws2]; omega, ?_⟩
              conv => whnf
              refine ⟨0, c + 1, _, _, hz2, by rw [hws2]; exact numR_get _ (by omega), ?_⟩
              conv => whnf
              refine ⟨by rw [hwk]; omega, _, _, 1, rfl, by rw [hwk]; exact hgw, rfl, rfl, ?_⟩
              conv => whnf
              refine ⟨by rw [hwl]; omega, _, _, 1, rfl, by rw [hwl]; exact hgn, rfl, rfl, ?_⟩
              conv => whnf
              refine draw_with hX [(0, .sl (thR D)), (1, .sl (thR E)), (4, .sl (viewW D.length E.length g)), (11, .int .i64 dif), (12, .int .i64 djf), (13, .int .i64 r), (14, .int .i64 c), (15, .dref b (r + 1) (r + 1)), (18, .int .i64 k), (19, .int .i64 l), (22, .int .i64 v), (70, .int .i64 r), (71, .int .i64 k), (74, .int .i64 c), (75, .int .i64 l)] ⟨rfl, rfl, rfl, rfl, rfl, rfl, rfl, rfl, rfl, rfl, congrArg (V.int .i64) (hv3 (.inr a2)), rfl, rfl, rfl, rfl, trivial⟩ fun C hC fr => ?_
              have hend : ∀ fr st, (∃ (a1 a2 b1 b2 : List UInt8) (a3 b3 : Int) (o3 : List (List V)) (o4 : Bool), st = [poolO (putEnt xk' ((numR (c + 1) (f (k + 1))).set (l + 1) [.int .i64 (mn (mn (v : Int) (IntKind.i64.wrap (f k (l + 1) + 1))) (IntKind.i64.wrap (f (k + 1) l + 1)))]) es), ⟨[[.str a1, .str a2, .int .i64 a3]], 3, true, true, true, .cell⟩, ⟨[[.str b1, .str b2, .int .i64 b3]], 3, true, true, true, .cell⟩, ⟨o3, 1, true, o4, false, .cell⟩]) ∧ Holds fr [(0, .sl (thR D)), (1, .sl (thR E)), (4, .sl (viewW D.length E.length g)), (11, .int .i64 dif), (12, .int .i64 djf), (13, .int .i64 r), (14, .int .i64 c), (15, .dref b (r + 1) (r + 1)), (18, .int .i64 k), (70, .int .i64 r), (71, .int .i64 k), (74, .int .i64 c), (75, .int .i64 l)] → C fr st := by
                rintro fr st ⟨⟨a1, a2, b1, b2, a3, b3, o3, o4, rfl⟩, hh⟩
                obtain ⟨fr, rfl⟩ := hh.split
                refine hC _ _ ?_
                clear hC hh
                conv => whnf
                refine ⟨m - 1, by omega, some [0], ?_⟩
                conv => whnf
                refine ⟨l + 1, _, _, by omega, rfl, hT.put hy0 (l + 1) _, ⟨fun x y hx hy h => ?_⟩, rfl, rfl, rfl, rfl, rfl, rfl, rfl, rfl, rfl, rfl, rfl, rfl, ?_, trivial⟩
                · unfold upd2
                  by_cases e : x = k + 1 ∧ y = l + 1
                  · rw [if_pos e, e.1, e.2]; exact hvv
                  · rw [if_neg e]; exact hK.done x y hx hy (by omega)
                · show V.int .i64 (IntKind.i64.wrap (l + 1)) = _
                  rw [wrapA1 l (by omega)]
              conv => whnf
              refine ⟨by rw [hwk1]; omega, by rw [hwk1]; omega, ?_⟩
              conv => whnf
              refine ⟨0, r + 1, _, _, hT.root, by rw [hwk1]; exact hy1, ?_⟩
              conv => whnf
              refine ⟨by omega, by omega, ?_⟩
              conv => whnf
              refine ⟨0, r + 1, _, _, hT.root, hx1, ?_⟩
              conv => whnf
              refine ⟨by rw [hwl1]; omega, by rw [hwl1]; omega, ?_⟩
              conv => whnf
              refine ⟨0, c + 1, _, _, hx2, by rw [hwl1]; exact numR_get _ (by omega), ?_⟩
              conv => whnf
              refine ⟨by rw [hwk1]; omega, by rw [hwk1]; omega, ?_⟩
              conv => whnf
              refine ⟨0, r + 1, _, _, hT.root, by rw [hwk1]; exact hy1, ?_⟩
              conv => whnf
              refine ⟨by omega, by omega, ?_⟩
              conv => whnf
              refine ⟨0, c + 1, _, _, hy2, numR_get _ (by omega), ?_⟩
              conv => whnf
              refine ⟨[], false, ?_⟩
              conv => whnf
              refine Full.mono (least_pure v (IntKind.i64.wrap (f k (l + 1) + 1)) (IntKind.i64.wrap (f (k + 1) l + 1))) ?_
              rintro o st' ⟨rfl, rr, rfl, rfl⟩
              conv => whnf
              refine And.intro (by (conv => whnf); exact ⟨by rw [hwk1]; omega, by rw [hwk1]; omega, rfl⟩) ?_
              conv => whnf
              refine And.intro (by (conv => whnf); exact ⟨0, r + 1, rootR (r + 1) bs (c + 1), [.dref xk' (c + 1) (c + 1)], hT.root, by rw [hwk1]; exact hy1, rfl⟩) ?_
              conv => whnf
              refine ⟨by rw [hwl1]; omega, by rw [hwl1]; omega, ?_⟩
              conv => whnf
              refine ⟨0, c + 1, _, _, putEnt xk' ((numR (c + 1) (f (k + 1))).set (l + 1) [.int .i64 (mn (mn (v : Int) (IntKind.i64.wrap (f k (l + 1) + 1))) (IntKind.i64.wrap (f (k + 1) l + 1)))]) es, hy2, by rw [hwl1]; exact numR_get _ (by omega), by rw [hwl1]; rfl, ?_⟩
              conv => whnf
              refine hend _ _ ⟨⟨_, _, _, _, _, _, _, _, rfl⟩, rfl, rfl, rfl, rfl, rfl, rfl, rfl, rfl, rfl, rfl, rfl, rfl, rfl, trivial⟩
            · rw [ltB_f (by omega)]
              conv => whnf
              refine draw_with hX [(0, .sl (thR D)), (1, .sl (thR E)), (4, .sl (viewW D.length E.length g)), (11, .int .i64 dif), (12, .int .i64 djf), (13, .int .i64 r), (14, .int .i64 c), (15, .dref b (r + 1) (r + 1)), (18, .int .i64 k), (19, .int .i64 l), (22, .int .i64 v), (70, .int .i64 r), (71, .int .i64 k), (74, .int .i64 c), (75, .int .i64 l)] ⟨rfl, rfl, rfl, rfl, rfl, rfl, rfl, rfl, rfl, rfl, congrArg (V.int .i64) (hv4 (by omega)), rfl, rfl, rfl, rfl, trivial⟩ fun C hC fr => ?_
              have hend : ∀ fr st, (∃ (a1 a2 b1 b2 : List UInt8) (a3 b3 : Int) (o3 : List (List V)) (o4 : Bool), st = [poolO (putEnt xk' ((numR (c + 1) (f (k + 1))).set (l + 1) [.int .i64 (mn (mn (v : Int) (IntKind.i64.wrap (f k (l + 1) + 1))) (IntKind.i64.wrap (f (k + 1) l + 1)))]) es), ⟨[[.str a1, .str a2, .int .i64 a3]], 3, true, true, true, .cell⟩, ⟨[[.str b1, .str b2, .int .i64 b3]], 3, true, true, true, .cell⟩, ⟨o3, 1, true, o4, false, .cell⟩]) ∧ Holds fr [(0, .sl (thR D)), (1, .sl (thR E)), (4, .sl (viewW D.length E.length g)), (11, .int .i64 dif), (12, .int .i64 djf), (13, .int .i64 r), (14, .int .i64 c), (15, .dref b (r + 1) (r + 1)), (18, .int .i64 k), (70, .int .i64 r), (71, .int .i64 k), (74, .int .i64 c), (75, .int .i64 l)] → C fr st := by
                rintro fr st ⟨⟨a1, a2, b1, b2, a3, b3, o3, o4, rfl⟩, hh⟩
                obtain ⟨fr, rfl⟩ := hh.split
                refine hC _ _ ?_
                clear hC hh
                conv => whnf
                refine ⟨m - 1, by omega, some [0], ?_⟩
                conv => whnf
                refine ⟨l + 1, _, _, by omega, rfl, hT.put hy0 (l + 1) _, ⟨fun x y hx hy h => ?_⟩, rfl, rfl, rfl, rfl, rfl, rfl, rfl, rfl, rfl, rfl, rfl, rfl, ?_, trivial⟩
                · unfold upd2
                  by_cases e : x = k + 1 ∧ y = l + 1
                  · rw [if_pos e, e.1, e.2]; exact hvv
                  · rw [if_neg e]; exact hK.done x y hx hy (by omega)
                · show V.int .i64 (IntKind.i64.wrap (l + 1)) = _
                  rw [wrapA1 l (by omega)]
              conv => whnf
              refine ⟨by rw [hwk1]; omega, by rw [hwk1]; omega, ?_⟩
              conv => whnf
              refine ⟨0, r + 1, _, _, hT.root, by rw [hwk1]; exact hy1, ?_⟩
              conv => whnf
              refine ⟨by omega, by omega, ?_⟩
              conv => whnf
              refine ⟨0, r + 1, _, _, hT.root, hx1, ?_⟩
              conv => whnf
              refine ⟨by rw [hwl1]; omega, by rw [hwl1]; omega, ?_⟩
              conv => whnf
              refine ⟨0, c + 1, _, _, hx2, by rw [hwl1]; exact numR_get _ (by omega), ?_⟩
              conv => whnf
              refine ⟨by rw [hwk1]; omega, by rw [hwk1]; omega, ?_⟩
              conv => whnf
              refine ⟨0, r + 1, _, _, hT.root, by rw [hwk1]; exact hy1, ?_⟩
              conv => whnf
              refine ⟨by omega, by omega, ?_⟩
              conv => whnf
              refine ⟨0, c + 1, _, _, hy2, numR_get _ (by omega), ?_⟩
              conv => whnf
              refine ⟨[], false, ?_⟩
              conv => whnf
              refine Full.mono (least_pure v (IntKind.i64.wrap (f k (l + 1) + 1)) (IntKind.i64.wrap (f (k + 1) l + 1))) ?_
              rintro o st' ⟨rfl, rr, rfl, rfl⟩
              conv => whnf
              refine And.intro (by (conv => whnf); exact ⟨by rw [hwk1]; omega, by rw [hwk1]; omega, rfl⟩) ?_
              conv => whnf
              refine And.intro (by (conv => whnf); exact ⟨0, r + 1, rootR (r + 1) bs (c + 1), [.dref xk' (c + 1) (c + 1)], hT.root, by rw [hwk1]; exact hy1, rfl⟩) ?_
              conv => whnf
              refine ⟨by rw [hwl1]; omega, by rw [hwl1]; omega, ?_⟩
              conv => whnf
              refine ⟨0, c + 1, _, _, putEnt xk' ((numR (c + 1) (f (k + 1))).set (l + 1) [.int .i64 (mn (mn (v : Int) (IntKind.i64.wrap (f k (l + 1) + 1))) (IntKind.i64.wrap (f (k + 1) l + 1)))]) es, hy2, by rw [hwl1]; exact numR_get _ (by omega), by rw [hwl1]; rfl, ?_⟩
              conv => whnf
              refine hend _ _ ⟨⟨_, _, _, _, _, _, _, _, rfl⟩, rfl, rfl, rfl, rfl, rfl, rfl, rfl, rfl, rfl, rfl, rfl, rfl, rfl, trivial⟩
      conv => whnf
      repeat' (first
        | (refine ⟨by rw [hwk]; omega, thR D, _, 3, rfl, (by rw [hwk]; exact htw), rfl, rfl, ?_⟩
           conv => whnf)
        | (refine ⟨by rw [hwl]; omega, thR E, _, 3, rfl, (by rw [hwl]; exact hti), rfl, rfl, ?_⟩
           conv => whnf)
        | (refine And.intro (by (conv => whnf); exact ⟨by rw [hwk]; omega, thR D, _, 3, rfl, (by rw [hwk]; exact htw), rfl, rfl, rfl⟩) ?_
           conv => whnf)
        | (refine And.intro (by (conv => whnf); exact ⟨by rw [hwl]; omega, thR E, _, 3, rfl, (by rw [hwl]; exact hti), rfl, rfl, rfl⟩) ?_
           conv => whnf)
        | (refine And.intro rfl ?_
           conv => whnf)
        | (refine And.intro ?_ ?_
           all_goals (conv => whnf)))
      all_goals first
        | exact key _ _ (.inl ⟨⟨rfl, rfl, rfl, rfl, rfl, rfl, rfl, rfl, rfl, rfl, rfl, rfl, rfl, rfl, rfl, rfl, trivial⟩, rfl⟩)
        | exact key _ _ (.inr ⟨⟨rfl, rfl, rfl, rfl, rfl, rfl, rfl, rfl, rfl, rfl, rfl, rfl, rfl, rfl, rfl, rfl, trivial⟩, rfl⟩)
    · rw [ltB_f (by omega)]
      conv => whnf
      refine ⟨n - 1, by omega, none, k + 1, es, f, by omega, rfl, hT, ⟨fun a b ha hb h => hK.done a b ha hb (by omega)⟩, rfl, rfl, rfl, rfl, rfl, rfl, rfl, rfl, rfl, ?_, trivial⟩
      show V.int .i64 (IntKind.i64.wrap (k + 1)) = _
      rw [wrapA1 k (by omega)]
  · rw [ltB_f (by omega)]
    conv => whnf
    obtain ⟨x, hx, hx1, hx2⟩ := hT.at (i := r) (by omega)
    refine ⟨by omega, by omega, ?_⟩
    conv => whnf
    refine ⟨0, r + 1, _, _, hT.root, hx1, ?_⟩
    conv => whnf
    refine ⟨by omega, by omega, ?_⟩
    conv => whnf
    refine ⟨0, c + 1, _, _, hx2, numR_get _ (by omega), ?_⟩
    conv => whnf
    have hfin := hK.done r c (by omega) (by omega) (by omega)
    refine ⟨[], false, ?_⟩
    conv => whnf
    exact ⟨es, by rw [← hfin]; rfl, rfl⟩
end Go.Cod

namespace Go.Cod
open Go Go.Proofs
set_option linter.all false
set_option maxRecDepth 10000
theorem unl_get {L M : List Th} {a b : Nat} {x y : Th} (h : L[a]? = some x) (h' : M[b]? = some y) : unl L M a b = unH x y := by
  unfold unl labAt unH
  rw [h, h']
  simp
/-- What stands in a table of costs: whole trees. -/
def treeD (D E : List Th) (a b : Nat) : Nat := dist (fstOf D) (fstOf E) (unl D E) (fstOf D a) (a + 1) (fstOf E b) (b + 1)
def cellD (D E : List Th) (l t x y : Nat) : Nat := dist (fstOf D) (fstOf E) (unl D E) l (l + x) t (t + y)
variable {D E : List Th} {l t : Nat}
theorem cellD_0 (x : Nat) : cellD D E l t x 0 = x := by unfold cellD; rw [dist_r (by omega)]; omega
theorem cellD_00 (y : Nat) : cellD D E l t 0 y = y := by unfold cellD; rw [dist_l (by omega)]; omega
theorem cellD_le (x y : Nat) : cellD D E l t x y ≤ x + y := by
  have := dist_le (p := fstOf D) (q := fstOf E) (u := unl D E) _ (l1 := l) (h1 := l + x) (l2 := t) (h2 := t + y) (Nat.le_refl _)
  unfold cellD; omega
theorem treeD_le (hD : Nest 0 D) (hE : Nest 0 E) {a b : Nat} (ha : a < D.length) (hb : b < E.length) : treeD D E a b ≤ D.length + E.length := by
  have := dist_le (p := fstOf D) (q := fstOf E) (u := unl D E) _ (l1 := fstOf D a) (h1 := a + 1) (l2 := fstOf E b) (h2 := b + 1) (Nat.le_refl _)
  have := hD.lamin.le a ha
  have := hE.lamin.le b hb
  unfold treeD; omega
/-- .. by the cost of the last trees as wholes; or, where these are all, of what is in them. -/
theorem cellD_tree (hD : Nest 0 D) (hE : Nest 0 E) {x y : Nat} {a b : Th} (ha : D[l + x]? = some a) (hb : E[t + y]? = some b) (h1 : l ≤ a.f) (h2 : t ≤ b.f) :
    cellD D E l t (x + 1) (y + 1) = min (min (cellD D E l t x (y + 1) + 1) (cellD D E l t (x + 1) y + 1)) (cellD D E l t (a.f - l) (b.f - t) + treeD D E (l + x) (t + y)) := by
  have la := (List.getElem?_eq_some_iff.1 ha).1
  have lb := (List.getElem?_eq_some_iff.1 hb).1
  have fa := fstOf_get ha
  have fb := fstOf_get hb
  have := dist_tree (u := unl D E) hD.lamin hE.lamin la lb (l1 := l) (l2 := t) (by omega) (by omega)
  unfold cellD treeD
  rw [← Nat.add_assoc, ← Nat.add_assoc, this, fa, fb, show l + (a.f - l) = a.f by omega, show t + (b.f - t) = b.f by omega]
theorem cellD_top (hD : Nest 0 D) (hE : Nest 0 E) {x y : Nat} {a b : Th} (ha : D[l + x]? = some a) (hb : E[t + y]? = some b) (h1 : a.f = l) (h2 : b.f = t) :
    cellD D E l t (x + 1) (y + 1) = min (min (cellD D E l t x (y + 1) + 1) (cellD D E l t (x + 1) y + 1)) (cellD D E l t x y + unH a b) := by
  have la := (List.getElem?_eq_some_iff.1 ha).1
  have lb := (List.getElem?_eq_some_iff.1 hb).1
  have fa := fstOf_get ha
  have fb := fstOf_get hb
  have := dist_step (p := fstOf D) (q := fstOf E) (u := unl D E) (l1 := l) (a := l + x) (l2 := t) (b := t + y) (by omega) (by omega) (by omega) (by omega)
  unfold cellD
  rw [← Nat.add_assoc, ← Nat.add_assoc, this, fa, fb, h1, h2, dist_l (l1 := l) (h1 := l) (Nat.le_refl _), unl_get ha hb]
  omega
/-- What is known of the table of whole trees, while i and j are at hand. -/
theorem diffWhole_full (D E : List Th) (i j : Nat) (g : Nat → Nat → Int) (hD : Nest 0 D) (hE : Nest 0 E) (lD : D.length ≤ 1000) (lE : E.length ≤ 1000) (hi : i < D.length) (hj : j < E.length)
    (hg : ∀ a b, a ≤ i → b ≤ j → (a < i ∨ b < j) → g a b = treeD D E a b) :
    Full Try.prog noY 26 [.sl (thR D), .sl (thR E), .int .i64 i, .int .i64 j, .sl (viewW D.length E.length g)] [poolO []] fun o st' => ∃ es, o = .ret (.int .i64 (treeD D E i j : Nat)) ∧ st' = [poolO es] := by
  have hdi := List.getElem?_eq_getElem hi
  have hdj := List.getElem?_eq_getElem hj
  have fi := fstOf_get hdi
  have fj := fstOf_get hdj
  have li := hD.lamin.le i hi
  have lj := hE.lamin.le j hj
  have ci := hD.lamin.closed hi
  have cj := hE.lamin.closed hj
  generalize D[i] = di at *
  generalize E[j] = dj at *
  have hfin : treeD D E i j = cellD D E di.f dj.f (i + 1 - di.f) (j + 1 - dj.f) := by
    unfold treeD cellD
    rw [fi, fj, show di.f + (i + 1 - di.f) = i + 1 by omega, show dj.f + (j + 1 - dj.f) = j + 1 by omega]
  rw [hfin]
  refine diffWhole_run D E i j di.f dj.f (i + 1 - di.f) (j + 1 - dj.f) di dj g (cellD D E di.f dj.f) lD lE hdi hdj rfl rfl (by omega) (by omega) (by omega) (by omega) cellD_0 cellD_00 (fun x y hx hy => by have := cellD_le (D := D) (E := E) (l := di.f) (t := dj.f) x y; omega)
    (fun x a hx ha => ?_) (fun y b hy hb => ?_) (fun x y a b hx hy ha hb h => ?_) (fun x y a b hx hy ha hb h1 h2 => cellD_top hD hE ha hb h1 h2)
  · have la := (List.getElem?_eq_some_iff.1 ha).1
    have := hD.lamin.le _ la
    have := ci (di.f + x) (by omega) (by omega)
    have := fstOf_get ha
    omega
  · have lb := (List.getElem?_eq_some_iff.1 hb).1
    have := hE.lamin.le _ lb
    have := cj (dj.f + y) (by omega) (by omega)
    have := fstOf_get hb
    omega
  · have la := (List.getElem?_eq_some_iff.1 ha).1
    have lb := (List.getElem?_eq_some_iff.1 hb).1
    have e1 := ci (di.f + x) (by omega) (by omega)
    have e2 := cj (dj.f + y) (by omega) (by omega)
    have f1 := fstOf_get ha
    have f2 := fstOf_get hb
    have hne : di.f + x < i ∨ dj.f + y < j := by
      rcases Nat.lt_or_ge (di.f + x) i with h' | h'
      · exact .inl h'
      · rcases Nat.lt_or_ge (dj.f + y) j with h'' | h''
        · exact .inr h''
        · exfalso
          have q1 : di.f + x = i := by omega
          have q2 : dj.f + y = j := by omega
          rw [q1] at f1; rw [q2] at f2
          omega
    refine ⟨treeD D E (di.f + x) (dj.f + y), hg _ _ (by omega) (by omega) hne, ?_, cellD_tree hD hE ha hb (by omega) (by omega)⟩
    have := treeD_le hD hE la lb
    omega
end Go.Cod

namespace Go.Cod
open Go Go.Proofs
set_option linter.all false
set_option maxRecDepth 10000

mutual
theorem ids_len : ∀ t : T, t.ids.length = nT t
  | .mk id k x ks => by simp only [T.ids, nT, List.length_cons, idsL_len ks]
theorem idsL_len : ∀ ts : List T, (T.idsL ts).length = nL ts
  | [] => rfl
  | t :: ts => by simp only [T.idsL, nL, List.length_append, ids_len t, idsL_len ts]
end
theorem okT_nT {t : T} (h : okT t = true) : nT t ≤ 20 := by
  unfold okT at h
  simp only [Bool.and_eq_true, decide_eq_true_eq] at h
  rw [← ids_len]; exact h.2
theorem numR_ok (m : Nat) (g : Nat → Int) : V.clean.cleanLL 0 (numR m g) = true ∧ (∀ e ∈ numR m g, ∀ x ∈ e, x.leaf = true) := by
  refine ⟨?_, fun e he x hx => ?_⟩
  · rw [cleanLL_iff]
    intro e he
    obtain ⟨j, _, rfl⟩ := List.mem_map.1 he
    rfl
  · obtain ⟨j, _, rfl⟩ := List.mem_map.1 he
    simp at hx; subst hx; rfl
theorem rootR_full {n m : Nat} {bs : List Nat} (h : bs.length = n) : rootR n bs m = bs.map fun x => [V.dref x m m] := by
  unfold rootR; rw [h]; simp
theorem Tab.view {es b n bs m f} (h : Tab es b n bs m f) (hn : bs.length = n) : View es (.dref b n n) (.sl (viewW n m f)) := by
  refine .dref (sz := 1) (rows := rootR n bs m) h.root (by rw [rootR_full hn, List.length_map, hn]) (by rw [viewW_len, rootR_full hn, List.length_map, hn]) ?_ ?_ (fun i r r' p q => ?_) (fun i r r' j x y p q u v => ?_)
  · rw [cleanLL_iff]
    intro e he
    obtain ⟨a, _, rfl⟩ := List.mem_map.1 he
    rfl
  · intro e he x hx
    obtain ⟨a, _, rfl⟩ := List.mem_map.1 he
    simp at hx; subst hx; rfl
  · have hi : i < n := by
      have := (List.getElem?_eq_some_iff.1 q).1
      rw [viewW_len] at this; exact this
    rw [viewW_get f hi] at q
    rw [rootR_full hn, List.getElem?_map, List.getElem?_eq_getElem (by omega)] at p
    cases p; cases q; rfl
  · have hi : i < n := by
      have := (List.getElem?_eq_some_iff.1 q).1
      rw [viewW_len] at this; exact this
    rw [viewW_get f hi] at q
    have hb := List.getElem?_eq_getElem (l := bs) (i := i) (by omega)
    rw [rootR_full hn, List.getElem?_map, hb] at p
    cases p; cases q
    have hj : j = 0 := by
      have := (List.getElem?_eq_some_iff.1 u).1
      simp at this; exact this
    subst hj
    simp at u v
    subst u; subst v
    refine .dref (sz := 1) (rows := numR m (f i)) (h.row i _ hb) (numR_len m (f i)).symm rfl (numR_ok m (f i)).1 (numR_ok m (f i)).2 (fun i r r' p q => ?_) (fun i r r' j x y p q u v => ?_)
    · rw [p] at q; cases q; rfl
    · rw [p] at q; cases q; rw [u] at v; cases v; exact .same _
theorem diffWhole_pure (D E : List Th) (i j : Nat) (g : Nat → Nat → Int) (hD : Nest 0 D) (hE : Nest 0 E) (lD : D.length ≤ 1000) (lE : E.length ≤ 1000) (hi : i < D.length) (hj : j < E.length)
    (hg : ∀ a b, a ≤ i → b ≤ j → (a < i ∨ b < j) → g a b = treeD D E a b) :
    Pure Try.prog 26 [.sl (thR D), .sl (thR E), .int .i64 i, .int .i64 j, .sl (viewW D.length E.length g)] (· = .int .i64 (treeD D E i j : Nat)) := by
  refine Full.freeze (Full.start (st0 := []) (diffWhole_full D E i j g hD hE lD lE hi hj hg)) ?_
  rintro o st' ⟨es, rfl, rfl⟩
  exact ⟨_, _, _, rfl, rfl, .same _, rfl, rfl⟩
theorem viewL5 {es : List (List V)} {x1 x2 x3 x4 x5 y1 y2 y3 y4 y5 : V} (h1 : View es x1 y1) (h2 : View es x2 y2) (h3 : View es x3 y3) (h4 : View es x4 y4) (h5 : View es x5 y5) : ViewL es [x1, x2, x3, x4, x5] [y1, y2, y3, y4, y5] := ⟨rfl, fun i a b p q => by
  match i, p, q with
  | 0, p, q => simp at p q; subst p; subst q; exact h1
  | 1, p, q => simp at p q; subst p; subst q; exact h2
  | 2, p, q => simp at p q; subst p; subst q; exact h3
  | 3, p, q => simp at p q; subst p; subst q; exact h4
  | 4, p, q => simp at p q; subst p; subst q; exact h5
  | i + 5, p, q => simp at p⟩
/-- What DiffCost answers. -/
def diffCost (a b : T) : Int := if okT a && okT b then (costT a b : Nat) else -1
theorem postT_last (t : T) : ∃ e, (postT 0 t)[nT t - 1]? = some e ∧ e.f = 0 := by
  obtain ⟨id, k, x, ks⟩ := t
  refine ⟨⟨k, x, 0⟩, ?_, rfl⟩
  simp only [postT, nT, Nat.add_sub_cancel]
  rw [List.getElem?_append_right (by rw [postL_len]; exact Nat.le_refl _), postL_len]
  simp
theorem costT_tree (a b : T) : costT a b = treeD (postT 0 a) (postT 0 b) (nT a - 1) (nT b - 1) := by
  obtain ⟨e, h1, h2⟩ := postT_last a
  obtain ⟨e', h1', h2'⟩ := postT_last b
  have ha := nT_pos a
  have hb := nT_pos b
  rw [costT_eq]
  unfold treeD
  rw [fstOf_get h1, fstOf_get h1', h2, h2', show nT a - 1 + 1 = nT a by omega, show nT b - 1 + 1 = nT b by omega]
set_option maxHeartbeats 8000000 in
theorem implDiffCost_full (a b : T) (ha : a.Small) (hb : b.Small) : Full Try.prog noY 9 [.agg a.cells, .agg b.cells] [poolO []] fun o st' => ∃ es, o = .ret (.int .i64 (diffCost a b)) ∧ st' = [poolO es] := by
  have h1 := implTreeOk a ha
  have h2 := implTreeOk b hb
  have hd : diffCost a b = if okT a && okT b then ((costT a b : Nat) : Int) else -1 := rfl
  have hla := @okT_nT a
  have hlb := @okT_nT b
  have hta := fun h => diffThings_pure a ha h
  have htb := fun h => diffThings_pure b hb h
  have hDn := postT_nest 0 a
  have hEn := postT_nest 0 b
  have hDl := postT_len 0 a
  have hEl := postT_len 0 b
  have hct := costT_tree a b
  have hpa := nT_pos a
  have hpb := nT_pos b
  generalize diffCost a b = R at *
  generalize okT a = ra at *
  generalize okT b = rb at *
  generalize postT 0 a = D at *
  generalize postT 0 b = E at *
  generalize nT a = n at *
  generalize nT b = m at *
  subst hDl; subst hEl
  rw [hct] at hd
  clear hct
  obtain ⟨ai, ak, ax, aks⟩ := a
  obtain ⟨bi, bk, bx, bks⟩ := b
  refine full_of_draw good Try.func9 rfl (by kernel_rfl) (by decide) fun X hX => ?_
  conv => whnf
  refine .inl (h1.mono ?_)
  rintro r rfl
  cases ra
  · conv => whnf
    refine ⟨[], false, ?_⟩
    conv => whnf
    exact ⟨[], by rw [hd]; rfl, rfl⟩
  conv => whnf
  refine .inl (h2.mono ?_)
  rintro r rfl
  cases rb
  · conv => whnf
    refine ⟨[], false, ?_⟩
    conv => whnf
    exact ⟨[], by rw [hd]; rfl, rfl⟩
  have hla := hla rfl
  have hlb := hlb rfl
  have hta := hta (by omega)
  have htb := htb (by omega)
  simp only [Bool.and_self, if_true] at hd
  have hnl := thR_len D
  have hml := thR_len E
  have hdt := diffTable_new D.length E.length (by omega) (by omega)
  conv => whnf
  refine draw_go hX ?_
  conv => whnf
  refine ⟨_, .inr ⟨[], [.nils, .agg (T.mk ai ak ax aks).cells], fun e he => (by cases he), viewL2 (.same _) (.same _), rfl, hta.mono fun r hr => ⟨by simp, hr⟩⟩, ?_⟩
  conv => whnf
  refine ⟨_, .inr ⟨[], [.nils, .agg (T.mk bi bk bx bks).cells], fun e he => (by cases he), viewL2 (.same _) (.same _), rfl, htb.mono fun r hr => ⟨by simp, hr⟩⟩, ?_⟩
  conv => whnf
  rw [hnl, hml]
  refine .inr (.inl ⟨[0], false, ?_⟩)
  conv => whnf
  refine hdt.mono ?_
  rintro o st' ⟨t, bs, es, rfl, rfl, hT, hbl⟩
  clear hdt
  conv => whnf
  refine loop_drop (fun k fr st => ∃ (i : Nat) (es : List (List V)) (g : Nat → Nat → Int), k + i = D.length ∧ st = [poolO es, ⟨[(T.mk ai ak ax aks).cells], 4, true, true, true, .cell⟩, ⟨[(T.mk bi bk bx bks).cells], 4, true, true, true, .cell⟩] ∧ Tab es t D.length bs E.length g ∧
      (∀ a b, a < D.length → b < E.length → a < i → g a b = treeD D E a b) ∧
      Holds fr [(5, .sl (thR D)), (6, .sl (thR E)), (7, .dref t D.length D.length), (28, .int .i64 D.length), (29, .int .i64 i)]) D.length none ?_ ?_
  · exact ⟨0, es, _, rfl, rfl, hT, (fun a b _ _ h => absurd h (Nat.not_lt_zero _)), rfl, rfl, rfl, by rw [← hnl]; rfl, rfl, trivial⟩
  clear hT es
  rintro k fr st ⟨i, es, g, hk, rfl, hT, hG, hh⟩
  obtain ⟨fr, rfl⟩ := hh.split
  clear hh
  conv => whnf
  by_cases hlt : i < D.length
  · rw [ltB_t (by omega)]
    conv => whnf
    refine loop_drop (fun k fr st => ∃ (j : Nat) (es : List (List V)) (g : Nat → Nat → Int), k + j = E.length ∧ st = [poolO es, ⟨[(T.mk ai ak ax aks).cells], 4, true, true, true, .cell⟩, ⟨[(T.mk bi bk bx bks).cells], 4, true, true, true, .cell⟩] ∧ Tab es t D.length bs E.length g ∧
        (∀ a b, a < D.length → b < E.length → (a < i ∨ (a = i ∧ b < j)) → g a b = treeD D E a b) ∧
        Holds fr [(5, .sl (thR D)), (6, .sl (thR E)), (7, .dref t D.length D.length), (8, .int .i64 i), (28, .int .i64 D.length), (29, .int .i64 i), (33, .int .i64 E.length), (34, .int .i64 j)]) E.length none ?_ ?_
    · exact ⟨0, es, _, rfl, rfl, hT, (fun a b h1 h2 h => hG a b h1 h2 (by omega)), rfl, rfl, rfl, rfl, rfl, rfl, by rw [← hml]; rfl, rfl, trivial⟩
    clear hT hG es g
    rintro k2 fr st ⟨j, es, g, hk2, rfl, hT, hG, hh⟩
    obtain ⟨fr, rfl⟩ := hh.split
    clear hh
    conv => whnf
    by_cases hltj : j < E.length
    · rw [ltB_t (by omega)]
      conv => whnf
      have hw := diffWhole_pure D E i j g hDn hEn (by omega) (by omega) hlt hltj (fun a b h1 h2 h => hG a b (by omega) (by omega) (by omega))
      have hv := hT.view hbl
      obtain ⟨x, hx, hx1, hx2⟩ := hT.at (i := i) (by omega)
      refine draw_go hX ?_
      conv => whnf
      refine ⟨by omega, by omega, ?_⟩
      conv => whnf
      refine ⟨0, D.length, _, _, hT.root, hx1, ?_⟩
      conv => whnf
      refine ⟨_, .inr ⟨es, [.sl (thR D), .sl (thR E), .int .i64 i, .int .i64 j, .sl (viewW D.length E.length g)], fun e he => ⟨0, he⟩, viewL5 (.same _) (.same _) (.same _) (.same _) hv, rfl, hw.mono fun r hr => ⟨by rw [hr]; rfl, hr⟩⟩, ?_⟩
      conv => whnf
      refine ⟨by omega, by omega, ?_⟩
      conv => whnf
      refine ⟨0, E.length, _, _, _, hx2, numR_get _ hltj, rfl, ?_⟩
      conv => whnf
      refine ⟨k2 - 1, by omega, none, j + 1, _, _, by omega, rfl, hT.put hx j (treeD D E i j : Nat), fun a b h1 h2 h => ?_, rfl, rfl, rfl, rfl, rfl, rfl, rfl, ?_, trivial⟩
      · unfold upd2
        by_cases e : a = i ∧ b = j
        · rw [if_pos e, e.1, e.2]
        · rw [if_neg e]; exact hG a b h1 h2 (by omega)
      · show V.int .i64 (IntKind.i64.wrap (j + 1)) = _
        rw [wrapA1 j (by omega)]
    · rw [ltB_f (by omega)]
      conv => whnf
      refine ⟨k - 1, by omega, none, i + 1, es, g, by omega, rfl, hT, fun a b h1 h2 h => hG a b h1 h2 (by omega), rfl, rfl, rfl, rfl, ?_, trivial⟩
      show V.int .i64 (IntKind.i64.wrap (i + 1)) = _
      rw [wrapA1 i (by omega)]
  · rw [ltB_f (by omega)]
    conv => whnf
    obtain ⟨x, hx, hx1, hx2⟩ := hT.at (i := D.length - 1) (by omega)
    have w1 := wrapS D.length 1 (by omega) (by omega)
    have w2 := wrapS E.length 1 (by omega) (by omega)
    rw [hnl]
    refine ⟨by show 0 ≤ IntKind.i64.wrap ((D.length : Int) - (1 : Nat)); rw [w1]; omega, by show (IntKind.i64.wrap ((D.length : Int) - (1 : Nat))).toNat < _; rw [w1]; omega, ?_⟩
    conv => whnf
    refine ⟨0, D.length, _, _, hT.root, by show _[(IntKind.i64.wrap ((D.length : Int) - (1 : Nat))).toNat]? = _; rw [w1]; exact hx1, ?_⟩
    conv => whnf
    rw [hml]
    refine ⟨by show 0 ≤ IntKind.i64.wrap ((E.length : Int) - (1 : Nat)); rw [w2]; omega, by show (IntKind.i64.wrap ((E.length : Int) - (1 : Nat))).toNat < _; rw [w2]; omega, ?_⟩
    conv => whnf
    refine ⟨0, E.length, _, _, hx2, by show _[(IntKind.i64.wrap ((E.length : Int) - (1 : Nat))).toNat]? = _; rw [w2]; exact numR_get _ (by omega), ?_⟩
    conv => whnf
    have hfin := hG (D.length - 1) (E.length - 1) (by omega) (by omega) (by omega)
    refine ⟨[], false, ?_⟩
    conv => whnf
    exact ⟨es, by rw [hd, ← hfin]; rfl, rfl⟩
theorem implDiffCost_pure (a b : T) (ha : a.Small) (hb : b.Small) : Pure Try.prog 9 [.agg a.cells, .agg b.cells] (· = .int .i64 (diffCost a b)) := by
  refine Full.freeze (Full.start (st0 := []) (implDiffCost_full a b ha hb)) ?_
  rintro o st' ⟨es, rfl, rfl⟩
  exact ⟨_, _, _, rfl, rfl, .same _, rfl, rfl⟩
end Go.Cod

namespace Go.Cod
open Go Go.Proofs
set_option linter.all false
set_option maxRecDepth 10000

/-! The spec's list of things. -/
def labR (L : List Th) : List (List V) := L.map fun h => [V.str (h.k ++ 34 :: h.t)]
def firR (L : List Th) : List (List V) := L.map fun h => [V.int .i64 h.f]
theorem labR_len (L : List Th) : (labR L).length = L.length := by simp [labR]
theorem firR_len (L : List Th) : (firR L).length = L.length := by simp [firR]
theorem labR_app (L M : List Th) : labR (L ++ M) = labR L ++ labR M := by simp [labR]
theorem firR_app (L M : List Th) : firR (L ++ M) = firR L ++ firR M := by simp [firR]
theorem labR_get {L : List Th} {i : Nat} {e : Th} (h : L[i]? = some e) : (labR L)[i]? = some [.str (e.k ++ 34 :: e.t)] := by simp [labR, h]
theorem firR_get {L : List Th} {i : Nat} {e : Th} (h : L[i]? = some e) : (firR L)[i]? = some [.int .i64 e.f] := by simp [firR, h]
def pboxO (a b : V) : O := ⟨[[a, b]], 2, true, true, true, .cell⟩
def AddN (t : T) (o : Out) (st' : St) : Prop := o = .ret (.int .i64 0) ∧ st' = [pboxO (.own 1) (.own 2), ⟨labR (postT 0 t), 1, true, true, false, .cell⟩, ⟨firR (postT 0 t), 1, true, true, false, .cell⟩]
def AddO (L : List Th) (t : T) (o : Out) (st' : St) : Prop := o = .ret (.int .i64 L.length) ∧ st' = [pboxO (.own 3) (.own 4), ⟨labR L, 1, false, true, false, .cell⟩, ⟨firR L, 1, false, true, false, .cell⟩, ⟨labR (L ++ postT L.length t), 1, true, true, false, .cell⟩, ⟨firR (L ++ postT L.length t), 1, true, true, false, .cell⟩]
set_option maxHeartbeats 800000 in
theorem add_own1 (id : Int) (kind text : List UInt8) (kids : List T) (L : List Th) (hs : L.length + nL kids + 1 ≤ 1048576) (h2 : kind.length ≤ 1048576) (h3 : text.length ≤ 1048576)
    (hT : ∀ t' ∈ kids, ∀ L : List Th, L.length + nT t' ≤ 1048576 → Full Try.prog noY 27 [.ptr 0 0 0, .agg t'.cells] [pboxO (.own 1) (.own 2), ⟨labR L, 1, true, true, false, .cell⟩, ⟨firR L, 1, true, true, false, .cell⟩] (AddO L t')) :
    Full Try.prog noY 27 [.ptr 0 0 0, .agg (T.mk id kind text kids).cells] [pboxO (.own 1) (.own 2), ⟨labR L, 1, true, true, false, .cell⟩, ⟨firR L, 1, true, true, false, .cell⟩] (AddO L (.mk id kind text kids)) := by
  have hlr := Go.Cod.rows_len kids
  have hkl := len_nL kids
  have hLl := labR_len L
  have hres : L ++ postT L.length (.mk id kind text kids) = (L ++ postL L.length kids) ++ [⟨kind, text, L.length⟩] := by simp [postT]
  unfold AddO
  rw [hres]
  clear hres
  refine full_of_draw good Try.func27 rfl (by kernel_rfl) (by decide) fun X hX => ?_
  conv => whnf
  refine loop_drop (fun n fr st => ∃ i : Nat, n + i = kids.length ∧
      ((i = 0 ∧ Holds fr [(0, .ptr 0 0 0), (3, .ptr 3 0 0), (5, .int .i64 L.length), (6, .int .i64 i)] ∧ st = [pboxO (.own 1) (.own 2), ⟨labR L, 1, true, true, false, .cell⟩, ⟨firR L, 1, true, true, false, .cell⟩, ⟨[(T.mk id kind text kids).cells], 4, true, true, true, .cell⟩]) ∨
       (0 < i ∧ Holds fr [(0, .ptr 0 0 0), (3, .ptr 3 0 0), (5, .int .i64 L.length), (6, .int .i64 i)] ∧ st = [pboxO (.own 4) (.own 5), ⟨labR L, 1, false, true, false, .cell⟩, ⟨firR L, 1, false, true, false, .cell⟩, ⟨[(T.mk id kind text kids).cells], 4, true, true, true, .cell⟩, ⟨labR (L ++ postL L.length (kids.take i)), 1, true, true, false, .cell⟩, ⟨firR (L ++ postL L.length (kids.take i)), 1, true, true, false, .cell⟩]))) kids.length none ?_ ?_
  · exact ⟨0, rfl, .inl ⟨rfl, ⟨rfl, rfl, by rw [← hLl]; rfl, rfl, trivial⟩, rfl⟩⟩
  rintro n fr st ⟨i, hi, ⟨rfl, hh, rfl⟩ | ⟨hi0, hh, rfl⟩⟩
  · obtain ⟨fr, rfl⟩ := hh.split
    clear hh
    conv => whnf
    by_cases hlt : 0 < kids.length
    · rw [hlr, ltB_t (by omega)]
      conv => whnf
      have hg := Go.Cod.rows_get kids 0 hlt
      have hc := hT kids[0] (List.getElem_mem _) L
      have hn := nL_take kids 0 hlt
      have hle := nL_take_le kids 1
      have hp := postL_take L.length kids 0 hlt
      simp only [List.take_zero, nL, Nat.zero_add, postL, List.nil_append, Nat.add_zero] at hn hp
      generalize kids[0] = t at hc hg hn hp
      obtain ⟨id', kind', text', kids'⟩ := t
      refine ⟨by omega, T.rows kids, _, 4, rfl, hg, rfl, rfl, ?_⟩
      conv => whnf
      refine ⟨[0, 1, 2], false, ?_⟩
      conv => whnf
      refine (hc (by omega)).mono ?_
      rintro o st' ⟨rfl, rfl⟩
      rw [← hp]
      conv => whnf
      refine ⟨n - 1, by omega, some [0, 1, 2, 3, 4, 5], ?_⟩
      conv => whnf
      exact ⟨1, by omega, .inr ⟨by omega, ⟨rfl, rfl, rfl, rfl, trivial⟩, rfl⟩⟩
    · rw [hlr, ltB_f (by omega)]
      obtain rfl : kids = [] := List.eq_nil_of_length_eq_zero (by omega)
      conv => whnf
      refine draw_go hX ?_
      conv => whnf
      refine ⟨by show kind.length + 1 ≤ _; omega, ?_⟩
      conv => whnf
      refine ⟨by
        show (kind ++ [34]).length + text.length ≤ _
        rw [List.length_append, List.length_singleton]; omega, ?_⟩
      conv => whnf
      refine ⟨fun m hm => by rw [List.mem_singleton.1 hm]; rfl, ?_⟩
      conv => whnf
      refine ⟨by show ((labR L).length + 1) * 16 ≤ _; rw [labR_len]; omega, ?_⟩
      conv => whnf
      refine ⟨fun m hm => by rw [List.mem_singleton.1 hm]; rfl, ?_⟩
      conv => whnf
      refine ⟨by show ((firR L).length + 1) * 8 ≤ _; rw [firR_len]; omega, ?_⟩
      conv => whnf
      refine ⟨[5, 7], false, ?_⟩
      conv => whnf
      refine ⟨rfl, ?_⟩
      rw [show postL L.length [] = [] from rfl, List.append_nil, labR_app, firR_app]
      show [_, _, _, _, _] = [_, _, _, _, _]
      rw [show labR [⟨kind, text, L.length⟩] = [[V.str ((kind ++ [34]) ++ text)]] by simp [labR]]
      rfl
  · obtain ⟨fr, rfl⟩ := hh.split
    clear hh
    conv => whnf
    by_cases hlt : i < kids.length
    · rw [hlr, ltB_t (by omega)]
      conv => whnf
      have hg := Go.Cod.rows_get kids i hlt
      have hc := hT kids[i] (List.getElem_mem _) (L ++ postL L.length (kids.take i))
      have hn := nL_take kids i hlt
      have hle := nL_take_le kids (i + 1)
      have hp := postL_take L.length kids i hlt
      have hll : (L ++ postL L.length (kids.take i)).length = L.length + nL (kids.take i) := by simp [postL_len]
      rw [hll] at hc
      unfold AddO at hc
      rw [hll] at hc
      simp only [List.append_assoc, ← hp] at hc
      generalize kids[i] = t at hc hg hn
      obtain ⟨id', kind', text', kids'⟩ := t
      generalize L ++ postL L.length (kids.take i) = M at *
      refine ⟨by omega, T.rows kids, _, 4, rfl, hg, rfl, rfl, ?_⟩
      conv => whnf
      refine ⟨[0, 4, 5], false, ?_⟩
      conv => whnf
      refine (hc (by omega)).mono ?_
      rintro o st' ⟨rfl, rfl⟩
      conv => whnf
      refine ⟨n - 1, by omega, some [0, 1, 2, 3, 6, 7], ?_⟩
      conv => whnf
      refine ⟨i + 1, by omega, .inr ⟨by omega, ⟨rfl, rfl, rfl, ?_, trivial⟩, rfl⟩⟩
      show V.int .i64 (IntKind.i64.wrap (i + 1)) = _
      rw [wrap64 (by omega) (by omega)]; simp
    · rw [hlr, ltB_f (by omega)]
      rw [List.take_of_length_le (by omega)]
      have hll : (L ++ postL L.length kids).length = L.length + nL kids := by simp [postL_len]
      generalize hM : L ++ postL L.length kids = M at *
      conv => whnf
      refine draw_go hX ?_
      conv => whnf
      refine ⟨by show kind.length + 1 ≤ _; omega, ?_⟩
      conv => whnf
      refine ⟨by
        show (kind ++ [34]).length + text.length ≤ _
        rw [List.length_append, List.length_singleton]; omega, ?_⟩
      conv => whnf
      refine ⟨fun m hm => by rw [List.mem_singleton.1 hm]; rfl, ?_⟩
      conv => whnf
      refine ⟨by show ((labR M).length + 1) * 16 ≤ _; rw [labR_len]; omega, ?_⟩
      conv => whnf
      refine ⟨fun m hm => by rw [List.mem_singleton.1 hm]; rfl, ?_⟩
      conv => whnf
      refine ⟨by show ((firR M).length + 1) * 8 ≤ _; rw [firR_len]; omega, ?_⟩
      conv => whnf
      refine ⟨[7, 9], false, ?_⟩
      conv => whnf
      refine ⟨rfl, ?_⟩
      rw [labR_app, firR_app]
      show [_, _, _, _, _] = [_, _, _, _, _]
      rw [show labR [⟨kind, text, L.length⟩] = [[V.str ((kind ++ [34]) ++ text)]] by simp [labR]]
      rfl
end Go.Cod

namespace Go.Cod
open Go Go.Proofs
set_option linter.all false
set_option maxRecDepth 10000

set_option maxHeartbeats 800000 in
theorem add_nil1 (id : Int) (kind text : List UInt8) (kids : List T) (hs : nL kids + 1 ≤ 1048576) (h2 : kind.length ≤ 1048576) (h3 : text.length ≤ 1048576)
    (hT0 : ∀ t' ∈ kids, nT t' ≤ 1048576 → Full Try.prog noY 27 [.ptr 0 0 0, .agg t'.cells] [pboxO .nils .nils] (AddN t'))
    (hT : ∀ t' ∈ kids, ∀ L : List Th, L.length + nT t' ≤ 1048576 → Full Try.prog noY 27 [.ptr 0 0 0, .agg t'.cells] [pboxO (.own 1) (.own 2), ⟨labR L, 1, true, true, false, .cell⟩, ⟨firR L, 1, true, true, false, .cell⟩] (AddO L t')) :
    Full Try.prog noY 27 [.ptr 0 0 0, .agg (T.mk id kind text kids).cells] [pboxO .nils .nils] (AddN (.mk id kind text kids)) := by
  have hlr := Go.Cod.rows_len kids
  have hkl := len_nL kids
  have hres : postT 0 (.mk id kind text kids) = postL 0 kids ++ [⟨kind, text, 0⟩] := by simp [postT]
  unfold AddN
  rw [hres]
  clear hres
  refine full_of_draw good Try.func27 rfl (by kernel_rfl) (by decide) fun X hX => ?_
  conv => whnf
  refine loop_drop (fun n fr st => ∃ i : Nat, n + i = kids.length ∧
      ((i = 0 ∧ Holds fr [(0, .ptr 0 0 0), (3, .ptr 1 0 0), (5, .int .i64 0), (6, .int .i64 i)] ∧ st = [pboxO .nils .nils, ⟨[(T.mk id kind text kids).cells], 4, true, true, true, .cell⟩]) ∨
       (0 < i ∧ Holds fr [(0, .ptr 0 0 0), (3, .ptr 1 0 0), (5, .int .i64 0), (6, .int .i64 i)] ∧ st = [pboxO (.own 2) (.own 3), ⟨[(T.mk id kind text kids).cells], 4, true, true, true, .cell⟩, ⟨labR (postL 0 (kids.take i)), 1, true, true, false, .cell⟩, ⟨firR (postL 0 (kids.take i)), 1, true, true, false, .cell⟩]))) kids.length none ?_ ?_
  · exact ⟨0, rfl, .inl ⟨rfl, ⟨rfl, rfl, rfl, rfl, trivial⟩, rfl⟩⟩
  rintro n fr st ⟨i, hi, ⟨rfl, hh, rfl⟩ | ⟨hi0, hh, rfl⟩⟩
  · obtain ⟨fr, rfl⟩ := hh.split
    clear hh
    conv => whnf
    by_cases hlt : 0 < kids.length
    · rw [hlr, ltB_t (by omega)]
      conv => whnf
      have hg := Go.Cod.rows_get kids 0 hlt
      have hc := hT0 kids[0] (List.getElem_mem _)
      have hn := nL_take kids 0 hlt
      have hle := nL_take_le kids 1
      have hp := postL_take 0 kids 0 hlt
      simp only [List.take_zero, nL, Nat.zero_add, postL, List.nil_append, Nat.add_zero] at hn hp
      unfold AddN at hc
      rw [← hp] at hc
      generalize kids[0] = t at hc hg hn
      obtain ⟨id', kind', text', kids'⟩ := t
      refine ⟨by omega, T.rows kids, _, 4, rfl, hg, rfl, rfl, ?_⟩
      conv => whnf
      refine ⟨[0], true, ?_⟩
      conv => whnf
      refine (hc (by omega)).mono ?_
      rintro o st' ⟨rfl, rfl⟩
      conv => whnf
      refine ⟨n - 1, by omega, some [0, 1, 2, 3], ?_⟩
      conv => whnf
      exact ⟨1, by omega, .inr ⟨by omega, ⟨rfl, rfl, rfl, rfl, trivial⟩, rfl⟩⟩
    · rw [hlr, ltB_f (by omega)]
      obtain rfl : kids = [] := List.eq_nil_of_length_eq_zero (by omega)
      conv => whnf
      refine draw_go hX ?_
      conv => whnf
      refine ⟨by show kind.length + 1 ≤ _; omega, ?_⟩
      conv => whnf
      refine ⟨by
        show (kind ++ [34]).length + text.length ≤ _
        rw [List.length_append, List.length_singleton]; omega, ?_⟩
      conv => whnf
      refine ⟨fun m hm => by rw [List.mem_singleton.1 hm]; rfl, ?_⟩
      conv => whnf
      refine ⟨by show 1 * 16 ≤ _; omega, .inr ⟨(by intro e; cases e), ?_⟩⟩
      conv => whnf
      refine ⟨fun m hm => by rw [List.mem_singleton.1 hm]; rfl, ?_⟩
      conv => whnf
      refine ⟨by show 1 * 8 ≤ _; omega, .inr ⟨(by intro e; cases e), ?_⟩⟩
      conv => whnf
      refine ⟨[3, 5], false, ?_⟩
      conv => whnf
      refine ⟨rfl, ?_⟩
      show [_, _, _] = [_, _, _]
      rw [show labR (postL 0 [] ++ [⟨kind, text, 0⟩]) = [[V.str ((kind ++ [34]) ++ text)]] by simp [labR, postL]]
      rfl
  · obtain ⟨fr, rfl⟩ := hh.split
    clear hh
    conv => whnf
    by_cases hlt : i < kids.length
    · rw [hlr, ltB_t (by omega)]
      conv => whnf
      have hg := Go.Cod.rows_get kids i hlt
      have hc := hT kids[i] (List.getElem_mem _) (postL 0 (kids.take i))
      have hn := nL_take kids i hlt
      have hle := nL_take_le kids (i + 1)
      have hp := postL_take 0 kids i hlt
      unfold AddO at hc
      rw [postL_len] at hc
      rw [Nat.zero_add] at hp
      rw [← hp] at hc
      generalize kids[i] = t at hc hg hn
      obtain ⟨id', kind', text', kids'⟩ := t
      generalize postL 0 (kids.take i) = M at *
      refine ⟨by omega, T.rows kids, _, 4, rfl, hg, rfl, rfl, ?_⟩
      conv => whnf
      refine ⟨[0, 2, 3], false, ?_⟩
      conv => whnf
      refine (hc (by omega)).mono ?_
      rintro o st' ⟨rfl, rfl⟩
      conv => whnf
      refine ⟨n - 1, by omega, some [0, 1, 4, 5], ?_⟩
      conv => whnf
      refine ⟨i + 1, by omega, .inr ⟨by omega, ⟨rfl, rfl, rfl, ?_, trivial⟩, rfl⟩⟩
      show V.int .i64 (IntKind.i64.wrap (i + 1)) = _
      rw [wrap64 (by omega) (by omega)]; simp
    · rw [hlr, ltB_f (by omega)]
      rw [List.take_of_length_le (by omega)]
      have hll := postL_len 0 kids
      generalize hM : postL 0 kids = M at *
      conv => whnf
      refine draw_go hX ?_
      conv => whnf
      refine ⟨by show kind.length + 1 ≤ _; omega, ?_⟩
      conv => whnf
      refine ⟨by
        show (kind ++ [34]).length + text.length ≤ _
        rw [List.length_append, List.length_singleton]; omega, ?_⟩
      conv => whnf
      refine ⟨fun m hm => by rw [List.mem_singleton.1 hm]; rfl, ?_⟩
      conv => whnf
      refine ⟨by show ((labR M).length + 1) * 16 ≤ _; rw [labR_len]; omega, ?_⟩
      conv => whnf
      refine ⟨fun m hm => by rw [List.mem_singleton.1 hm]; rfl, ?_⟩
      conv => whnf
      refine ⟨by show ((firR M).length + 1) * 8 ≤ _; rw [firR_len]; omega, ?_⟩
      conv => whnf
      refine ⟨[5, 7], false, ?_⟩
      conv => whnf
      refine ⟨rfl, ?_⟩
      rw [labR_app, firR_app]
      show [_, _, _] = [_, _, _]
      rw [show labR [⟨kind, text, 0⟩] = [[V.str ((kind ++ [34]) ++ text)]] by simp [labR]]
      rfl
theorem add_own (t : T) (ht : t.Small) : ∀ L : List Th, L.length + nT t ≤ 1048576 → Full Try.prog noY 27 [.ptr 0 0 0, .agg t.cells] [pboxO (.own 1) (.own 2), ⟨labR L, 1, true, true, false, .cell⟩, ⟨firR L, 1, true, true, false, .cell⟩] (AddO L t) := by
  induction ht with
  | @mk id kind text kids g1 g2 g3 g4 g5 ih =>
    intro L hL
    simp only [nT] at hL
    exact add_own1 id kind text kids L (by omega) g2 g3 ih
theorem add_nil (t : T) (ht : t.Small) (hn : nT t ≤ 1048576) : Full Try.prog noY 27 [.ptr 0 0 0, .agg t.cells] [pboxO .nils .nils] (AddN t) := by
  induction ht with
  | @mk id kind text kids g1 g2 g3 g4 g5 ih =>
    simp only [nT] at hn
    exact add_nil1 id kind text kids hn g2 g3 (fun t' h' h => ih t' h' h) (fun t' h' => add_own t' (g5 t' h'))
end Go.Cod

