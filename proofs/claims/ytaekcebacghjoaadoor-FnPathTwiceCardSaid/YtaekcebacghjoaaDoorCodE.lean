/- Own texts. -/
import Derived.Test.YtaekcebacghjoaaDoorChecked
import Derived.Test.YtaekcebacghjoaaDoorRows
import Derived.WalkKit
import Derived.ProofKit
import Derived.OpenShut
import Derived.JoinedOf
import Derived.Handed
import Derived.Test.YtaekcebacghjoaaDoorCodD
namespace Go.Cod
open Go Go.Proofs
instance lam0 : Lam := ⟨fun _ => none⟩
theorem laid0 {Pr : Nat → Nat → Prop} {w : World} : Laid Pr w := fun g cs h => by cases h

def tauL : List (Nat × TI) := [
  (1, ⟨.other, 1, 8, .raw .nilFunc, [], []⟩),
  (2, ⟨.int .i64, 1, 8, .int .i64 0, [], []⟩),
  (3, ⟨.int .i64, 1, 8, .int .i64 0, [], []⟩),
  (4, ⟨.bool, 1, 1, .bool false, [], []⟩),
  (5, ⟨.int .u8, 1, 1, .int .u8 0, [], []⟩),
  (6, ⟨.int .u8, 1, 1, .int .u8 0, [], []⟩),
  (7, ⟨.agg, 4, 24, .agg [.int .i64 0, .int .i64 0, .bool false, .int .u8 0], [(0, 1, false), (1, 1, false), (2, 1, false), (3, 1, false)], []⟩),
  (8, ⟨.agg, 4, 24, .agg [.int .i64 0, .int .i64 0, .bool false, .int .u8 0], [(0, 1, false), (1, 1, false), (2, 1, false), (3, 1, false)], []⟩),
  (9, ⟨.str, 1, 16, .str [], [], []⟩),
  (10, ⟨.str, 1, 16, .str [], [], []⟩),
  (11, ⟨.str, 1, 16, .str [], [], []⟩),
  (12, ⟨.int .u64, 1, 8, .int .u64 0, [], []⟩),
  (13, ⟨.agg, 2, 24, .agg [.str [], .int .u64 0], [(0, 1, false), (1, 1, false)], []⟩),
  (14, ⟨.agg, 2, 24, .agg [.str [], .int .u64 0], [(0, 1, false), (1, 1, false)], []⟩),
  (15, ⟨.ptr, 1, 8, .raw (.pointer none), [], []⟩),
  (16, ⟨.ptr, 1, 8, .raw (.pointer none), [], []⟩),
  (17, ⟨.ptr, 1, 8, .raw (.pointer none), [], []⟩),
  (18, ⟨.agg, 1, 8, .agg [.raw (.pointer none)], [(0, 1, false)], []⟩),
  (19, ⟨.agg, 1, 8, .agg [.raw (.pointer none)], [(0, 1, false)], []⟩),
  (20, ⟨.iface, 1, 16, .raw .nilIface, [], []⟩),
  (21, ⟨.int .i32, 1, 4, .int .i32 0, [], []⟩),
  (22, ⟨.slice 5, 1, 24, .nils, [], []⟩),
  (23, ⟨.slice 25, 1, 24, .nils, [], []⟩),
  (24, ⟨.agg, 4, 64, .agg [.int .i64 0, .str [], .str [], .nils], [(0, 1, false), (1, 1, false), (2, 1, false), (3, 1, false)], []⟩),
  (25, ⟨.agg, 4, 64, .agg [.int .i64 0, .str [], .str [], .nils], [(0, 1, false), (1, 1, false), (2, 1, false), (3, 1, false)], []⟩),
  (26, ⟨.other, 1, 8, .raw .nilFunc, [], []⟩),
  (27, ⟨.slice 9, 1, 24, .nils, [], []⟩),
  (28, ⟨.other, 1, 8, .raw .nilFunc, [], []⟩),
  (29, ⟨.other, 1, 8, .raw .nilFunc, [], []⟩),
  (30, ⟨.other, 1, 8, .raw .nilFunc, [], []⟩),
  (31, ⟨.slice 3, 1, 24, .nils, [], []⟩),
  (32, ⟨.other, 1, 8, .raw .nilFunc, [], []⟩),
  (34, ⟨.other, 1, 8, .raw .nilFunc, [], []⟩),
  (35, ⟨.other, 1, 8, .raw .nilFunc, [], []⟩),
  (37, ⟨.other, 1, 8, .raw .nilFunc, [], []⟩),
  (38, ⟨.other, 1, 8, .raw .nilFunc, [], []⟩),
  (39, ⟨.other, 1, 8, .raw .nilFunc, [], []⟩),
  (40, ⟨.agg, 8, 104, .agg [.int .i64 0, .int .i64 0, .int .i64 0, .int .i64 0, .str [], .str [], .nils, .str []], [(0, 1, false), (1, 1, false), (2, 1, false), (3, 4, true), (7, 1, false)], []⟩),
  (41, ⟨.agg, 8, 104, .agg [.int .i64 0, .int .i64 0, .int .i64 0, .int .i64 0, .str [], .str [], .nils, .str []], [(0, 1, false), (1, 1, false), (2, 1, false), (3, 4, true), (7, 1, false)], []⟩),
  (42, ⟨.slice 44, 1, 24, .nils, [], []⟩),
  (43, ⟨.agg, 4, 64, .agg [.int .i64 0, .str [], .str [], .nils], [(0, 1, false), (1, 1, false), (2, 1, false), (3, 1, false)], []⟩),
  (44, ⟨.agg, 4, 64, .agg [.int .i64 0, .str [], .str [], .nils], [(0, 1, false), (1, 1, false), (2, 1, false), (3, 1, false)], []⟩),
  (45, ⟨.other, 1, 8, .raw .nilFunc, [], []⟩),
  (46, ⟨.other, 1, 8, .raw .nilFunc, [], []⟩),
  (47, ⟨.other, 1, 8, .raw .nilFunc, [], []⟩),
  (48, ⟨.other, 1, 8, .raw .nilFunc, [], []⟩),
  (49, ⟨.other, 1, 8, .raw .nilFunc, [], []⟩),
  (50, ⟨.other, 1, 8, .raw .nilFunc, [], []⟩),
  (52, ⟨.other, 1, 8, .raw .nilFunc, [], []⟩),
  (53, ⟨.other, 1, 8, .raw .nilFunc, [], []⟩),
  (54, ⟨.other, 1, 8, .raw .nilFunc, [], []⟩),
  (55, ⟨.other, 1, 8, .raw .nilFunc, [], []⟩),
  (56, ⟨.other, 1, 8, .raw .nilFunc, [], []⟩),
  (57, ⟨.other, 1, 8, .raw .nilFunc, [], []⟩),
  (58, ⟨.ptr, 1, 8, .raw (.pointer none), [], [("loop.example/codicil/spec.of", 49), ("loop.example/codicil/spec.pick", 69)]⟩),
  (59, ⟨.other, 1, 8, .raw .nilFunc, [], []⟩),
  (60, ⟨.other, 1, 8, .raw .nilFunc, [], []⟩),
  (61, ⟨.other, 1, 8, .raw .nilFunc, [], []⟩),
  (62, ⟨.map 3 4, 1, 8, .raw (.map none), [], []⟩),
  (63, ⟨.other, 1, 8, .raw .nilFunc, [], []⟩),
  (64, ⟨.other, 1, 8, .raw .nilFunc, [], []⟩),
  (65, ⟨.other, 1, 8, .raw .nilFunc, [], []⟩),
  (66, ⟨.agg, 6, 80, .agg [.int .i64 0, .str [], .str [], .nils, .int .i64 0, .int .i64 0], [(0, 4, true), (4, 1, false), (5, 1, false)], []⟩),
  (67, ⟨.agg, 6, 80, .agg [.int .i64 0, .str [], .str [], .nils, .int .i64 0, .int .i64 0], [(0, 4, true), (4, 1, false), (5, 1, false)], []⟩),
  (68, ⟨.other, 1, 8, .raw .nilFunc, [], []⟩),
  (69, ⟨.other, 1, 8, .raw .nilFunc, [], []⟩),
  (71, ⟨.other, 1, 8, .raw .nilFunc, [], []⟩),
  (72, ⟨.other, 1, 8, .raw .nilFunc, [], []⟩),
  (73, ⟨.other, 1, 8, .raw .nilFunc, [], []⟩),
  (74, ⟨.other, 1, 8, .raw .nilFunc, [], []⟩),
  (75, ⟨.iface, 1, 16, .raw .nilIface, [], []⟩),
  (76, ⟨.iface, 1, 16, .raw .nilIface, [], []⟩),
  (78, ⟨.other, 1, 8, .raw .nilFunc, [], []⟩),
  (79, ⟨.other, 1, 8, .raw .nilFunc, [], []⟩),
  (80, ⟨.other, 1, 8, .raw .nilFunc, [], []⟩),
  (81, ⟨.other, 1, 8, .raw .nilFunc, [], []⟩),
  (82, ⟨.other, 1, 8, .raw .nilFunc, [], []⟩),
  (83, ⟨.other, 1, 8, .raw .nilFunc, [], []⟩),
  (84, ⟨.other, 1, 8, .raw .nilFunc, [], []⟩),
  (85, ⟨.other, 1, 8, .raw .nilFunc, [], []⟩),
  (86, ⟨.other, 1, 8, .raw .nilFunc, [], []⟩),
  (87, ⟨.other, 1, 8, .raw .nilFunc, [], []⟩),
  (88, ⟨.other, 1, 8, .raw .nilFunc, [], []⟩),
  (89, ⟨.other, 1, 8, .raw .nilFunc, [], []⟩),
  (90, ⟨.other, 1, 8, .raw .nilFunc, [], []⟩),
  (91, ⟨.other, 1, 8, .raw .nilFunc, [], []⟩),
  (92, ⟨.other, 1, 8, .raw .nilFunc, [], []⟩),
  (93, ⟨.ptr, 1, 8, .raw (.pointer none), [], []⟩),
  (94, ⟨.other, 1, 8, .raw .nilFunc, [], []⟩),
  (95, ⟨.slice 133, 1, 24, .nils, [], []⟩),
  (96, ⟨.other, 1, 8, .raw .nilFunc, [], []⟩),
  (97, ⟨.slice 31, 1, 24, .nils, [], []⟩),
  (98, ⟨.other, 1, 8, .raw .nilFunc, [], []⟩),
  (99, ⟨.other, 1, 8, .raw .nilFunc, [], []⟩),
  (100, ⟨.agg, 2, 32, .agg [.nils, .int .i64 0], [(0, 1, false), (1, 1, false)], []⟩),
  (101, ⟨.agg, 2, 32, .agg [.nils, .int .i64 0], [(0, 1, false), (1, 1, false)], []⟩),
  (102, ⟨.other, 1, 8, .raw .nilFunc, [], []⟩),
  (103, ⟨.other, 1, 8, .raw .nilFunc, [], []⟩),
  (104, ⟨.other, 1, 8, .raw .nilFunc, [], []⟩),
  (106, ⟨.other, 1, 8, .raw .nilFunc, [], []⟩),
  (107, ⟨.other, 1, 8, .raw .nilFunc, [], []⟩),
  (108, ⟨.other, 1, 8, .raw .nilFunc, [], []⟩),
  (109, ⟨.other, 1, 8, .raw .nilFunc, [], []⟩),
  (110, ⟨.other, 1, 8, .raw .nilFunc, [], []⟩),
  (111, ⟨.other, 1, 8, .raw .nilFunc, [], []⟩),
  (113, ⟨.agg, 6, 80, .agg [.int .i64 0, .int .i64 0, .int .i64 0, .str [], .str [], .nils], [(0, 1, false), (1, 1, false), (2, 4, true)], []⟩),
  (114, ⟨.agg, 6, 80, .agg [.int .i64 0, .int .i64 0, .int .i64 0, .str [], .str [], .nils], [(0, 1, false), (1, 1, false), (2, 4, true)], [("loop.example/codicil/impl.do", 140), ("loop.example/codicil/impl.undo", 141)]⟩),
  (115, ⟨.agg, 1, 8, .agg [.int .i64 0], [(0, 1, false)], []⟩),
  (116, ⟨.agg, 1, 8, .agg [.int .i64 0], [(0, 1, false)], [("loop.example/codicil/impl.do", 148), ("loop.example/codicil/impl.undo", 149)]⟩),
  (117, ⟨.other, 1, 8, .raw .nilFunc, [], []⟩),
  (118, ⟨.agg, 2, 24, .agg [.int .i64 0, .str []], [(0, 1, false), (1, 1, false)], []⟩),
  (119, ⟨.agg, 2, 24, .agg [.int .i64 0, .str []], [(0, 1, false), (1, 1, false)], [("loop.example/codicil/impl.do", 154), ("loop.example/codicil/impl.undo", 155)]⟩),
  (120, ⟨.agg, 2, 24, .agg [.int .i64 0, .str []], [(0, 1, false), (1, 1, false)], []⟩),
  (121, ⟨.agg, 2, 24, .agg [.int .i64 0, .str []], [(0, 1, false), (1, 1, false)], [("loop.example/codicil/impl.do", 156), ("loop.example/codicil/impl.undo", 157)]⟩),
  (122, ⟨.other, 1, 8, .raw .nilFunc, [], []⟩),
  (123, ⟨.other, 1, 8, .raw .nilFunc, [], []⟩),
  (124, ⟨.ptr, 1, 8, .raw (.pointer none), [], []⟩),
  (125, ⟨.other, 1, 8, .raw .nilFunc, [], []⟩),
  (126, ⟨.other, 1, 8, .raw .nilFunc, [], []⟩),
  (127, ⟨.slice 149, 1, 24, .nils, [], []⟩),
  (128, ⟨.agg, 2, 40, .agg [.str [], .nils], [(0, 1, false), (1, 1, false)], []⟩),
  (129, ⟨.agg, 2, 40, .agg [.str [], .nils], [(0, 1, false), (1, 1, false)], []⟩),
  (130, ⟨.other, 1, 8, .raw .nilFunc, [], []⟩),
  (131, ⟨.other, 1, 8, .raw .nilFunc, [], []⟩),
  (132, ⟨.agg, 3, 40, .agg [.str [], .str [], .int .i64 0], [(0, 1, false), (1, 1, false), (2, 1, false)], []⟩),
  (133, ⟨.agg, 3, 40, .agg [.str [], .str [], .int .i64 0], [(0, 1, false), (1, 1, false), (2, 1, false)], []⟩),
  (134, ⟨.other, 1, 8, .raw .nilFunc, [], []⟩),
  (135, ⟨.other, 1, 8, .raw .nilFunc, [], []⟩),
  (136, ⟨.other, 1, 8, .raw .nilFunc, [], []⟩),
  (137, ⟨.map 3 9, 1, 8, .raw (.map none), [], []⟩),
  (138, ⟨.map 9 3, 1, 8, .raw (.map none), [], []⟩),
  (139, ⟨.other, 1, 8, .raw .nilFunc, [], []⟩),
  (140, ⟨.other, 1, 8, .raw .nilFunc, [], []⟩),
  (141, ⟨.other, 1, 8, .raw .nilFunc, [], []⟩),
  (142, ⟨.other, 1, 8, .raw .nilFunc, [], []⟩),
  (143, ⟨.other, 1, 8, .raw .nilFunc, [], []⟩),
  (144, ⟨.other, 1, 8, .raw .nilFunc, [], []⟩),
  (145, ⟨.agg, 3, 24, .agg [.str [], .bool false, .bool false], [(0, 1, false), (1, 1, false), (2, 1, false)], []⟩),
  (146, ⟨.agg, 3, 24, .agg [.str [], .bool false, .bool false], [(0, 1, false), (1, 1, false), (2, 1, false)], []⟩),
  (147, ⟨.slice 146, 1, 24, .nils, [], []⟩),
  (148, ⟨.agg, 3, 48, .agg [.str [], .bool false, .nils], [(0, 1, false), (1, 1, false), (2, 1, false)], []⟩),
  (149, ⟨.agg, 3, 48, .agg [.str [], .bool false, .nils], [(0, 1, false), (1, 1, false), (2, 1, false)], []⟩),
  (150, ⟨.other, 1, 8, .raw .nilFunc, [], []⟩),
  (151, ⟨.other, 1, 8, .raw .nilFunc, [], []⟩),
  (152, ⟨.other, 1, 8, .raw .nilFunc, [], []⟩),
  (153, ⟨.agg, 24, 24, .agg [.int .u8 0, .int .u8 0, .int .u8 0, .int .u8 0, .int .u8 0, .int .u8 0, .int .u8 0, .int .u8 0, .int .u8 0, .int .u8 0, .int .u8 0, .int .u8 0, .int .u8 0, .int .u8 0, .int .u8 0, .int .u8 0, .int .u8 0, .int .u8 0, .int .u8 0, .int .u8 0, .int .u8 0, .int .u8 0, .int .u8 0, .int .u8 0], [], []⟩),
  (154, ⟨.int .u64, 1, 8, .int .u64 0, [], []⟩),
  (155, ⟨.other, 1, 8, .raw .nilFunc, [], []⟩),
  (156, ⟨.other, 1, 8, .raw .nilFunc, [], []⟩),
  (158, ⟨.other, 1, 8, .raw .nilFunc, [], []⟩),
  (159, ⟨.other, 1, 8, .raw .nilFunc, [], []⟩),
  (160, ⟨.agg, 20, 160, .agg [.int .u64 0, .int .u64 0, .int .u64 0, .int .u64 0, .int .u64 0, .int .u64 0, .int .u64 0, .int .u64 0, .int .u64 0, .int .u64 0, .int .u64 0, .int .u64 0, .int .u64 0, .int .u64 0, .int .u64 0, .int .u64 0, .int .u64 0, .int .u64 0, .int .u64 0, .int .u64 0], [], []⟩),
  (161, ⟨.int .u32, 1, 4, .int .u32 0, [], []⟩),
  (162, ⟨.agg, 65, 65, .agg [.int .u8 0, .int .u8 0, .int .u8 0, .int .u8 0, .int .u8 0, .int .u8 0, .int .u8 0, .int .u8 0, .int .u8 0, .int .u8 0, .int .u8 0, .int .u8 0, .int .u8 0, .int .u8 0, .int .u8 0, .int .u8 0, .int .u8 0, .int .u8 0, .int .u8 0, .int .u8 0, .int .u8 0, .int .u8 0, .int .u8 0, .int .u8 0, .int .u8 0, .int .u8 0, .int .u8 0, .int .u8 0, .int .u8 0, .int .u8 0, .int .u8 0, .int .u8 0, .int .u8 0, .int .u8 0, .int .u8 0, .int .u8 0, .int .u8 0, .int .u8 0, .int .u8 0, .int .u8 0, .int .u8 0, .int .u8 0, .int .u8 0, .int .u8 0, .int .u8 0, .int .u8 0, .int .u8 0, .int .u8 0, .int .u8 0, .int .u8 0, .int .u8 0, .int .u8 0, .int .u8 0, .int .u8 0, .int .u8 0, .int .u8 0, .int .u8 0, .int .u8 0, .int .u8 0, .int .u8 0, .int .u8 0, .int .u8 0, .int .u8 0, .int .u8 0, .int .u8 0], [], []⟩),
  (163, ⟨.other, 1, 8, .raw .nilFunc, [], []⟩),
  (164, ⟨.int .u64, 1, 8, .int .u64 0, [], []⟩),
  (165, ⟨.other, 1, 8, .raw .nilFunc, [], []⟩),
  (166, ⟨.other, 1, 8, .raw .nilFunc, [], []⟩),
  (167, ⟨.agg, 32, 32, .agg [.int .u8 0, .int .u8 0, .int .u8 0, .int .u8 0, .int .u8 0, .int .u8 0, .int .u8 0, .int .u8 0, .int .u8 0, .int .u8 0, .int .u8 0, .int .u8 0, .int .u8 0, .int .u8 0, .int .u8 0, .int .u8 0, .int .u8 0, .int .u8 0, .int .u8 0, .int .u8 0, .int .u8 0, .int .u8 0, .int .u8 0, .int .u8 0, .int .u8 0, .int .u8 0, .int .u8 0, .int .u8 0, .int .u8 0, .int .u8 0, .int .u8 0, .int .u8 0], [], []⟩),
  (168, ⟨.agg, 64, 64, .agg [.int .u8 0, .int .u8 0, .int .u8 0, .int .u8 0, .int .u8 0, .int .u8 0, .int .u8 0, .int .u8 0, .int .u8 0, .int .u8 0, .int .u8 0, .int .u8 0, .int .u8 0, .int .u8 0, .int .u8 0, .int .u8 0, .int .u8 0, .int .u8 0, .int .u8 0, .int .u8 0, .int .u8 0, .int .u8 0, .int .u8 0, .int .u8 0, .int .u8 0, .int .u8 0, .int .u8 0, .int .u8 0, .int .u8 0, .int .u8 0, .int .u8 0, .int .u8 0, .int .u8 0, .int .u8 0, .int .u8 0, .int .u8 0, .int .u8 0, .int .u8 0, .int .u8 0, .int .u8 0, .int .u8 0, .int .u8 0, .int .u8 0, .int .u8 0, .int .u8 0, .int .u8 0, .int .u8 0, .int .u8 0, .int .u8 0, .int .u8 0, .int .u8 0, .int .u8 0, .int .u8 0, .int .u8 0, .int .u8 0, .int .u8 0, .int .u8 0, .int .u8 0, .int .u8 0, .int .u8 0, .int .u8 0, .int .u8 0, .int .u8 0, .int .u8 0], [], []⟩),
  (169, ⟨.other, 1, 8, .raw .nilFunc, [], []⟩),
  (170, ⟨.agg, 4, 40, .agg [.raw (.pointer none), .raw (.pointer none), .raw (.pointer none), .str []], [(0, 1, false), (1, 1, false), (2, 1, false), (3, 1, false)], []⟩),
  (171, ⟨.agg, 4, 40, .agg [.raw (.pointer none), .raw (.pointer none), .raw (.pointer none), .str []], [(0, 1, false), (1, 1, false), (2, 1, false), (3, 1, false)], []⟩),
  (175, ⟨.other, 1, 8, .raw .nilFunc, [], []⟩),
  (176, ⟨.int .u8, 1, 1, .int .u8 0, [], []⟩),
  (177, ⟨.int .u8, 1, 1, .int .u8 0, [], []⟩),
  (178, ⟨.other, 1, 8, .raw .nilFunc, [], []⟩),
  (179, ⟨.ptr, 1, 8, .raw (.pointer none), [], []⟩),
  (180, ⟨.int .i32, 1, 4, .int .i32 0, [], []⟩),
  (181, ⟨.int .i32, 1, 4, .int .i32 0, [], []⟩),
  (182, ⟨.agg, 11, 48, .agg [.int .u64 0, .int .u64 0, .int .u32 0, .int .u8 0, .int .u8 0, .int .u8 0, .int .u8 0, .raw .nilFunc, .raw (.pointer none), .int .i32 0, .int .i32 0], [(0, 1, false), (1, 1, false), (2, 1, false), (3, 1, false), (4, 1, false), (5, 1, false), (6, 1, false), (7, 1, false), (8, 1, false), (9, 1, false), (10, 1, false)], []⟩),
  (183, ⟨.agg, 11, 48, .agg [.int .u64 0, .int .u64 0, .int .u32 0, .int .u8 0, .int .u8 0, .int .u8 0, .int .u8 0, .raw .nilFunc, .raw (.pointer none), .int .i32 0, .int .i32 0], [(0, 1, false), (1, 1, false), (2, 1, false), (3, 1, false), (4, 1, false), (5, 1, false), (6, 1, false), (7, 1, false), (8, 1, false), (9, 1, false), (10, 1, false)], []⟩),
  (184, ⟨.other, 1, 8, .raw .nilFunc, [], []⟩),
  (185, ⟨.other, 1, 8, .raw .nilFunc, [], []⟩),
  (186, ⟨.other, 1, 8, .raw .nilFunc, [], []⟩),
  (187, ⟨.other, 1, 8, .raw .nilFunc, [], []⟩),
  (188, ⟨.other, 1, 8, .raw .nilFunc, [], []⟩),
  (189, ⟨.other, 1, 8, .raw .nilFunc, [], []⟩),
  (190, ⟨.other, 1, 8, .raw .nilFunc, [], []⟩)]
theorem good : TauGood Tryd.prog (tauOf tauL) := tauGood (by kernel_rfl) (by kernel_rfl) (by decide)
end Go.Cod

namespace Go.Cod
open Go Go.Proofs
set_option maxRecDepth 10000
theorem l1In_pure (a b c : Int) : Pure Tryd.prog 82 [.int .i64 a, .int .i64 b, .int .i64 c] (· = .bool (decide (b ≤ a ∧ a ≤ c))) := by
  refine pure_of_awp good Tryd.func82 rfl (by kernel_rfl) (by decide) ?_
  conv => whnf
  by_cases h1 : b ≤ a
  · rw [leB_t h1]
    conv => whnf
    simp [h1, leB_def]
  · rw [leB_f (by omega)]
    conv => whnf
    simp [h1]

def lowerB (c : UInt8) : Bool := decide (97 ≤ c.toNat ∧ c.toNat ≤ 122)
def lower (s : List UInt8) : Bool := s.all lowerB
def nameL (s : List UInt8) : Bool := lower s && decide (1 ≤ (s.length : Int) ∧ (s.length : Int) ≤ 8)
theorem take_all {p : UInt8 → Bool} {s : List UInt8} {i : Nat} (h : i < s.length) : (s.take (i + 1)).all p = ((s.take i).all p && p s[i]) := by
  rw [List.take_succ_eq_append_getElem h, List.all_append]; simp
theorem l2Name_pure (s : List UInt8) (hs : s.length ≤ 9223372036854775806) : Pure Tryd.prog 83 [.str s] (· = .bool (nameL s)) := by
  refine pure_of_awp good Tryd.func83 rfl (by kernel_rfl) (by decide) ?_
  conv => whnf
  refine loop_intro (fun n fr st => st = [] ∧ ∃ i : Nat, n + i = s.length ∧ lower (s.take i) = true ∧ Holds fr [(0, .str s), (3, .int .i64 i)]) s.length ⟨rfl, 0, rfl, rfl, rfl, rfl, trivial⟩ ?_
  rintro n fr st ⟨rfl, i, hi, hlow, hh⟩
  obtain ⟨fr, rfl⟩ := hh.split
  clear hh
  conv => whnf
  by_cases hlt : i < s.length
  · rw [ltB_t (by omega)]
    have hstep := take_all (p := lowerB) hlt
    conv => whnf
    refine ⟨by omega, s[i], by simp [hlt], ?_⟩
    conv => whnf
    by_cases h1 : (97 : Int) ≤ (s[i].toNat : Int)
    · rw [ltB_f (by omega)]
      conv => whnf
      refine ⟨by omega, s[i], by simp [hlt], ?_⟩
      conv => whnf
      by_cases h2 : (s[i].toNat : Int) ≤ 122
      · rw [ltB_f (by omega)]
        conv => whnf
        refine ⟨n - 1, by omega, rfl, i + 1, by omega, ?_, ?_⟩
        · unfold lower at *; rw [hstep, hlow]; simp [lowerB]; omega
        · refine ⟨rfl, ?_, trivial⟩
          show V.int .i64 (IntKind.i64.wrap (i + 1)) = _
          rw [wrap64 (by omega) (by omega)]; simp
      · rw [ltB_t (by omega)]
        conv => whnf
        have hf : lower s = false := by
          unfold lower
          rw [List.all_eq_false]
          exact ⟨s[i], List.getElem_mem _, by simp only [lowerB, decide_eq_true_eq]; omega⟩
        simp only [nameL, hf, Bool.false_and]
    · rw [ltB_t (by omega)]
      conv => whnf
      have hf : lower s = false := by
        unfold lower
        rw [List.all_eq_false]
        exact ⟨s[i], List.getElem_mem _, by simp only [lowerB, decide_eq_true_eq]; omega⟩
      simp only [nameL, hf, Bool.false_and]
  · rw [ltB_f (by omega)]
    conv => whnf
    refine .inl ((l1In_pure _ _ _).mono ?_)
    rintro r rfl
    conv => whnf
    have : s.take i = s := List.take_of_length_le (by omega)
    rw [this] at hlow
    simp [nameL, hlow]
end Go.Cod

namespace Go.Cod
open Go Go.Proofs Go.ChangeShapes Go.WideShapes Go.ChangeAt Go.RowKit
set_option maxRecDepth 10000

/-- A tree. -/
inductive T where
  | mk (id : Int) (kind text : List UInt8) (kids : List T)

mutual
def T.cells : T → List V
  | .mk id kind text kids => [.int .i64 id, .str kind, .str text, .sl (T.rows kids)]
def T.rows : List T → List (List V)
  | [] => []
  | t :: ts => t.cells :: T.rows ts
end
theorem T.rows_eq (ts : List T) : T.rows ts = ts.map T.cells := by
  induction ts with
  | nil => rfl
  | cons t ts ih => simp [T.rows, ih]

/-- What a number, a text and a list may be at most. -/
inductive T.Ok : T → Prop
  | mk {id kind text kids} (h1 : -9223372036854775808 ≤ id ∧ id ≤ 9223372036854775807) (h2 : kind.length ≤ maxLen) (h3 : text.length ≤ maxLen) (h4 : kids.length ≤ maxLen) (h5 : ∀ t ∈ kids, T.Ok t) : T.Ok (.mk id kind text kids)

theorem map_of_forall {α β : Type} {f : α → β} {p : α → Prop} : ∀ {es : List β}, (∀ e ∈ es, ∃ a, e = f a ∧ p a) → ∃ xs : List α, es = xs.map f ∧ ∀ a ∈ xs, p a
  | [], _ => ⟨[], rfl, by simp⟩
  | e :: es, h => by
    obtain ⟨a, rfl, hp⟩ := h e (by simp)
    obtain ⟨xs, rfl, hq⟩ := map_of_forall (es := es) fun e he => h e (by simp [he])
    exact ⟨a :: xs, rfl, by simpa using ⟨hp, hq⟩⟩

theorem kids : Kids Tryd.prog (· < Tryd.prog.types.size) := kids_rows (by kernel_rfl) (by kernel_rfl)
theorem full : ∀ t e, t < Tryd.prog.types.size → Tryd.prog.underlying t = some (.slice e) → 0 < Tryd.prog.cellsOf e := slices_full_of Tryd.prog (by kernel_rfl)

def SF4 (id : Int) (a b : List UInt8) (c : V) : List V := [.int .i64 id, .str a, .str b, c]

theorem reads_tree {H : Type} {enc : TypeId × Value → H} {w : World} : ∀ n : Nat, Reads enc Tryd.prog w n 44 fun vs => ∃ t : T, vs = t.cells ∧ t.Ok := by
  intro n
  induction n using Nat.strongRecOn with
  | ind n ih =>
    have hS := reads_struct (enc := enc) (P := Tryd.prog) (w := w) (n := n) (t := 44)
      (Ss := [fun vs => ∃ i, vs = [.int .i64 i] ∧ IntKind.i64.min ≤ i ∧ i ≤ IntKind.i64.max, fun vs => ∃ s, vs = [.str s] ∧ s.length ≤ maxLen, fun vs => ∃ s, vs = [.str s] ∧ s.length ≤ maxLen,
        fun vs => ∃ es, vs = [.sl es] ∧ es.length ≤ maxLen ∧ ∀ r ∈ es, (∃ t : T, r = t.cells ∧ t.Ok) ∧ r.length = Tryd.prog.cellsOf 44 ∧ (∀ v ∈ r, v.leaf = true) ∧ V.clean.cleanL 0 r = true])
      kids (by decide +kernel) Tryd.underlying44 rfl ?_
    · intro cs x h
      obtain ⟨vs, ⟨_, _, rfl, ⟨i, rfl, hi⟩, _, _, rfl, ⟨s, rfl, hs⟩, _, _, rfl, ⟨s', rfl, hs'⟩, _, _, rfl, ⟨es, rfl, hes, hr⟩, rfl⟩, h2⟩ := hS cs x h
      obtain ⟨ts, rfl, hts⟩ := map_of_forall (f := T.cells) (p := T.Ok) fun e he => (hr e he).1
      refine ⟨_, ⟨.mk i s s' ts, ?_, .mk hi hs hs' (by simpa using hes) hts⟩, h2⟩
      simp [T.cells, T.rows_eq]
    · intro m hm j f S h1 h2
      match j with
      | 0 => simp at h1 h2; subst h1 h2; exact reads_int Tryd.underlying3
      | 1 => simp at h1 h2; subst h1 h2; exact reads_str Tryd.underlying9
      | 2 => simp at h1 h2; subst h1 h2; exact reads_str Tryd.underlying9
      | 3 => simp at h1 h2; subst h1 h2; exact reads_slice Tryd.underlying42 (by decide +kernel) fun m' hm' => ih m' (by omega)
      | j + 4 => simp at h1

end Go.Cod

namespace Go.Cod
open Go Go.Proofs
set_option maxRecDepth 10000

def T.kids : T → List T
  | .mk _ _ _ kids => kids
mutual
def szT : T → Int → Int
  | .mk _ kind text kids, left =>
    if left - kind.length < 0 then -1 else
    if left - kind.length - text.length < 0 then -1 else
    let l := if left - kind.length - text.length - kids.length < 0 then -1 else szGo kids (left - kind.length - text.length - kids.length)
    if l < 0 then -1 else l
def szGo : List T → Int → Int
  | [], l => l
  | t :: ts, l => if szT t l < 0 then -1 else szGo ts (szT t l)
end
def szL (ts : List T) (left : Int) : Int := if left - ts.length < 0 then -1 else szGo ts (left - ts.length)

mutual
theorem szT_le : ∀ (t : T) (left : Int), 0 ≤ left → szT t left ≤ left ∧ -1 ≤ szT t left
  | .mk id kind text kids, left, h => by
    simp only [szT]
    have := szGo_le kids (left - kind.length - text.length - kids.length)
    split
    · omega
    split
    · omega
    split
    · simp; omega
    · split <;> omega
theorem szGo_le : ∀ (ts : List T) (left : Int), 0 ≤ left → szGo ts left ≤ left ∧ -1 ≤ szGo ts left
  | [], left, h => by simp [szGo]; omega
  | t :: ts, left, h => by
    simp only [szGo]
    have := szT_le t left h
    split
    · omega
    · have := szGo_le ts (szT t left) (by omega)
      omega
end
theorem szL_le (ts : List T) (left : Int) (h : 0 ≤ left) : szL ts left ≤ left ∧ -1 ≤ szL ts left := by
  unfold szL
  split
  · omega
  · have := szGo_le ts (left - ts.length) (by omega)
    omega

theorem szT_pure1 (t : T) (ht : t.Ok) (left : Int) (h0 : 0 ≤ left) (h1 : left ≤ 4611686018427387904)
    (hL : ∀ left : Int, 0 ≤ left → left ≤ 4611686018427387904 → Pure Tryd.prog 55 [.sl (T.rows t.kids), .int .i64 left] (· = .int .i64 (szL t.kids left))) :
    Pure Tryd.prog 22 [.agg t.cells, .int .i64 left] (· = .int .i64 (szT t left)) := by
  cases ht with
  | @mk id kind text kids g1 g2 g3 g4 g5 =>
  simp only [maxLen] at g2 g3 g4
  refine pure_of_awp good Tryd.func22 rfl (by kernel_rfl) (by decide) ?_
  conv => whnf
  rw [wrap64 (by omega) (by omega)]
  by_cases a1 : left - kind.length < 0
  · rw [ltB_t (by omega)]
    conv => whnf
    simp [szT, a1]
  rw [ltB_f (by omega)]
  conv => whnf
  rw [wrap64 (by omega) (by omega)]
  by_cases a2 : left - kind.length - text.length < 0
  · rw [ltB_t (by omega)]
    conv => whnf
    simp [szT, a1, a2]
  rw [ltB_f (by omega)]
  conv => whnf
  refine .inl ((hL (left - kind.length - text.length) (by omega) (by omega)).mono ?_)
  rintro r rfl
  simp only [T.kids]
  have hb := szL_le kids (left - kind.length - text.length) (by omega)
  have he : szT (.mk id kind text kids) left = if szL kids (left - kind.length - text.length) < 0 then -1 else szL kids (left - kind.length - text.length) := by
    simp only [szT, szL, if_neg a1, if_neg a2]
    rfl
  conv => whnf
  by_cases a3 : szL kids (left - kind.length - text.length) < 0
  · rw [ltB_t (by omega)]
    conv => whnf
    rw [he, if_pos a3]
  rw [ltB_f (by omega)]
  conv => whnf
  rw [he, if_neg a3]

theorem rows_get (ts : List T) (i : Nat) (h : i < ts.length) : (T.rows ts)[i]? = some ts[i].cells := by
  rw [T.rows_eq]; simp [h]
theorem rows_len (ts : List T) : (T.rows ts).length = ts.length := by rw [T.rows_eq]; simp
theorem cells_len (t : T) : t.cells.length = 4 := by cases t; rfl

theorem szGo_drop (ts : List T) (i : Nat) (h : i < ts.length) (l : Int) : szGo (ts.drop i) l = if szT ts[i] l < 0 then -1 else szGo (ts.drop (i + 1)) (szT ts[i] l) := by
  rw [List.drop_eq_getElem_cons h]; simp [szGo]

theorem szL_pure1 (ts : List T) (hl : ts.length ≤ 9223372036854775807) (left : Int) (h0 : 0 ≤ left) (h1 : left ≤ 4611686018427387904)
    (hT : ∀ t ∈ ts, ∀ left : Int, 0 ≤ left → left ≤ 4611686018427387904 → Pure Tryd.prog 22 [.agg t.cells, .int .i64 left] (· = .int .i64 (szT t left))) :
    Pure Tryd.prog 55 [.sl (T.rows ts), .int .i64 left] (· = .int .i64 (szL ts left)) := by
  have hlr := rows_len ts
  refine pure_of_awp good Tryd.func55 rfl (by kernel_rfl) (by decide) ?_
  conv => whnf
  rw [wrap64 (by omega) (by omega)]
  by_cases a1 : left - ts.length < 0
  · rw [ltB_t (by omega)]
    conv => whnf
    simp [szL, a1]
  rw [ltB_f (by omega)]
  conv => whnf
  refine loop_intro (fun n fr st => st = [] ∧ ∃ (i : Nat) (l : Int), n + i = ts.length ∧ 0 ≤ l ∧ l ≤ 4611686018427387904 ∧ szL ts left = szGo (ts.drop i) l ∧ Holds fr [(0, .sl (T.rows ts)), (1, .int .i64 l), (5, .int .i64 i)]) ts.length
    ⟨rfl, 0, left - (T.rows ts).length, by simp, by omega, by omega, by simp [szL, hlr, a1], rfl, rfl, rfl, trivial⟩ ?_
  rintro n fr st ⟨rfl, i, l, hi, b0, b1, hsz, hh⟩
  obtain ⟨fr, rfl⟩ := hh.split
  clear hh
  conv => whnf
  by_cases hlt : i < ts.length
  · rw [ltB_t (by omega)]
    conv => whnf
    refine ⟨by omega, T.rows ts, ts[i].cells, 4, rfl, rows_get ts i hlt, rfl, cells_len _, ?_⟩
    have hc := hT ts[i] (List.getElem_mem _) l b0 b1
    have hb := szT_le ts[i] l b0
    rw [szGo_drop ts i hlt] at hsz
    generalize hg : ts[i] = t at hc hb hsz ⊢
    cases t with
    | mk id kind text kids =>
    conv => whnf
    refine .inl (hc.mono ?_)
    rintro r rfl
    conv => whnf
    by_cases a3 : szT (.mk id kind text kids) l < 0
    · rw [ltB_t (by omega)]
      conv => whnf
      rw [hsz, if_pos a3]
    rw [ltB_f (by omega)]
    conv => whnf
    refine ⟨n - 1, by omega, rfl, i + 1, szT (.mk id kind text kids) l, by omega, by omega, by omega, ?_, rfl, rfl, ?_, trivial⟩
    · rw [hsz, if_neg a3]
    · show V.int .i64 (IntKind.i64.wrap (i + 1)) = _
      rw [wrap64 (by omega) (by omega)]; simp
  · rw [ltB_f (by omega)]
    conv => whnf
    rw [hsz, List.drop_of_length_le (by omega)]
    rfl

theorem szT_pure (t : T) (ht : t.Ok) : ∀ (left : Int), 0 ≤ left → left ≤ 4611686018427387904 → Pure Tryd.prog 22 [.agg t.cells, .int .i64 left] (· = .int .i64 (szT t left)) := by
  induction ht with
  | @mk id kind text kids g1 g2 g3 g4 g5 ih =>
    intro left h0 h1
    exact szT_pure1 _ (.mk g1 g2 g3 g4 g5) left h0 h1 fun left h0 h1 => szL_pure1 kids (by simpa [maxLen] using g4) left h0 h1 ih
end Go.Cod

namespace Go.Cod
open Go Go.Proofs
set_option maxRecDepth 10000

inductive T.Small : T → Prop
  | mk {id kind text kids} (h1 : -9223372036854775808 ≤ id ∧ id ≤ 9223372036854775807) (h2 : kind.length ≤ 1048576) (h3 : text.length ≤ 1048576) (h4 : kids.length ≤ 1048576) (h5 : ∀ t ∈ kids, T.Small t) : T.Small (.mk id kind text kids)

def zrow : List V := [.int .i64 0, .str [], .str [], .nils]
def mix (ts : List T) (i : Nat) : List (List V) := (T.rows ts).take i ++ List.replicate (ts.length - i) zrow
theorem mix_get (ts : List T) (i : Nat) (h : i < ts.length) : (mix ts i)[i]? = some zrow := by
  unfold mix
  rw [List.getElem?_append_right (by rw [List.length_take, rows_len]; omega)]
  rw [List.length_take, rows_len, Nat.min_eq_left (by omega), Nat.sub_self, List.getElem?_replicate, if_pos (by omega)]
theorem mix_set (ts : List T) (i : Nat) (h : i < ts.length) : (mix ts i).set i ts[i].cells = mix ts (i + 1) := by
  unfold mix
  rw [List.set_append_right _ _ (by rw [List.length_take, rows_len]; omega), List.length_take, rows_len, Nat.min_eq_left (by omega), Nat.sub_self]
  rw [show ts.length - i = (ts.length - (i + 1)) + 1 by omega, List.replicate_succ, List.set_cons_zero, List.take_add_one, rows_get ts i h]
  simp
theorem toTreeS_pure1 (ts : List T) (hl : ts.length ≤ 1048576) (hT : ∀ t ∈ ts, Pure Tryd.prog 24 [.agg t.cells] (· = .agg t.cells)) :
    Pure Tryd.prog 58 [.sl (T.rows ts)] (· = .sl (T.rows ts)) := by
  have hlr := rows_len ts
  refine pure_of_awp good Tryd.func58 rfl (by kernel_rfl) (by decide) ?_
  conv => whnf
  refine ⟨by omega, by omega, ?_⟩
  conv => whnf
  refine ⟨by show (Int.toNat _) * 64 ≤ _; omega, by omega, ?_⟩
  conv => whnf
  refine loop_intro (fun n fr st => ∃ i : Nat, n + i = ts.length ∧ st = [⟨mix ts i, 4, true, true, false, .cell⟩] ∧ Holds fr [(0, .sl (T.rows ts)), (3, .own 0), (4, .int .i64 i)]) ts.length
    ⟨0, rfl, by simp [mix, hlr, zrow, V.cells], rfl, rfl, rfl, trivial⟩ ?_
  rintro n fr st ⟨i, hi, rfl, hh⟩
  obtain ⟨fr, rfl⟩ := hh.split
  clear hh
  conv => whnf
  by_cases hlt : i < ts.length
  · rw [ltB_t (by omega)]
    conv => whnf
    refine ⟨by omega, T.rows ts, ts[i].cells, 4, rfl, rows_get ts i hlt, rfl, cells_len _, ?_⟩
    have hc := hT ts[i] (List.getElem_mem _)
    have hm := mix_set ts i hlt
    have hmg := mix_get ts i hlt
    generalize ts[i] = t at hc hm
    cases t with
    | mk id kind text kids =>
    conv => whnf
    refine .inl (hc.mono ?_)
    rintro r rfl
    conv => whnf
    refine ⟨by omega, mix ts i, zrow, 4, rfl, hmg, rfl, rfl, ?_⟩
    conv => whnf
    refine AtRow_intro zrow hmg ?_
    conv => whnf
    refine ⟨n - 1, by omega, i + 1, by omega, ?_, rfl, rfl, ?_, trivial⟩
    · rw [← hm]; rfl
    · show V.int .i64 (IntKind.i64.wrap (i + 1)) = _
      rw [wrap64 (by omega) (by omega)]; simp
  · rw [ltB_f (by omega)]
    conv => whnf
    show V.sl (mix ts i) = _
    rw [mix, show ts.length - i = 0 by omega, List.take_of_length_le (by rw [hlr]; omega)]
    simp

theorem toTree_pure1 (t : T) (ht : t.Small)
    (hL : Pure Tryd.prog 58 [.sl (T.rows t.kids)] (· = .sl (T.rows t.kids))) :
    Pure Tryd.prog 24 [.agg t.cells] (· = .agg t.cells) := by
  cases ht with
  | @mk id kind text kids g1 g2 g3 g4 g5 =>
  simp only [T.kids] at hL
  refine pure_of_awp good Tryd.func24 rfl (by kernel_rfl) (by decide) ?_
  conv => whnf
  refine .inl (hL.mono ?_)
  rintro r rfl
  conv => whnf
  rfl
end Go.Cod

namespace Go.Cod
open Go Go.Proofs
set_option maxRecDepth 10000

theorem eqB_refl (a : Int) : eqB a a = true := by rw [eqB_def]; simp
theorem eqS_refl (a : List UInt8) : eqS a a = true := by rw [eqS_def]; simp

theorem eqTreeS_pure1 (ts : List T) (hl : ts.length ≤ 1048576) (hT : ∀ t ∈ ts, Pure Tryd.prog 26 [.agg t.cells, .agg t.cells] (· = .bool true)) :
    Pure Tryd.prog 61 [.sl (T.rows ts), .sl (T.rows ts)] (· = .bool true) := by
  have hlr := rows_len ts
  refine pure_of_awp good Tryd.func61 rfl (by kernel_rfl) (by decide) ?_
  conv => whnf
  rw [eqB_refl]
  conv => whnf
  refine loop_intro (fun n fr st => ∃ i : Nat, n + i = ts.length ∧ st = [] ∧ Holds fr [(0, .sl (T.rows ts)), (1, .sl (T.rows ts)), (5, .int .i64 i)]) ts.length
    ⟨0, rfl, rfl, rfl, rfl, rfl, trivial⟩ ?_
  rintro n fr st ⟨i, hi, rfl, hh⟩
  obtain ⟨fr, rfl⟩ := hh.split
  clear hh
  conv => whnf
  by_cases hlt : i < ts.length
  · rw [ltB_t (by omega)]
    conv => whnf
    refine ⟨by omega, T.rows ts, ts[i].cells, 4, rfl, rows_get ts i hlt, rfl, cells_len _, ?_⟩
    have hc := hT ts[i] (List.getElem_mem _)
    have hmg := rows_get ts i hlt
    generalize ts[i] = t at hc hmg
    cases t with
    | mk id kind text kids =>
    conv => whnf
    refine ⟨by omega, T.rows ts, _, 4, rfl, hmg, rfl, rfl, ?_⟩
    conv => whnf
    refine ⟨_, .inl hc, ?_⟩
    conv => whnf
    refine ⟨n - 1, by omega, i + 1, by omega, rfl, rfl, rfl, ?_, trivial⟩
    · show V.int .i64 (IntKind.i64.wrap (i + 1)) = _
      rw [wrap64 (by omega) (by omega)]; simp
  · rw [ltB_f (by omega)]
    conv => whnf

theorem eqTree_pure1 (t : T) (hL : Pure Tryd.prog 61 [.sl (T.rows t.kids), .sl (T.rows t.kids)] (· = .bool true)) :
    Pure Tryd.prog 26 [.agg t.cells, .agg t.cells] (· = .bool true) := by
  cases t with
  | mk id kind text kids =>
  simp only [T.kids] at hL
  refine pure_of_awp good Tryd.func26 rfl (by kernel_rfl) (by decide) ?_
  conv => whnf
  rw [eqB_refl]
  conv => whnf
  rw [eqS_refl]
  conv => whnf
  rw [eqS_refl]
  conv => whnf
  refine .inl (hL.mono ?_)
  rintro r rfl
  conv => whnf

theorem toTree_pure (t : T) (ht : t.Small) : Pure Tryd.prog 24 [.agg t.cells] (· = .agg t.cells) := by
  induction ht with
  | @mk id kind text kids g1 g2 g3 g4 g5 ih => exact toTree_pure1 _ (.mk g1 g2 g3 g4 g5) (toTreeS_pure1 kids g4 ih)
theorem eqTree_pure (t : T) (ht : t.Small) : Pure Tryd.prog 26 [.agg t.cells, .agg t.cells] (· = .bool true) := by
  induction ht with
  | @mk id kind text kids g1 g2 g3 g4 g5 ih => exact eqTree_pure1 _ (eqTreeS_pure1 kids g4 ih)

mutual
theorem small_of_sz : ∀ (t : T), t.Ok → ∀ left : Int, left ≤ 1048576 → 0 ≤ szT t left → t.Small
  | .mk id kind text kids, ht, left, h1, h2 => by
    cases ht with
    | mk g1 g2 g3 g4 g5 =>
      simp only [szT] at h2
      split at h2
      · omega
      split at h2
      · omega
      split at h2
      · simp at h2
      rename_i a1 a2 a3
      split at h2
      · omega
      refine .mk g1 (by omega) (by omega) (by omega) (small_of_szGo kids g5 _ (by omega) h2)
theorem small_of_szGo : ∀ (ts : List T), (∀ t ∈ ts, t.Ok) → ∀ left : Int, left ≤ 1048576 → 0 ≤ szGo ts left → ∀ t ∈ ts, t.Small
  | [], _, _, _, _ => by simp
  | t :: ts, h, left, h1, h2 => by
    simp only [szGo] at h2
    split at h2
    · omega
    rename_i a1
    by_cases h0 : 0 ≤ left
    · have h3 := (szT_le t left h0).1
      intro t' ht'
      have hh := small_of_sz t (h _ (by simp)) left h1 (by omega)
      rcases List.mem_cons.1 ht' with rfl | ht'
      · exact hh
      · exact small_of_szGo ts (fun t ht => h t (by simp [ht])) _ (by omega) h2 t' ht'
    · exfalso
      have : szT t left < 0 := by
        cases t with
        | mk id kind text kids => simp only [szT]; rw [if_pos (by omega)]; omega
      omega
end

end Go.Cod

namespace Go.Cod
open Go Go.Proofs
set_option maxRecDepth 10000

/-- Rows of numbers. -/
def irows (ns : List Int) : List (List V) := ns.map fun n => [.int .i64 n]
theorem irows_len (ns : List Int) : (irows ns).length = ns.length := by simp [irows]
theorem irows_get (ns : List Int) (i : Nat) (h : i < ns.length) : (irows ns)[i]? = some [.int .i64 ns[i]] := by simp [irows, h]

theorem l2Has_pure (ns : List Int) (x : Int) (hl : ns.length ≤ 9223372036854775806) : Pure Tryd.prog 46 [.sl (irows ns), .int .i64 x] (· = .bool (decide (x ∈ ns))) := by
  have hlr := irows_len ns
  refine pure_of_awp good Tryd.func46 rfl (by kernel_rfl) (by decide) ?_
  conv => whnf
  refine loop_intro (fun n fr st => ∃ i : Nat, n + i = ns.length ∧ st = [] ∧ x ∉ ns.take i ∧ Holds fr [(0, .sl (irows ns)), (1, .int .i64 x), (5, .int .i64 i)]) ns.length
    ⟨0, rfl, rfl, by simp, rfl, rfl, rfl, trivial⟩ ?_
  rintro n fr st ⟨i, hi, rfl, hx, hh⟩
  obtain ⟨fr, rfl⟩ := hh.split
  clear hh
  conv => whnf
  by_cases hlt : i < ns.length
  · rw [ltB_t (by omega)]
    conv => whnf
    refine ⟨by omega, irows ns, _, 1, rfl, irows_get ns i hlt, rfl, rfl, ?_⟩
    conv => whnf
    by_cases he : ns[i] = x
    · rw [eqB_t he]
      conv => whnf
      have : x ∈ ns := he ▸ List.getElem_mem _
      simp [this]
    · rw [eqB_f he]
      conv => whnf
      refine ⟨n - 1, by omega, i + 1, by omega, rfl, ?_, rfl, rfl, ?_, trivial⟩
      · rw [List.take_succ_eq_append_getElem hlt]
        simp only [List.mem_append, List.mem_singleton, not_or]
        exact ⟨hx, fun h => he h.symm⟩
      · show V.int .i64 (IntKind.i64.wrap (i + 1)) = _
        rw [wrap64 (by omega) (by omega)]; simp
  · rw [ltB_f (by omega)]
    conv => whnf
    rw [List.take_of_length_le (by omega)] at hx
    simp [hx]

mutual
def T.ids : T → List Int
  | .mk id _ _ kids => id :: T.idsL kids
def T.idsL : List T → List Int
  | [] => []
  | t :: ts => t.ids ++ T.idsL ts
end
theorem idsL_append (a b : List T) : T.idsL (a ++ b) = T.idsL a ++ T.idsL b := by
  induction a with
  | nil => rfl
  | cons x xs ih => simp [T.idsL, ih]
theorem idsL_take (ts : List T) (i : Nat) (h : i < ts.length) : T.idsL (ts.take (i + 1)) = T.idsL (ts.take i) ++ ts[i].ids := by
  rw [List.take_succ_eq_append_getElem h, idsL_append]; simp [T.idsL]
theorem irows_append (a b : List Int) : irows (a ++ b) = irows a ++ irows b := by simp [irows]

def textB (c : UInt8) : Bool := decide (32 ≤ c.toNat ∧ c.toNat ≤ 126 ∧ c.toNat ≠ 34)
def textL (s : List UInt8) : Bool := s.all textB && decide ((s.length : Int) ≤ 12)
theorem l2Text_pure (s : List UInt8) (hs : s.length ≤ 9223372036854775806) : Pure Tryd.prog 84 [.str s] (· = .bool (textL s)) := by
  have hno : ∀ (i : Nat) (h : i < s.length), textB s[i] = false → textL s = false := by
    intro i h hb
    have : s.all textB = false := by rw [List.all_eq_false]; exact ⟨s[i], List.getElem_mem _, by simp [hb]⟩
    simp only [textL, this, Bool.false_and]
  refine pure_of_awp good Tryd.func84 rfl (by kernel_rfl) (by decide) ?_
  conv => whnf
  refine loop_intro (fun n fr st => st = [] ∧ ∃ i : Nat, n + i = s.length ∧ (s.take i).all textB = true ∧ Holds fr [(0, .str s), (3, .int .i64 i)]) s.length ⟨rfl, 0, rfl, rfl, rfl, rfl, trivial⟩ ?_
  rintro n fr st ⟨rfl, i, hi, hlow, hh⟩
  obtain ⟨fr, rfl⟩ := hh.split
  clear hh
  conv => whnf
  by_cases hlt : i < s.length
  · rw [ltB_t (by omega)]
    have hstep := take_all (p := textB) hlt
    have hn := hno i hlt
    conv => whnf
    refine ⟨by omega, s[i], by simp [hlt], ?_⟩
    conv => whnf
    by_cases h1 : (s[i].toNat : Int) < 32
    · rw [ltB_t h1]
      conv => whnf
      rw [hn (by simp only [textB, decide_eq_false_iff_not]; omega)]
    rw [ltB_f (by omega)]
    conv => whnf
    refine ⟨by omega, s[i], by simp [hlt], ?_⟩
    conv => whnf
    by_cases h2 : (126 : Int) < s[i].toNat
    · rw [ltB_t h2]
      conv => whnf
      rw [hn (by simp only [textB, decide_eq_false_iff_not]; omega)]
    rw [ltB_f (by omega)]
    conv => whnf
    refine ⟨by omega, s[i], by simp [hlt], ?_⟩
    conv => whnf
    by_cases h3 : (s[i].toNat : Int) = 34
    · rw [eqB_t h3]
      conv => whnf
      rw [hn (by simp only [textB, decide_eq_false_iff_not]; omega)]
    rw [eqB_f h3]
    conv => whnf
    refine ⟨n - 1, by omega, rfl, i + 1, by omega, ?_, rfl, ?_, trivial⟩
    · rw [hstep, hlow]; simp only [textB, Bool.true_and, decide_eq_true_eq]; omega
    · show V.int .i64 (IntKind.i64.wrap (i + 1)) = _
      rw [wrap64 (by omega) (by omega)]; simp
  · rw [ltB_f (by omega)]
    conv => whnf
    rw [List.take_of_length_le (by omega)] at hlow
    show V.bool (leB _ _) = _
    simp [textL, hlow, leB_def]
end Go.Cod

namespace Go.Cod
open Go Go.Proofs
set_option maxRecDepth 10000

mutual
def plainT : T → Int → Bool
  | .mk id kind text kids, lv => !decide (6 < lv) && decide (1 ≤ id ∧ id ≤ 999) && nameL kind && textL text && plainL kids (lv + 1)
def plainL : List T → Int → Bool
  | [], _ => true
  | t :: ts, lv => plainT t lv && plainL ts lv
end
theorem plainL_eq (ts : List T) (lv : Int) : plainL ts lv = ts.all fun t => plainT t lv := by
  induction ts with
  | nil => rfl
  | cons t ts ih => simp [plainL, ih]

theorem l2Plain_pure1 (t : T) (hs : t.Small) (lv : Int) (h0 : 0 ≤ lv) (h7 : lv ≤ 1000) (hT : lv ≤ 6 → ∀ t' ∈ t.kids, Pure Tryd.prog 44 [.agg t'.cells, .int .i64 (lv + 1)] (· = .bool (plainT t' (lv + 1)))) :
    Pure Tryd.prog 44 [.agg t.cells, .int .i64 lv] (· = .bool (plainT t lv)) := by
  cases hs with
  | @mk id kind text kids g1 g2 g3 g4 g5 =>
  simp only [T.kids] at hT
  have hlr := rows_len kids
  refine pure_of_awp good Tryd.func44 rfl (by kernel_rfl) (by decide) ?_
  conv => whnf
  by_cases a1 : 6 < lv
  · rw [ltB_t a1]
    conv => whnf
    simp [plainT, a1]
  rw [ltB_f (by omega)]
  conv => whnf
  refine .inl ((l1In_pure _ _ _).mono ?_)
  rintro r rfl
  by_cases a2 : 1 ≤ id ∧ id ≤ 999
  case neg =>
    rw [decide_eq_false a2]
    conv => whnf
    simp [plainT, a2]
  rw [decide_eq_true a2]
  conv => whnf
  refine .inl ((l2Name_pure kind (by omega)).mono ?_)
  rintro r rfl
  cases a3 : nameL kind
  · conv => whnf
    simp [plainT, a3]
  conv => whnf
  refine .inl ((l2Text_pure text (by omega)).mono ?_)
  rintro r rfl
  cases a4 : textL text
  · conv => whnf
    simp [plainT, a4]
  conv => whnf
  have hp : plainT (.mk id kind text kids) lv = plainL kids (lv + 1) := by simp [plainT, a1, a2, a3, a4]
  rw [plainL_eq] at hp
  refine loop_intro (fun n fr st => ∃ i : Nat, n + i = kids.length ∧ st = [⟨[[.int .i64 id, .str kind, .str text, .sl (T.rows kids)]], 4, true, true, true, .cell⟩] ∧ (kids.take i).all (fun t => plainT t (lv + 1)) = true ∧ Holds fr [(1, .int .i64 lv), (2, .ptr 0 0 0), (5, .int .i64 i)]) kids.length
    ⟨0, rfl, rfl, rfl, rfl, rfl, rfl, trivial⟩ ?_
  rintro n fr st ⟨i, hi, rfl, hx, hh⟩
  obtain ⟨fr, rfl⟩ := hh.split
  clear hh
  conv => whnf
  by_cases hlt : i < kids.length
  · rw [ltB_t (by omega)]
    conv => whnf
    refine ⟨by omega, T.rows kids, kids[i].cells, 4, rfl, rows_get kids i hlt, rfl, cells_len _, ?_⟩
    have hc := hT (by omega) kids[i] (List.getElem_mem _)
    have hst : (kids.take (i + 1)).all (fun t => plainT t (lv + 1)) = plainT kids[i] (lv + 1) := by
      rw [List.take_succ_eq_append_getElem hlt, List.all_append, hx]; simp
    have hno : plainT kids[i] (lv + 1) = false → kids.all (fun t => plainT t (lv + 1)) = false := by
      intro h; rw [List.all_eq_false]; exact ⟨kids[i], List.getElem_mem _, by simp [h]⟩
    generalize kids[i] = t at hc hst hno ⊢
    cases t with
    | mk id' kind' text' kids' =>
    conv => whnf
    rw [wrap64 (by omega) (by omega)]
    refine .inl (hc.mono ?_)
    rintro r rfl
    cases a5 : plainT (.mk id' kind' text' kids') (lv + 1)
    · conv => whnf
      rw [hp, hno a5]
    conv => whnf
    refine ⟨n - 1, by omega, i + 1, by omega, rfl, by rw [hst, a5], rfl, rfl, ?_, trivial⟩
    show V.int .i64 (IntKind.i64.wrap (i + 1)) = _
    rw [wrap64 (by omega) (by omega)]; simp
  · rw [ltB_f (by omega)]
    conv => whnf
    rw [List.take_of_length_le (by omega)] at hx
    rw [hp, hx]

theorem l2Plain_pure (t : T) (hs : t.Small) : ∀ lv : Int, 0 ≤ lv → lv ≤ 1000 → Pure Tryd.prog 44 [.agg t.cells, .int .i64 lv] (· = .bool (plainT t lv)) := by
  induction hs with
  | @mk id kind text kids g1 g2 g3 g4 g5 ih =>
    intro lv h0 h7
    exact l2Plain_pure1 _ (.mk g1 g2 g3 g4 g5) lv h0 h7 fun h t' ht' => ih t' ht' (lv + 1) (by omega) (by omega)
end Go.Cod

namespace Go.Cod
open Go Go.Proofs
set_option maxRecDepth 10000

mutual
theorem ids_sz : ∀ (t : T) (left : Int), 0 ≤ szT t left → szT t left + t.ids.length ≤ left + 1
  | .mk id kind text kids, left, h => by
    simp only [szT] at h ⊢
    split at h
    · omega
    split at h
    · omega
    split at h
    · simp at h
    rename_i a1 a2 a3
    rw [if_neg a1, if_neg a2, if_neg a3]
    split at h
    · omega
    rename_i a4
    rw [if_neg a4]
    have := ids_szGo kids _ h
    simp only [T.ids, List.length_cons]
    omega
theorem ids_szGo : ∀ (ts : List T) (left : Int), 0 ≤ szGo ts left → szGo ts left + (T.idsL ts).length ≤ left + ts.length
  | [], left, h => by simp [szGo, T.idsL]
  | t :: ts, left, h => by
    simp only [szGo] at h ⊢
    split at h
    · omega
    rename_i a1
    rw [if_neg a1]
    have h1 := ids_sz t left (by omega)
    have h2 := ids_szGo ts _ h
    simp only [T.idsL, List.length_append, List.length_cons]
    omega
end
theorem idsL_split (ts : List T) (i : Nat) : T.idsL ts = T.idsL (ts.take i) ++ T.idsL (ts.drop i) := by
  induction ts generalizing i with
  | nil => simp [T.idsL]
  | cons t ts ih => cases i with
    | zero => simp [T.idsL]
    | succ i => simp only [List.take_succ_cons, List.drop_succ_cons, T.idsL, List.append_assoc]; rw [← ih i]
theorem irows_wid (l : List Int) : ∀ m ∈ irows l, m.length = 1 := by simp [irows]

theorem l2Ids_pure1 (t : T) (hs : t.Small) (hn : t.ids.length ≤ 1048577) (hT : ∀ t' ∈ t.kids, (t'.ids).length ≤ 1048577 → Pure Tryd.prog 45 [.agg t'.cells] (· = .sl (irows (t'.ids)))) :
    Pure Tryd.prog 45 [.agg t.cells] (· = .sl (irows t.ids)) := by
  cases hs with
  | @mk id kind text kids g1 g2 g3 g4 g5 =>
  simp only [T.kids, T.ids, List.length_cons] at hT hn ⊢
  have hlr := rows_len kids
  refine pure_of_awp good Tryd.func45 rfl (by kernel_rfl) (by decide) ?_
  conv => whnf
  refine loop_drop (fun n fr st => ∃ i : Nat, n + i = kids.length ∧ st = [⟨[[.int .i64 id, .str kind, .str text, .sl (T.rows kids)]], 4, true, true, true, .cell⟩, ⟨irows (id :: T.idsL (kids.take i)), 1, true, true, false, .cell⟩] ∧ Holds fr [(1, .ptr 0 0 0), (3, .own 1), (4, .int .i64 i)]) kids.length none
    ⟨0, rfl, rfl, rfl, rfl, rfl, trivial⟩ ?_
  rintro n fr st ⟨i, hi, rfl, hh⟩
  obtain ⟨fr, rfl⟩ := hh.split
  clear hh
  conv => whnf
  by_cases hlt : i < kids.length
  · rw [ltB_t (by omega)]
    conv => whnf
    refine ⟨by omega, T.rows kids, kids[i].cells, 4, rfl, rows_get kids i hlt, rfl, cells_len _, ?_⟩
    have hsp := idsL_split kids (i + 1)
    have htk := idsL_take kids i hlt
    have hl1 : (T.idsL kids).length = (T.idsL (kids.take (i + 1))).length + (T.idsL (kids.drop (i + 1))).length := by rw [hsp]; simp
    have hl2 : (T.idsL (kids.take (i + 1))).length = (T.idsL (kids.take i)).length + (kids[i].ids).length := by rw [htk]; simp
    have hc := hT kids[i] (List.getElem_mem _) (by omega)
    generalize kids[i] = t at hc htk hl2 ⊢
    cases t with
    | mk id' kind' text' kids' =>
    conv => whnf
    refine .inl (hc.mono ?_)
    rintro r rfl
    conv => whnf
    refine ⟨irows_wid _, ?_⟩
    conv => whnf
    refine ⟨by rw [irows_len, irows_len]; show (_ + _) * 8 ≤ _; simp only [List.length_cons]; omega, ?_⟩
    conv => whnf
    refine ⟨n - 1, by omega, some [0, 2], ?_⟩
    conv => whnf
    refine ⟨i + 1, by omega, ?_, rfl, rfl, ?_, trivial⟩
    · show [_, _] = [_, _]
      rw [htk]
      simp only [irows, List.map_cons, List.map_append]
      rfl
    · show V.int .i64 (IntKind.i64.wrap (i + 1)) = _
      rw [wrap64 (by omega) (by omega)]; simp
  · rw [ltB_f (by omega)]
    conv => whnf
    rw [List.take_of_length_le (by omega)]

theorem l2Ids_pure (t : T) (hs : t.Small) : t.ids.length ≤ 1048577 → Pure Tryd.prog 45 [.agg t.cells] (· = .sl (irows t.ids)) := by
  induction hs with
  | @mk id kind text kids g1 g2 g3 g4 g5 ih =>
    intro hn
    exact l2Ids_pure1 _ (.mk g1 g2 g3 g4 g5) hn fun t' ht' h => ih t' ht' h

theorem nodup_take {l : List Int} {i : Nat} (h : i < l.length) : (l.take (i + 1)).Nodup ↔ (l.take i).Nodup ∧ l[i] ∉ l.take i := by
  rw [List.take_succ_eq_append_getElem h, List.nodup_append]
  simp
  intro _
  constructor
  · intro h h2; exact h _ h2 rfl
  · intro h a ha e; exact h (e ▸ ha)

def okT (t : T) : Bool := plainT t 1 && decide t.ids.Nodup && decide (t.ids.length ≤ 20)

theorem specTreeOk_pure (t : T) (hs : t.Small) (hn : t.ids.length ≤ 1048577) : Pure Tryd.prog 15 [.agg t.cells] (· = .bool (okT t)) := by
  have hp := l2Plain_pure t hs 1 (by omega) (by omega)
  have hi := l2Ids_pure t hs hn
  have hok : okT t = (plainT t 1 && decide t.ids.Nodup && decide (t.ids.length ≤ 20)) := rfl
  generalize okT t = ok at *
  generalize plainT t 1 = pl at *
  generalize t.ids = ids at *
  cases t with
  | mk id kind text kids =>
  refine pure_of_awp good Tryd.func15 rfl (by kernel_rfl) (by decide) ?_
  conv => whnf
  refine .inl (hp.mono ?_)
  rintro r rfl
  cases pl
  · conv => whnf
    simp at hok; rw [hok]
  conv => whnf
  refine .inl (hi.mono ?_)
  rintro r rfl
  conv => whnf
  refine loop_intro (fun n fr st => ∃ i : Nat, n + i = ids.length ∧ st = [⟨[[.int .i64 id, .str kind, .str text, .sl (T.rows kids)]], 4, true, true, true, .cell⟩] ∧ (ids.take i).Nodup ∧ Holds fr [(3, .sl (irows ids)), (4, .int .i64 i)]) ids.length
    ⟨0, rfl, rfl, by simp, rfl, rfl, trivial⟩ ?_
  rintro n fr st ⟨i, hi, rfl, hx, hh⟩
  obtain ⟨fr, rfl⟩ := hh.split
  clear hh
  conv => whnf
  have hlr := irows_len ids
  by_cases hlt : i < ids.length
  · rw [ltB_t (by omega)]
    conv => whnf
    refine ⟨irows_wid _, ?_⟩
    conv => whnf
    refine ⟨by omega, by show Int.toNat (i : Int) ≤ _; rw [hlr]; omega, rfl, ?_⟩
    conv => whnf
    refine ⟨by omega, irows ids, _, 1, rfl, irows_get ids i hlt, rfl, rfl, ?_⟩
    conv => whnf
    have hcut : ((irows ids).take (Int.toNat (i : Int))).drop 0 = irows (ids.take i) := by simp [irows]
    have hc := l2Has_pure (ids.take i) ids[i] (by simp; omega)
    rw [← hcut] at hc
    refine ⟨_, .inl hc, ?_⟩
    have hnd := nodup_take hlt
    by_cases hm : ids[i] ∈ ids.take i
    · rw [decide_eq_true hm]
      conv => whnf
      have : ¬ ids.Nodup := fun h => (hnd.1 (h.sublist (List.take_sublist _ _))).2 hm
      simp [this] at hok; rw [hok]
    · rw [decide_eq_false hm]
      conv => whnf
      refine ⟨n - 1, by omega, i + 1, by omega, rfl, hnd.2 ⟨hx, hm⟩, rfl, ?_, trivial⟩
      show V.int .i64 (IntKind.i64.wrap (i + 1)) = _
      rw [wrap64 (by omega) (by omega)]; simp
  · rw [ltB_f (by omega)]
    conv => whnf
    rw [List.take_of_length_le (by omega)] at hx
    simp only [hx, decide_true, Bool.true_and, Bool.and_true] at hok
    rw [hok, leB_def, hlr]
    congr 1
    exact decide_eq_decide.2 (by omega)
end Go.Cod

namespace Go.Cod
open Go Go.Proofs
set_option maxRecDepth 10000

theorem textHasOnly_pure (s : List UInt8) (hs : s.length ≤ 9223372036854775806) (g : Nat) (p : UInt8 → Bool) (hp : ∀ b : UInt8, Pure Tryd.prog g [cellB b] (· = .bool (p b))) :
    Pure Tryd.prog 80 [.str s, .fn g []] (· = .bool (s.all p)) := by
  refine pure_of_awp good Tryd.func80 rfl (by kernel_rfl) (by decide) ?_
  conv => whnf
  refine loop_intro (fun n fr st => st = [] ∧ ∃ i : Nat, n + i = s.length ∧ (s.take i).all p = true ∧ Holds fr [(0, .str s), (1, .fn g []), (7, .int .i64 s.length), (8, .int .i64 i)]) s.length ⟨rfl, 0, rfl, rfl, rfl, rfl, rfl, rfl, trivial⟩ ?_
  rintro n fr st ⟨rfl, i, hi, hx, hh⟩
  obtain ⟨fr, rfl⟩ := hh.split
  clear hh
  conv => whnf
  by_cases hlt : i < s.length
  · rw [ltB_t (by omega)]
    conv => whnf
    refine ⟨by omega, s[i], by simp [hlt], ?_⟩
    conv => whnf
    have hst := take_all (p := p) hlt
    have hno : p s[i] = false → s.all p = false := by
      intro h; rw [List.all_eq_false]; exact ⟨s[i], List.getElem_mem _, by simp [h]⟩
    refine .inl ((hp s[i]).mono ?_)
    rintro r rfl
    cases a : p s[i]
    · conv => whnf
      rw [hno a]
    conv => whnf
    refine ⟨n - 1, by omega, rfl, i + 1, by omega, by rw [hst, hx, a]; rfl, rfl, rfl, rfl, ?_, trivial⟩
    show V.int .i64 (IntKind.i64.wrap (i + 1)) = _
    rw [wrap64 (by omega) (by omega)]; simp
  · rw [ltB_f (by omega)]
    conv => whnf
    rw [List.take_of_length_le (by omega)] at hx
    rw [hx]

theorem isLetter_pure (b : UInt8) : Pure Tryd.prog 101 [cellB b] (· = .bool (lowerB b)) := by
  refine pure_of_awp good Tryd.func101 rfl (by kernel_rfl) (by decide) ?_
  conv => whnf
  by_cases h1 : (97 : Int) ≤ (b.toNat : Int)
  · rw [leB_t (by omega)]
    conv => whnf
    congr 1
    rw [leB_def, lowerB]
    exact decide_eq_decide.2 (by omega)
  · rw [leB_f (by omega)]
    conv => whnf
    have : lowerB b = false := by unfold lowerB; simp; omega
    rw [this]
theorem isTreeText_pure (b : UInt8) : Pure Tryd.prog 81 [cellB b] (· = .bool (textB b)) := by
  refine pure_of_awp good Tryd.func81 rfl (by kernel_rfl) (by decide) ?_
  conv => whnf
  by_cases h1 : (32 : Int) ≤ (b.toNat : Int)
  · rw [leB_t (by omega)]
    conv => whnf
    by_cases h2 : (b.toNat : Int) ≤ 126
    · rw [leB_t (by omega)]
      conv => whnf
      congr 1
      rw [eqB_def]
      have : negB (decide ((b.toNat : Int) = 34)) = decide (b.toNat ≠ 34) := by
        by_cases h : b.toNat = 34
        · simp [h, negB]
        · have : ¬ (b.toNat : Int) = 34 := by omega
          simp [h, this, negB]
      rw [this, textB]
      exact decide_eq_decide.2 (by omega)
    · rw [leB_f (by omega)]
      conv => whnf
      have : textB b = false := by unfold textB; simp; omega
      rw [this]
  · rw [leB_f (by omega)]
    conv => whnf
    have : textB b = false := by unfold textB; simp; omega
    rw [this]
theorem nameOk_pure (s : List UInt8) (hs : s.length ≤ 9223372036854775806) : Pure Tryd.prog 79 [.str s] (· = .bool (nameL s)) := by
  refine pure_of_awp good Tryd.func79 rfl (by kernel_rfl) (by decide) ?_
  conv => whnf
  by_cases h1 : (1 : Int) ≤ (s.length : Int)
  case neg =>
    rw [leB_f (by omega)]
    conv => whnf
    simp [nameL]; omega
  rw [leB_t (by omega)]
  conv => whnf
  by_cases h2 : (s.length : Int) ≤ 8
  case neg =>
    rw [leB_f (by omega)]
    conv => whnf
    simp [nameL]; omega
  rw [leB_t (by omega)]
  conv => whnf
  refine .inl ((textHasOnly_pure s hs _ lowerB isLetter_pure).mono ?_)
  rintro r rfl
  conv => whnf
  simp [nameL, lower, h1, h2]

def thingB (id : Int) (kind text : List UInt8) : Bool := decide (1 ≤ id ∧ id ≤ 999) && nameL kind && textL text
theorem treeThingOk_pure (id : Int) (kind text : List UInt8) (kids : List T) (h2 : kind.length ≤ 9223372036854775806) (h3 : text.length ≤ 9223372036854775806) :
    Pure Tryd.prog 43 [.agg (T.mk id kind text kids).cells] (· = .bool (thingB id kind text)) := by
  refine pure_of_awp good Tryd.func43 rfl (by kernel_rfl) (by decide) ?_
  conv => whnf
  by_cases a1 : 1 ≤ id
  case neg =>
    rw [leB_f (by omega)]
    conv => whnf
    simp [thingB]; omega
  rw [leB_t (by omega)]
  conv => whnf
  by_cases a2 : id ≤ 999
  case neg =>
    rw [leB_f (by omega)]
    conv => whnf
    simp [thingB]; omega
  rw [leB_t (by omega)]
  conv => whnf
  refine .inl ((nameOk_pure kind (by omega)).mono ?_)
  rintro r rfl
  cases a3 : nameL kind
  · conv => whnf
    simp [thingB, a3]
  conv => whnf
  by_cases a4 : (text.length : Int) ≤ 12
  case neg =>
    rw [leB_f (by omega)]
    conv => whnf
    simp [thingB, textL]; omega
  rw [leB_t (by omega)]
  conv => whnf
  refine .inl ((textHasOnly_pure text (by omega) _ textB isTreeText_pure).mono ?_)
  rintro r rfl
  conv => whnf
  simp [thingB, textL, a1, a2, a3, a4]
end Go.Cod

namespace Go.Cod
open Go Go.Proofs
set_option maxRecDepth 10000

/-- A thing, that in which it is, its level. -/
abbrev Sp := T × Int × Int
def spV (s : Sp) : V := .agg (s.1.cells ++ [.int .i64 s.2.1, .int .i64 s.2.2])
mutual
def spT : T → Int → Int → List Sp
  | .mk id kind text kids, ov, lv => (.mk id kind text kids, ov, lv) :: spL kids id (IntKind.i64.wrap (lv + 1))
def spL : List T → Int → Int → List Sp
  | [], _, _ => []
  | t :: ts, ov, lv => spT t ov lv ++ spL ts ov lv
end
theorem spL_append (a b : List T) (ov lv : Int) : spL (a ++ b) ov lv = spL a ov lv ++ spL b ov lv := by
  induction a with
  | nil => rfl
  | cons t ts ih => simp [spL, ih]
def spRows (l : List Sp) : List (List V) := l.map fun s => [spV s]
theorem spRows_append (a b : List Sp) : spRows (a ++ b) = spRows a ++ spRows b := by simp [spRows]

/-- What is yielded in order is taken. -/
def Takes (ok : OkY) (log : List (List V)) (l : List Sp) : Prop := ∀ pre v suf, l = pre ++ v :: suf → ok (log ++ spRows pre) [spV v]
theorem Takes.left {ok : OkY} {log : List (List V)} {a b : List Sp} (h : Takes ok log (a ++ b)) : Takes ok log a := fun pre v suf e => h pre v (suf ++ b) (by rw [e]; simp)
theorem Takes.right {ok : OkY} {log : List (List V)} {a b : List Sp} (h : Takes ok log (a ++ b)) : Takes ok (log ++ spRows a) b := fun pre v suf e => by
  have := h (a ++ pre) v suf (by rw [e]; simp)
  rwa [spRows_append, ← List.append_assoc] at this
def Walked (log : List (List V)) (l : List Sp) (o : Out) (st' : St) : Prop := ∃ b log', o = .ret (.bool b) ∧ st' = [logO log' b] ∧ (b = true → log' = log ++ spRows l)

theorem treeWalk_full1 (t : T) (hs : t.Small) (ov lv : Int) (ok : OkY) (log : List (List V)) (hok : Takes ok log (spT t ov lv))
    (hT : ∀ t' ∈ t.kids, ∀ (ov lv : Int) (log : List (List V)), Takes ok log (spT t' ov lv) → Full Tryd.prog ok 78 [spV (t', ov, lv), .yld 0] [logO log true] (Walked log (spT t' ov lv))) :
    Full Tryd.prog ok 78 [spV (t, ov, lv), .yld 0] [logO log true] (Walked log (spT t ov lv)) := by
  cases hs with
  | @mk id kind text kids g1 g2 g3 g4 g5 =>
  simp only [T.kids] at hT
  have hlr := rows_len kids
  have hok0 : ok log [spV (.mk id kind text kids, ov, lv)] := by simpa [spRows] using hok [] _ _ rfl
  have hokL : Takes ok (log ++ [[spV (.mk id kind text kids, ov, lv)]]) (spL kids id (IntKind.i64.wrap (lv + 1))) := Takes.right (a := [(.mk id kind text kids, ov, lv)]) hok
  refine full_of_awp good Tryd.func78 rfl (by kernel_rfl) (by decide) ?_
  conv => whnf
  refine ⟨hok0, ?_⟩
  intro b
  have hfin : log ++ [[spV (.mk id kind text kids, ov, lv)]] ++ spRows (spL kids id (IntKind.i64.wrap (lv + 1))) = log ++ spRows (spT (.mk id kind text kids) ov lv) := by simp [spT, spRows]
  cases b
  · conv => whnf
    refine ⟨[], false, ?_⟩
    conv => whnf
    exact ⟨false, _, rfl, rfl, by simp⟩
  conv => whnf
  refine loop_drop (fun n fr st => ∃ i : Nat, n + i = kids.length ∧ st = [logO (log ++ [[spV (.mk id kind text kids, ov, lv)]] ++ spRows (spL (kids.take i) id (IntKind.i64.wrap (lv + 1)))) true, ⟨[[.int .i64 id, .str kind, .str text, .sl (T.rows kids), .int .i64 ov, .int .i64 lv]], 6, true, true, true, .cell⟩] ∧ Holds fr [(1, .yld 0), (2, .ptr 1 0 0), (13, .sl (T.rows kids)), (14, .int .i64 kids.length), (15, .int .i64 i)]) kids.length none
    ⟨0, rfl, by show [_, _] = [logO (_ ++ []) true, _]; rw [List.append_nil]; rfl, rfl, rfl, rfl, by rw [← hlr]; rfl, rfl, trivial⟩ ?_
  rintro n fr st ⟨i, hi, rfl, hh⟩
  obtain ⟨fr, rfl⟩ := hh.split
  clear hh
  conv => whnf
  by_cases hlt : i < kids.length
  · rw [ltB_t (by omega)]
    conv => whnf
    refine ⟨by omega, T.rows kids, kids[i].cells, 4, rfl, rows_get kids i hlt, rfl, cells_len _, ?_⟩
    have hc := hT kids[i] (List.getElem_mem _) id (IntKind.i64.wrap (lv + 1)) (log ++ [[spV (.mk id kind text kids, ov, lv)]] ++ spRows (spL (kids.take i) id (IntKind.i64.wrap (lv + 1)))) (by
      refine Takes.right (Takes.left (b := spL (kids.drop (i + 1)) id (IntKind.i64.wrap (lv + 1))) ?_)
      refine cast ?_ hokL
      congr 1
      conv => lhs; rw [← List.take_append_drop i kids, List.drop_eq_getElem_cons hlt]
      rw [spL_append]; simp [spL])
    have htk : spL (kids.take (i + 1)) id (IntKind.i64.wrap (lv + 1)) = spL (kids.take i) id (IntKind.i64.wrap (lv + 1)) ++ spT kids[i] id (IntKind.i64.wrap (lv + 1)) := by
      rw [List.take_succ_eq_append_getElem hlt, spL_append]; simp [spL]
    generalize kids[i] = t at hc htk ⊢
    cases t with
    | mk id' kind' text' kids' =>
    conv => whnf
    refine ⟨[0], false, ?_⟩
    conv => whnf
    refine hc.mono ?_
    rintro o st' ⟨b, log', rfl, rfl, hl⟩
    cases b
    · conv => whnf
      refine ⟨[], false, ?_⟩
      conv => whnf
      exact ⟨false, _, rfl, rfl, by simp⟩
    conv => whnf
    refine ⟨n - 1, by omega, some [0, 1], ?_⟩
    conv => whnf
    refine ⟨i + 1, by omega, ?_, rfl, rfl, rfl, rfl, ?_, trivial⟩
    · show [logO _ _, _] = [logO _ _, _]
      rw [hl rfl, htk, spRows_append, List.append_assoc]
      rfl
    · show V.int .i64 (IntKind.i64.wrap (i + 1)) = _
      rw [wrap64 (by omega) (by omega)]; simp
  · rw [ltB_f (by omega)]
    conv => whnf
    rw [List.take_of_length_le (by omega)]
    refine ⟨[], false, ?_⟩
    conv => whnf
    exact ⟨true, _, rfl, rfl, fun _ => hfin⟩
theorem treeWalk_full (t : T) (hs : t.Small) (ok : OkY) : ∀ (ov lv : Int) (log : List (List V)), Takes ok log (spT t ov lv) → Full Tryd.prog ok 78 [spV (t, ov, lv), .yld 0] [logO log true] (Walked log (spT t ov lv)) := by
  induction hs with
  | @mk id kind text kids g1 g2 g3 g4 g5 ih =>
    intro ov lv log hok
    exact treeWalk_full1 _ (.mk g1 g2 g3 g4 g5) ov lv ok log hok fun t' ht' => ih t' ht'
end Go.Cod

namespace Go.Cod
open Go Go.Proofs
set_option maxRecDepth 10000

def boxT (t : T) : O := ⟨[t.cells], 4, true, true, true, .cell⟩
theorem treeSpots1_full (t : T) (hs : t.Small) (ok : OkY) (hok : Takes ok [] (spT t 0 1)) : Full Tryd.prog ok 77 [.yld 0, .ptr 1 0 0] [logO [] true, boxT t] (fun o st' => ∃ r b log', o = .ret r ∧ st' = [logO log' b, boxT t] ∧ (b = true → log' = spRows (spT t 0 1))) := by
  have hc := treeWalk_full t hs ok 0 1 [] hok
  cases t with
  | mk id kind text kids =>
  refine full_of_awp good Tryd.func77 rfl (by kernel_rfl) (by decide) ?_
  conv => whnf
  refine ⟨[0], false, ?_⟩
  conv => whnf
  refine hc.mono ?_
  rintro o st' ⟨b, log', rfl, rfl, hl⟩
  conv => whnf
  refine ⟨[], false, ?_⟩
  conv => whnf
  exact ⟨_, b, log', rfl, rfl, hl⟩

theorem treeSpots_full (t : T) : Full Tryd.prog noY 42 [.agg t.cells] [] (fun o st' => o = .ret (.fn 77 [.ptr 0 0 0]) ∧ st' = [boxT t]) := by
  cases t with
  | mk id kind text kids =>
  refine full_of_awp good Tryd.func42 rfl (by kernel_rfl) (by decide) ?_
  conv => whnf
  refine ⟨[0], false, ?_⟩
  conv => whnf
  exact ⟨rfl, rfl⟩
end Go.Cod

namespace Go.Cod
open Go Go.Proofs
set_option maxRecDepth 10000

def T.id : T → Int
  | .mk id _ _ _ => id
def T.thing : T → Bool
  | .mk id kind text _ => thingB id kind text
def idS (s : Sp) : Int := s.1.id
theorem T.thing_mk (id : Int) (kind text : List UInt8) (kids : List T) : (T.mk id kind text kids).thing = thingB id kind text := rfl
mutual
theorem spT_ids : ∀ (t : T) (ov lv : Int), (spT t ov lv).map idS = t.ids
  | .mk id kind text kids, ov, lv => by simp [spT, T.ids, spL_ids kids, idS, T.id]
theorem spL_ids : ∀ (ts : List T) (ov lv : Int), (spL ts ov lv).map idS = T.idsL ts
  | [], _, _ => rfl
  | t :: ts, ov, lv => by simp [spL, T.idsL, spT_ids t, spL_ids ts]
end
mutual
theorem plainT_sp : ∀ (t : T) (ov lv : Int), 0 ≤ lv → lv ≤ 7 → (plainT t lv = true ↔ ∀ s ∈ spT t ov lv, s.2.2 ≤ 6 ∧ s.1.thing = true)
  | .mk id kind text kids, ov, lv, h0, h7 => by
    have hw : IntKind.i64.wrap (lv + 1) = lv + 1 := wrap64 (by omega) (by omega)
    simp only [plainT, spT, hw, List.mem_cons, forall_eq_or_imp, T.thing_mk, thingB, Bool.and_eq_true]
    by_cases h6 : lv ≤ 6
    · rw [plainL_sp kids id (lv + 1) (by omega) (by omega)]
      have : ¬ 6 < lv := by omega
      simp [this, h6, and_assoc]
    · have : 6 < lv := by omega
      simp [this, h6]
theorem plainL_sp : ∀ (ts : List T) (ov lv : Int), 0 ≤ lv → lv ≤ 7 → (plainL ts lv = true ↔ ∀ s ∈ spL ts ov lv, s.2.2 ≤ 6 ∧ s.1.thing = true)
  | [], _, _, _, _ => by simp [plainL, spL]
  | t :: ts, ov, lv, h0, h7 => by
    simp only [plainL, spL, Bool.and_eq_true, List.mem_append, plainT_sp t ov lv h0 h7, plainL_sp ts ov lv h0 h7]
    constructor
    · rintro ⟨a, b⟩ s (h | h)
      · exact a s h
      · exact b s h
    · intro h
      exact ⟨fun s hs => h s (.inl hs), fun s hs => h s (.inr hs)⟩
end
def AllOk (l : List Sp) : Prop := (∀ s ∈ l, s.2.2 ≤ 6 ∧ s.1.thing = true) ∧ (l.map idS).Nodup ∧ l.length ≤ 20
theorem AllOk.pre {a b : List Sp} (h : AllOk (a ++ b)) : AllOk a := by
  obtain ⟨h1, h2, h3⟩ := h
  refine ⟨fun s hs => h1 s (by simp [hs]), ?_, by simp at h3; omega⟩
  rw [List.map_append, List.nodup_append] at h2
  exact h2.1
theorem okT_iff (t : T) : okT t = true ↔ AllOk (spT t 0 1) := by
  have h := spT_ids t 0 1
  unfold okT AllOk
  rw [h]
  simp only [Bool.and_eq_true, decide_eq_true_eq, plainT_sp t 0 1 (by omega) (by omega), and_assoc]
  rw [← h, List.length_map]
theorem AllOk.snoc {l : List Sp} {s : Sp} : AllOk (l ++ [s]) ↔ AllOk l ∧ s.2.2 ≤ 6 ∧ s.1.thing = true ∧ idS s ∉ l.map idS ∧ l.length ≠ 20 := by
  unfold AllOk
  simp only [List.mem_append, List.mem_singleton, List.map_append, List.map_cons, List.map_nil, List.nodup_append, List.length_append, List.length_singleton]
  constructor
  · rintro ⟨h1, ⟨h2, _, h3⟩, h4⟩
    refine ⟨⟨fun s hs => h1 s (.inl hs), h2, by omega⟩, (h1 s (.inr rfl)).1, (h1 s (.inr rfl)).2, fun hm => h3 _ hm _ (by simp) rfl, by omega⟩
  · rintro ⟨⟨h1, h2, h4⟩, h5, h6, h7, h8⟩
    refine ⟨?_, ⟨h2, by simp, ?_⟩, by omega⟩
    · rintro s' (h | rfl)
      · exact h1 s' h
      · exact ⟨h5, h6⟩
    · intro a ha b hb e
      subst e; rw [hb] at ha; exact h7 ha

def seenRows (l : List Int) : List (List V) := l.map fun i => [.int .i64 i, .bool true]
theorem seenRows_len (l : List Int) : (seenRows l).length = l.length := by simp [seenRows]
theorem findRow_seen (l : List Int) (x : Int) : findRow (.int .i64 x) (seenRows l) = if x ∈ l then some (.bool true) else none := by
  induction l with
  | nil => rfl
  | cons a l ih =>
    by_cases h : a = x
    · subst h; simp [seenRows, findRow, rowKey, keyEq, rowVal]
    · have : ¬ x = a := fun e => h e.symm
      have e : findRow (.int .i64 x) ([.int .i64 a, .bool true] :: seenRows l) = findRow (.int .i64 x) (seenRows l) := by
        show (if decide (a = x) = true then _ else _) = _
        rw [if_neg (by simpa using h)]
      refine e.trans (ih.trans ?_)
      simp [this]
theorem putRow_seen (l : List Int) (x : Int) (h : x ∉ l) : putRow (.int .i64 x) (.bool true) (seenRows l) = seenRows (l ++ [x]) := by
  induction l with
  | nil => rfl
  | cons a l ih =>
    simp only [List.mem_cons, not_or] at h
    simp only [seenRows, List.map_cons, List.cons_append] at ih ⊢
    have h' : ¬ a = x := fun e => h.1 e.symm
    simp only [putRow, rowKey, keyEq, h', decide_false, Bool.false_eq_true, if_false, ih h.2]

def okbT (t : T) : OkY := fun log vs => ∃ pre s suf, spT t 0 1 = pre ++ s :: suf ∧ log = spRows pre ∧ vs = [spV s]
theorem okbT_takes (t : T) : Takes (okbT t) [] (spT t 0 1) := fun pre v suf e => ⟨pre, v, suf, e, by simp, rfl⟩
theorem spRows_len (l : List Sp) : (spRows l).length = l.length := by simp [spRows]
theorem implTreeOk_pure (t : T) (hs : t.Small) (hsps : ∀ s ∈ spT t 0 1, s.1.Small) : Pure Tryd.prog 14 [.agg t.cells] (· = .bool (okT t)) := by
  have hsp := treeSpots_full t
  have hok := okT_iff t
  have hcl := treeSpots1_full t hs _ (okbT_takes t)
  have hbox : boxT t = ⟨[t.cells], 4, true, true, true, .cell⟩ := rfl
  generalize okT t = okt at *
  have hobt : okbT t = fun log vs => ∃ pre s suf, spT t 0 1 = pre ++ s :: suf ∧ log = spRows pre ∧ vs = [spV s] := rfl
  generalize okbT t = okb at *
  generalize spT t 0 1 = sps at *
  cases t with
  | mk id kind text kids =>
  refine pure_of_awp good Tryd.func14 rfl (by kernel_rfl) (by decide) ?_
  conv => whnf
  refine .inr (.inl ⟨[], false, ?_⟩)
  conv => whnf
  refine hsp.mono ?_
  rintro o st' ⟨rfl, rfl⟩
  conv => whnf
  refine ⟨[4], false, okb, fun log st' => AllOk (sps.take log.length) ∧ st' = [⟨[(T.mk id kind text kids).cells], 4, true, true, true, .cell⟩, ⟨[[.bool false]], 1, true, true, true, .cell⟩, ⟨seenRows ((sps.take log.length).map idS), kindCode .i64, false, true, false, .map⟩, ⟨[[.map 2]], 1, true, true, true, .cell⟩, ⟨[(T.mk id kind text kids).cells], 4, false, true, true, .cell⟩], ?_⟩
  conv => whnf
  refine ⟨⟨⟨by simp, by simp, by simp⟩, rfl⟩, ?_, ?_⟩
  · rintro log vs st' ⟨hall, rfl⟩ ho
    rw [hobt] at ho
    obtain ⟨pre, s, suf, rfl, rfl, rfl⟩ := ho
    have htk : (pre ++ s :: suf).take (spRows pre).length = pre := by rw [spRows_len]; simp
    have htk1 : (pre ++ s :: suf).take (spRows pre ++ [[spV s]]).length = pre ++ [s] := by rw [List.length_append, spRows_len]; show List.take (pre.length + 1) _ = _; rw [List.take_append, List.take_of_length_le (by omega)]; simp
    rw [htk] at hall ⊢
    refine ⟨rfl, ?_⟩
    have hsn := AllOk.snoc (l := pre) (s := s)
    have hno : ¬ AllOk (pre ++ [s]) → okt = false := fun h => by
      cases e : okt
      · rfl
      · exact absurd (AllOk.pre (b := suf) (by simpa using hok.1 e)) h
    obtain ⟨⟨id', kind', text', kids'⟩, ov, lv⟩ := s
    simp only [T.thing_mk, idS, T.id] at hsn
    have hfr := findRow_seen (pre.map idS) id'
    have hpr := putRow_seen (pre.map idS) id'
    conv => whnf
    by_cases a1 : 6 < lv
    · rw [ltB_t a1]
      conv => whnf
      rw [hno fun h => by have : lv ≤ 6 := (hsn.1 h).2.1; omega]
    rw [ltB_f (show lv ≤ 6 by omega)]
    conv => whnf
    rw [seenRows_len, List.length_map]
    by_cases a2 : pre.length = 20
    · rw [eqB_t (by omega)]
      conv => whnf
      rw [hno fun h => by have := (hsn.1 h).2.2.2.2; omega]
    rw [eqB_f (by omega)]
    conv => whnf
    by_cases a3 : id' ∈ pre.map idS
    · rw [if_pos a3] at hfr
      refine AtKey_intro _ hfr ?_
      conv => whnf
      rw [hno fun h => (hsn.1 h).2.2.2.1 a3]
    rw [if_neg a3] at hfr
    refine AtKey_intro _ hfr ?_
    conv => whnf
    obtain ⟨b2, b3⟩ : kind'.length ≤ 1048576 ∧ text'.length ≤ 1048576 := by
      have h := hsps (.mk id' kind' text' kids', ov, lv) (by simp)
      cases h
      exact ⟨by assumption, by assumption⟩
    refine .inl ((treeThingOk_pure id' kind' text' kids' (by omega) (by omega)).mono ?_)
    rintro r rfl
    cases a4 : thingB id' kind' text'
    · conv => whnf
      rw [hno fun h => by have := (hsn.1 h).2.2.1; rw [a4] at this; cases this]
    conv => whnf
    refine ⟨some [0, 1, 2, 3, 4], ?_⟩
    conv => whnf
    have hall' : AllOk (pre ++ [(.mk id' kind' text' kids', ov, lv)]) := hsn.2 ⟨hall, (show lv ≤ 6 by omega), a4, a3, a2⟩
    have hpr := hpr a3
    rw [htk1]
    refine ⟨hall', ?_⟩
    have hse : seenRows ((pre ++ [((.mk id' kind' text' kids', ov, lv) : Sp)]).map idS) = putRow (.int .i64 id') (.bool true) (seenRows (pre.map idS)) := by
      rw [hpr, List.map_append]; rfl
    rw [hse]
    rfl
  · refine hcl.mono ?_
    rintro o st' ⟨r, b, log', rfl, rfl, hl⟩
    refine ⟨_, _, _, rfl, rfl, fun hb st' hI => ?_⟩
    obtain ⟨hall, rfl⟩ := hI
    rw [hl hb, List.take_of_length_le (by rw [spRows_len]; omega)] at hall
    conv => whnf
    rw [hok.2 hall]
end Go.Cod

namespace Go.Cod
open Go Go.Proofs
set_option maxRecDepth 10000

mutual
theorem spT_small : ∀ (t : T) (ov lv : Int), t.Small → ∀ s ∈ spT t ov lv, s.1.Small
  | .mk id kind text kids, ov, lv, h => by
    intro s hs
    rcases List.mem_cons.1 hs with rfl | hs
    · exact h
    · cases h with
      | mk g1 g2 g3 g4 g5 => exact spL_small kids _ _ g5 s hs
theorem spL_small : ∀ (ts : List T) (ov lv : Int), (∀ t ∈ ts, t.Small) → ∀ s ∈ spL ts ov lv, s.1.Small
  | [], _, _, _ => by simp [spL]
  | t :: ts, ov, lv, h => by
    intro s hs
    rcases List.mem_append.1 hs with hs | hs
    · exact spT_small t ov lv (h t (by simp)) s hs
    · exact spL_small ts ov lv (fun t ht => h t (by simp [ht])) s hs
end
theorem implTreeOk (t : T) (hs : t.Small) : Pure Tryd.prog 14 [.agg t.cells] (· = .bool (okT t)) := implTreeOk_pure t hs (spT_small t 0 1 hs)

def spZ : V := .agg [.int .i64 0, .str [], .str [], .nils, .int .i64 0, .int .i64 0]
def isId (id : Int) (s : Sp) : Bool := decide (idS s = id)
def spotR : Option Sp → V
  | some s => .tup [spV s, .bool true]
  | none => .tup [spV (.mk 0 [] [] [], 0, 0), .bool false]
def spotOf (t : T) (id : Int) : Option Sp := if okT t then (spT t 0 1).find? (isId id) else none

theorem treeSpotOf_pure (t : T) (hs : t.Small) (x : Int) : Pure Tryd.prog 47 [.agg t.cells, .int .i64 x] (· = spotR (spotOf t x)) := by
  have hio := implTreeOk t hs
  have hsp := treeSpots_full t
  have hcl := treeSpots1_full t hs _ (okbT_takes t)
  have hbox : boxT t = ⟨[t.cells], 4, true, true, true, .cell⟩ := rfl
  have hso : spotOf t x = if okT t then (spT t 0 1).find? (isId x) else none := rfl
  generalize okT t = okt at *
  generalize spotOf t x = so at *
  have hobt : okbT t = fun log vs => ∃ pre s suf, spT t 0 1 = pre ++ s :: suf ∧ log = spRows pre ∧ vs = [spV s] := rfl
  generalize okbT t = okb at *
  generalize spT t 0 1 = sps at *
  cases t with
  | mk id kind text kids =>
  refine pure_of_awp good Tryd.func47 rfl (by kernel_rfl) (by decide) ?_
  conv => whnf
  refine .inl (hio.mono ?_)
  rintro r rfl
  cases okt
  · conv => whnf
    rw [hso]; rfl
  conv => whnf
  refine .inr (.inl ⟨[], false, ?_⟩)
  conv => whnf
  refine hsp.mono ?_
  rintro o st' ⟨rfl, rfl⟩
  conv => whnf
  refine ⟨[4], false, okb, fun log st' => (sps.take log.length).find? (isId x) = none ∧ st' = [⟨[(T.mk id kind text kids).cells], 4, true, true, true, .cell⟩, ⟨[[.int .i64 x]], 1, true, true, true, .cell⟩, ⟨[spZ.cells], 6, true, true, true, .cell⟩, ⟨[[.bool false]], 1, true, true, true, .cell⟩, ⟨[(T.mk id kind text kids).cells], 4, false, true, true, .cell⟩], ?_⟩
  conv => whnf
  refine ⟨⟨by simp, rfl⟩, ?_, ?_⟩
  · rintro log vs st' ⟨hall, rfl⟩ ho
    rw [hobt] at ho
    obtain ⟨pre, s, suf, rfl, rfl, rfl⟩ := ho
    have htk : (pre ++ s :: suf).take (spRows pre).length = pre := by rw [spRows_len]; simp
    have htk1 : (pre ++ s :: suf).take (spRows pre ++ [[spV s]]).length = pre ++ [s] := by rw [List.length_append, spRows_len]; show List.take (pre.length + 1) _ = _; rw [List.take_append, List.take_of_length_le (by omega)]; simp
    rw [htk] at hall
    refine ⟨rfl, ?_⟩
    have hfs : isId x s = true → so = some s := fun h => by
      rw [hso, if_pos rfl, List.find?_append, hall]; simp [h]
    have hfn : isId x s = false → (pre ++ [s]).find? (isId x) = none := fun h => by
      rw [List.find?_append, hall]; simp [h]
    obtain ⟨⟨id', kind', text', kids'⟩, ov, lv⟩ := s
    have hid : isId x (T.mk id' kind' text' kids', ov, lv) = decide (id' = x) := rfl
    rw [hid] at hfs hfn
    conv => whnf
    by_cases a1 : id' = x
    · rw [eqB_t a1]
      conv => whnf
      rw [hfs (by simpa using a1)]
      rfl
    · rw [eqB_f a1]
      conv => whnf
      refine ⟨some [0, 1, 2, 3, 4], ?_⟩
      conv => whnf
      rw [htk1]
      exact ⟨hfn (by simpa using a1), rfl⟩
  · refine hcl.mono ?_
    rintro o st' ⟨r, b, log', rfl, rfl, hl⟩
    refine ⟨_, _, _, rfl, rfl, fun hb st' hI => ?_⟩
    obtain ⟨hall, rfl⟩ := hI
    rw [hl hb, List.take_of_length_le (by rw [spRows_len]; omega)] at hall
    conv => whnf
    rw [hso, if_pos rfl, hall]
    rfl

mutual
def overT : T → Int → Int → Int
  | .mk i _ _ kids, x, ov => if i = x then ov else overL kids x i
def overL : List T → Int → Int → Int
  | [], _, _ => -1
  | t :: ts, x, ov => if 0 ≤ overT t x ov then overT t x ov else overL ts x ov
end
def ovO : Option Sp → Int
  | some s => s.2.1
  | none => -1
mutual
theorem overT_eq : ∀ (t : T) (x ov lv : Int), 0 ≤ ov → (∀ i ∈ t.ids, 0 ≤ i) → overT t x ov = ovO ((spT t ov lv).find? (isId x)) ∧ (0 ≤ overT t x ov ↔ ((spT t ov lv).find? (isId x)).isSome = true)
  | .mk i k tx kids, x, ov, lv, h0, hi => by
    have e : isId x (T.mk i k tx kids, ov, lv) = decide (i = x) := rfl
    simp only [T.ids, List.mem_cons, forall_eq_or_imp] at hi
    simp only [overT, spT, List.find?_cons, e]
    by_cases h : i = x
    · simp [h, ovO, h0]
    · simpa [h] using overL_eq kids x i (IntKind.i64.wrap (lv + 1)) hi.1 hi.2
theorem overL_eq : ∀ (ts : List T) (x ov lv : Int), 0 ≤ ov → (∀ i ∈ T.idsL ts, 0 ≤ i) → overL ts x ov = ovO ((spL ts ov lv).find? (isId x)) ∧ (0 ≤ overL ts x ov ↔ ((spL ts ov lv).find? (isId x)).isSome = true)
  | [], x, ov, lv, h0, hi => by simp [overL, spL, ovO]
  | t :: ts, x, ov, lv, h0, hi => by
    simp only [T.idsL, List.mem_append] at hi
    obtain ⟨h1, h2⟩ := overT_eq t x ov lv h0 fun i h => hi i (.inl h)
    obtain ⟨h3, h4⟩ := overL_eq ts x ov lv h0 fun i h => hi i (.inr h)
    simp only [overL, spL, List.find?_append]
    by_cases h : 0 ≤ overT t x ov
    · rw [if_pos h]
      obtain ⟨s, e⟩ := Option.isSome_iff_exists.1 (h2.1 h)
      rw [e] at h1 ⊢
      simp [h1, ovO] at h ⊢
      exact h
    · rw [if_neg h]
      have : (spT t ov lv).find? (isId x) = none := by
        cases e : (spT t ov lv).find? (isId x) with
        | none => rfl
        | some s => exact absurd (h2.2 (by rw [e]; rfl)) h
      rw [this, Option.none_or]
      exact ⟨h3, h4⟩
end

theorem overL_drop (ts : List T) (i : Nat) (h : i < ts.length) (x ov : Int) : overL (ts.drop i) x ov = if 0 ≤ overT ts[i] x ov then overT ts[i] x ov else overL (ts.drop (i + 1)) x ov := by
  rw [List.drop_eq_getElem_cons h]; simp [overL]

theorem l2Over_pure1 (t : T) (hs : t.Small) (x ov : Int) (hT : ∀ t' ∈ t.kids, ∀ ov : Int, Pure Tryd.prog 56 [.agg t'.cells, .int .i64 x, .int .i64 ov] (· = .int .i64 (overT t' x ov))) :
    Pure Tryd.prog 56 [.agg t.cells, .int .i64 x, .int .i64 ov] (· = .int .i64 (overT t x ov)) := by
  cases hs with
  | @mk id kind text kids g1 g2 g3 g4 g5 =>
  simp only [T.kids] at hT
  have hlr := rows_len kids
  have hov : overT (.mk id kind text kids) x ov = if id = x then ov else overL kids x id := rfl
  refine pure_of_awp good Tryd.func56 rfl (by kernel_rfl) (by decide) ?_
  conv => whnf
  by_cases a1 : id = x
  · rw [eqB_t a1]
    conv => whnf
    rw [hov, if_pos a1]
  rw [eqB_f a1]
  conv => whnf
  rw [if_neg a1] at hov
  refine loop_intro (fun n fr st => ∃ i : Nat, n + i = kids.length ∧ st = [⟨[[.int .i64 id, .str kind, .str text, .sl (T.rows kids)]], 4, true, true, true, .cell⟩] ∧ overL kids x id = overL (kids.drop i) x id ∧ Holds fr [(1, .int .i64 x), (3, .ptr 0 0 0), (7, .int .i64 i)]) kids.length
    ⟨0, rfl, rfl, rfl, rfl, rfl, rfl, trivial⟩ ?_
  rintro n fr st ⟨i, hi, rfl, hx, hh⟩
  obtain ⟨fr, rfl⟩ := hh.split
  clear hh
  conv => whnf
  by_cases hlt : i < kids.length
  · rw [ltB_t (by omega)]
    conv => whnf
    refine ⟨by omega, T.rows kids, kids[i].cells, 4, rfl, rows_get kids i hlt, rfl, cells_len _, ?_⟩
    have hc := hT kids[i] (List.getElem_mem _) id
    rw [overL_drop kids i hlt] at hx
    generalize kids[i] = t at hc hx ⊢
    cases t with
    | mk id' kind' text' kids' =>
    conv => whnf
    refine ⟨_, .inl hc, ?_⟩
    by_cases a2 : 0 ≤ overT (.mk id' kind' text' kids') x id
    · conv => whnf
      rw [leB_t a2]
      conv => whnf
      rw [hov, hx, if_pos a2]
    · conv => whnf
      rw [leB_f (by omega)]
      conv => whnf
      rw [if_neg a2] at hx
      refine ⟨n - 1, by omega, i + 1, by omega, rfl, hx, rfl, rfl, ?_, trivial⟩
      show V.int .i64 (IntKind.i64.wrap (i + 1)) = _
      rw [wrap64 (by omega) (by omega)]; simp
  · rw [ltB_f (by omega)]
    conv => whnf
    rw [List.drop_of_length_le (by omega)] at hx
    rw [hov, hx]
    rfl
theorem l2Over_pure (t : T) (hs : t.Small) (x : Int) : ∀ ov : Int, Pure Tryd.prog 56 [.agg t.cells, .int .i64 x, .int .i64 ov] (· = .int .i64 (overT t x ov)) := by
  induction hs with
  | @mk id kind text kids g1 g2 g3 g4 g5 ih =>
    intro ov
    exact l2Over_pure1 _ (.mk g1 g2 g3 g4 g5) x ov ih

mutual
theorem plainT_ids : ∀ (t : T) (lv : Int), plainT t lv = true → ∀ i ∈ t.ids, 0 ≤ i
  | .mk id kind text kids, lv, h => by
    simp only [plainT, Bool.and_eq_true, decide_eq_true_eq] at h
    simp only [T.ids, List.mem_cons, forall_eq_or_imp]
    exact ⟨by omega, plainL_ids kids _ h.2⟩
theorem plainL_ids : ∀ (ts : List T) (lv : Int), plainL ts lv = true → ∀ i ∈ T.idsL ts, 0 ≤ i
  | [], _, _ => by simp [T.idsL]
  | t :: ts, lv, h => by
    simp only [plainL, Bool.and_eq_true] at h
    simp only [T.idsL, List.mem_append]
    rintro i (hi | hi)
    · exact plainT_ids t lv h.1 i hi
    · exact plainL_ids ts lv h.2 i hi
end
theorem okT_ids {t : T} (h : okT t = true) : ∀ i ∈ t.ids, 0 ≤ i := by
  unfold okT at h
  simp only [Bool.and_eq_true] at h
  exact plainT_ids t 1 h.1.1
def treeOver (t : T) (x : Int) : Int := ovO (spotOf t x)
end Go.Cod

namespace Go.Cod
open Go Go.Proofs
set_option maxRecDepth 10000

mutual
theorem spT_over : ∀ (t : T) (ov lv : Int), ∀ s ∈ spT t ov lv, (s.2.1 = ov ∧ s.2.2 = lv) ∨ ∃ s' ∈ spT t ov lv, idS s' = s.2.1 ∧ s.2.2 = IntKind.i64.wrap (s'.2.2 + 1)
  | .mk id kind text kids, ov, lv => by
    intro s hs
    rcases List.mem_cons.1 hs with rfl | hs
    · exact .inl ⟨rfl, rfl⟩
    · rcases spL_over kids id (IntKind.i64.wrap (lv + 1)) s hs with ⟨h1, h2⟩ | ⟨s', h1, h2⟩
      · exact .inr ⟨_, List.mem_cons_self, h1.symm, h2⟩
      · exact .inr ⟨s', List.mem_cons_of_mem _ h1, h2⟩
theorem spL_over : ∀ (ts : List T) (ov lv : Int), ∀ s ∈ spL ts ov lv, (s.2.1 = ov ∧ s.2.2 = lv) ∨ ∃ s' ∈ spL ts ov lv, idS s' = s.2.1 ∧ s.2.2 = IntKind.i64.wrap (s'.2.2 + 1)
  | [], _, _ => by simp [spL]
  | t :: ts, ov, lv => by
    intro s hs
    rcases List.mem_append.1 hs with hs | hs
    · rcases spT_over t ov lv s hs with h | ⟨s', h1, h2⟩
      · exact .inl h
      · exact .inr ⟨s', List.mem_append_left _ h1, h2⟩
    · rcases spL_over ts ov lv s hs with h | ⟨s', h1, h2⟩
      · exact .inl h
      · exact .inr ⟨s', List.mem_append_right _ h1, h2⟩
end
mutual
theorem spT_low : ∀ (t : T) (ov lv : Int), 0 ≤ lv → plainT t lv = true → ∀ s ∈ spT t ov lv, lv ≤ s.2.2
  | .mk id kind text kids, ov, lv, h0, h => by
    simp only [plainT, Bool.and_eq_true, Bool.not_eq_true', decide_eq_false_iff_not] at h
    have hw : IntKind.i64.wrap (lv + 1) = lv + 1 := wrap64 (by omega) (by omega)
    intro s hs
    rcases List.mem_cons.1 hs with rfl | hs
    · exact Int.le_refl _
    · rw [hw] at hs
      have := spL_low kids id (lv + 1) (by omega) h.2 s hs
      omega
theorem spL_low : ∀ (ts : List T) (ov lv : Int), 0 ≤ lv → plainL ts lv = true → ∀ s ∈ spL ts ov lv, lv ≤ s.2.2
  | [], _, _, _, _ => by simp [spL]
  | t :: ts, ov, lv, h0, h => by
    simp only [plainL, Bool.and_eq_true] at h
    intro s hs
    rcases List.mem_append.1 hs with hs | hs
    · exact spT_low t ov lv h0 h.1 s hs
    · exact spL_low ts ov lv h0 h.2 s hs
end
mutual
theorem plainT_pos : ∀ (t : T) (lv : Int), plainT t lv = true → ∀ i ∈ t.ids, 1 ≤ i
  | .mk id kind text kids, lv, h => by
    simp only [plainT, Bool.and_eq_true, decide_eq_true_eq] at h
    simp only [T.ids, List.mem_cons, forall_eq_or_imp]
    exact ⟨by omega, plainL_pos kids _ h.2⟩
theorem plainL_pos : ∀ (ts : List T) (lv : Int), plainL ts lv = true → ∀ i ∈ T.idsL ts, 1 ≤ i
  | [], _, _ => by simp [T.idsL]
  | t :: ts, lv, h => by
    simp only [plainL, Bool.and_eq_true] at h
    simp only [T.idsL, List.mem_append]
    rintro i (hi | hi)
    · exact plainT_pos t lv h.1 i hi
    · exact plainL_pos ts lv h.2 i hi
end
theorem nodup_inj {l : List Sp} (h : (l.map idS).Nodup) {s s' : Sp} (h1 : s ∈ l) (h2 : s' ∈ l) (e : idS s = idS s') : s = s' := by
  induction l with
  | nil => simp at h1
  | cons a l ih =>
    simp only [List.map_cons, List.nodup_cons, List.mem_map, not_exists, not_and] at h
    rcases List.mem_cons.1 h1 with q1 | q1
    · rcases List.mem_cons.1 h2 with q2 | q2
      · rw [q1, q2]
      · exact absurd (by rw [← e, q1]) (h.1 s' q2)
    · rcases List.mem_cons.1 h2 with q2 | q2
      · exact absurd (by rw [e, q2]) (h.1 s q1)
      · exact ih h.2 q1 q2
theorem find_of {l : List Sp} (h : (l.map idS).Nodup) {s : Sp} (h1 : s ∈ l) : l.find? (isId (idS s)) = some s := by
  cases e : l.find? (isId (idS s)) with
  | none => exact absurd (List.find?_eq_none.1 e s h1) (by simp [isId])
  | some s' =>
    have h2 := List.mem_of_find?_eq_some e
    have h3 := List.find?_some e
    simp [isId] at h3
    rw [nodup_inj h h2 h1 h3]

def lvO : Option Sp → Int
  | some s => s.2.2
  | none => 0
def treeLevel (t : T) (x : Int) : Int := lvO (spotOf t x)

/-- One step up. -/
theorem up_step {t : T} (h : okT t = true) {x : Int} {s : Sp} (hx : spotOf t x = some s) :
    overT t x 0 = s.2.1 ∧ 1 ≤ s.2.2 ∧ s.2.2 ≤ 6 ∧ 1 ≤ x ∧ 0 ≤ s.2.1 ∧ ((s.2.1 = 0 ∧ s.2.2 = 1) ∨ ∃ s', spotOf t s.2.1 = some s' ∧ s'.2.2 + 1 = s.2.2 ∧ 1 ≤ s.2.1) := by
  have hall := (okT_iff t).1 h
  have hpl : plainT t 1 = true := by unfold okT at h; simp only [Bool.and_eq_true] at h; exact h.1.1
  have hso : ∀ y, spotOf t y = (spT t 0 1).find? (isId y) := fun y => by unfold spotOf; rw [if_pos h]
  rw [hso] at hx
  have hm := List.mem_of_find?_eq_some hx
  have hi := List.find?_some hx
  simp [isId] at hi
  have h1 := (overT_eq t x 0 1 (by omega) (okT_ids h)).1
  rw [hx] at h1
  have h2 := spT_low t 0 1 (by omega) hpl s hm
  have h3 := (hall.1 s hm).1
  have hids := spT_ids t 0 1
  have hp : ∀ s' ∈ spT t 0 1, 1 ≤ idS s' := fun s' hs' => plainT_pos t 1 hpl _ (by rw [← hids]; exact List.mem_map_of_mem hs')
  have h4 := hp s hm
  rw [hi] at h4
  rcases spT_over t 0 1 s hm with ⟨e1, e2⟩ | ⟨s', m', e1, e2⟩
  · exact ⟨h1, h2, h3, h4, by omega, .inl ⟨e1, e2⟩⟩
  · have h5 := spT_low t 0 1 (by omega) hpl s' m'
    have h6 := (hall.1 s' m').1
    rw [wrap64 (by omega) (by omega)] at e2
    have h7 := hp s' m'
    refine ⟨h1, h2, h3, h4, by omega, .inr ⟨s', ?_, by omega, by omega⟩⟩
    rw [hso, ← e1]
    exact find_of hall.2.1 m'

end Go.Cod

namespace Go.Cod
open Go Go.Proofs
set_option maxRecDepth 10000

theorem implTreeOver_pure (t : T) (hs : t.Small) (x : Int) : Pure Tryd.prog 30 [.agg t.cells, .int .i64 x] (· = .int .i64 (treeOver t x)) := by
  have h1 := treeSpotOf_pure t hs x
  have h2 : treeOver t x = ovO (spotOf t x) := rfl
  generalize treeOver t x = r at *
  generalize spotOf t x = so at *
  cases t with
  | mk id kind text kids =>
  refine pure_of_awp good Tryd.func30 rfl (by kernel_rfl) (by decide) ?_
  conv => whnf
  refine .inl (h1.mono ?_)
  rintro r rfl
  cases so with
  | none =>
    conv => whnf
    rw [h2]; rfl
  | some s =>
    obtain ⟨⟨id', kind', text', kids'⟩, ov, lv⟩ := s
    conv => whnf
    rw [h2]; rfl
end Go.Cod

namespace Go.Cod
open Go Go.Proofs
set_option maxRecDepth 10000

/-- A tree whose slices lie in a pool: block and capacity of what is in a thing. -/
inductive LT where
  | mk (id : Int) (kind text : List UInt8) (h : Option (Nat × Nat)) (kids : List LT)

def hdV : Option (Nat × Nat) → Nat → V
  | none, _ => .sl []
  | some (b, c), n => .dref b n c
def LT.cells : LT → List V
  | .mk id kind text h kids => [.int .i64 id, .str kind, .str text, hdV h kids.length]
def LT.rows (ls : List LT) : List (List V) := ls.map LT.cells
mutual
def LT.erase : LT → T
  | .mk id kind text _ kids => .mk id kind text (LT.eraseL kids)
def LT.eraseL : List LT → List T
  | [] => []
  | l :: ls => l.erase :: LT.eraseL ls
end
/-- The blocks of a list and of all in it. -/
def rootE : Option (Nat × Nat) → List LT → List (List V)
  | none, _ => []
  | some (b, c), kids => [ent b c 4 (LT.rows kids)]
mutual
def LT.ents : LT → List (List V)
  | .mk _ _ _ h kids => LT.entsL kids ++ rootE h kids
def LT.entsL : List LT → List (List V)
  | [] => []
  | l :: ls => l.ents ++ LT.entsL ls
end
mutual
/-- Where there is no block nothing is in it. -/
def LT.Wf : LT → Prop
  | .mk _ _ _ h kids => (h = none → kids = []) ∧ LT.WfL kids
def LT.WfL : List LT → Prop
  | [] => True
  | l :: ls => l.Wf ∧ LT.WfL ls
end
theorem LT.eraseL_eq (ls : List LT) : LT.eraseL ls = ls.map LT.erase := by
  induction ls with
  | nil => rfl
  | cons l ls ih => simp [LT.eraseL, ih]
theorem LT.entsL_eq (ls : List LT) : LT.entsL ls = (ls.map LT.ents).flatten := by
  induction ls with
  | nil => rfl
  | cons l ls ih => simp [LT.entsL, ih]
theorem LT.entsL_append (a b : List LT) : LT.entsL (a ++ b) = LT.entsL a ++ LT.entsL b := by simp [LT.entsL_eq]
theorem LT.WfL_iff (ls : List LT) : LT.WfL ls ↔ ∀ l ∈ ls, l.Wf := by
  induction ls with
  | nil => simp [LT.WfL]
  | cons l ls ih => simp [LT.WfL, ih]
theorem LT.eraseL_len (ls : List LT) : (LT.eraseL ls).length = ls.length := by simp [LT.eraseL_eq]
theorem LT.rows_len (ls : List LT) : (LT.rows ls).length = ls.length := by simp [LT.rows]
theorem LT.cells_len (l : LT) : l.cells.length = 4 := by cases l; rfl
theorem LT.rows_get (ls : List LT) (i : Nat) (h : i < ls.length) : (LT.rows ls)[i]? = some ls[i].cells := by simp [LT.rows, h]
theorem hdV_ok (h : Option (Nat × Nat)) (n : Nat) : (hdV h n).leaf = true ∧ (hdV h n).clean 0 = true ∧ (hdV h n).flat = true := by
  rcases h with _ | ⟨b, c⟩ <;> exact ⟨rfl, rfl, rfl⟩
theorem T.cells_ok (t : T) : V.clean.cleanL 0 t.cells = true ∧ ∀ x ∈ t.cells, x.leaf = true := by
  cases t with
  | mk id kind text kids => exact ⟨rfl, by simp [T.cells, V.leaf]⟩
theorem T.rows_ok (ts : List T) : V.clean.cleanLL 0 (T.rows ts) = true ∧ ∀ e ∈ T.rows ts, ∀ x ∈ e, x.leaf = true := by
  rw [T.rows_eq]
  refine ⟨?_, fun e he => ?_⟩
  · rw [cleanLL_iff]
    intro e he
    obtain ⟨t, _, rfl⟩ := List.mem_map.1 he
    exact t.cells_ok.1
  · obtain ⟨t, _, rfl⟩ := List.mem_map.1 he
    exact t.cells_ok.2

mutual
/-- As others see it. -/
theorem LT.view {es : List (List V)} : ∀ (l : LT), l.Wf → (∀ e ∈ l.ents, e ∈ es) → ViewL es l.cells l.erase.cells
  | .mk id kind text h kids, hw, he => by
    simp only [LT.Wf] at hw
    simp only [LT.ents, List.mem_append] at he
    have hk := LT.viewL kids hw.2 (fun e h => he e (.inl h))
    simp only [LT.cells, LT.erase, T.cells]
    refine ⟨rfl, fun i x y a b => ?_⟩
    match i, a, b with
    | 0, a, b => simp at a b; subst a; subst b; exact .same _
    | 1, a, b => simp at a b; subst a; subst b; exact .same _
    | 2, a, b => simp at a b; subst a; subst b; exact .same _
    | 3, a, b =>
      simp at a b; subst a; subst b
      rcases h with _ | ⟨b, c⟩
      · rw [hw.1 rfl]; exact .same _
      · refine .dref (sz := 4) (rows := LT.rows kids) (he _ (.inr (by simp [rootE]))) (LT.rows_len kids).symm (by rw [T.rows_eq, List.length_map, LT.eraseL_len, LT.rows_len]) (T.rows_ok _).1 (T.rows_ok _).2 (fun i r r' p q => ?_) (fun i r r' j x y p q u v => ?_)
        · simp only [LT.rows, List.getElem?_map, Option.map_eq_some_iff] at p
          obtain ⟨l, _, rfl⟩ := p
          rw [T.rows_eq, List.getElem?_map, Option.map_eq_some_iff] at q
          obtain ⟨t, _, rfl⟩ := q
          rw [LT.cells_len, _root_.Go.Cod.cells_len]
        · simp only [LT.rows, List.getElem?_map, Option.map_eq_some_iff] at p
          obtain ⟨l, hl, rfl⟩ := p
          rw [T.rows_eq, LT.eraseL_eq, List.map_map, List.getElem?_map, hl] at q
          simp only [Option.map_some, Option.some.injEq] at q
          subst q
          exact (hk l (List.mem_of_getElem? hl)).2 j x y u (by simpa [Function.comp] using v)
    | i + 4, a, b => simp at a
theorem LT.viewL {es : List (List V)} : ∀ (ls : List LT), LT.WfL ls → (∀ e ∈ LT.entsL ls, e ∈ es) → ∀ l ∈ ls, ViewL es l.cells l.erase.cells
  | [], _, _, l, h => by simp at h
  | l :: ls, hw, he, l', h => by
    simp only [LT.WfL] at hw
    simp only [LT.entsL, List.mem_append] at he
    have h0 := LT.view l hw.1 fun e h => he e (.inl h)
    rcases List.mem_cons.1 h with h | h
    · rw [h]; exact h0
    · exact LT.viewL ls hw.2 (fun e h => he e (.inr h)) l' h
end
theorem LT.viewA {es : List (List V)} (l : LT) (hw : l.Wf) (he : ∀ e ∈ l.ents, e ∈ es) : View es (.agg l.cells) (.agg l.erase.cells) := .agg (LT.view l hw he).1 (LT.view l hw he).2

/-- Slices made so far, and what is nothing yet. -/
def lmix (ls : List LT) (n : Nat) : List (List V) := LT.rows ls ++ List.replicate (n - ls.length) zrow
theorem lmix_get (ls : List LT) (n : Nat) (h : ls.length < n) : (lmix ls n)[ls.length]? = some zrow := by
  unfold lmix
  rw [List.getElem?_append_right (by rw [LT.rows_len]; exact Nat.le_refl _), LT.rows_len, Nat.sub_self, List.getElem?_replicate, if_pos (by omega)]
theorem lmix_set (ls : List LT) (n : Nat) (h : ls.length < n) (l : LT) : (lmix ls n).set ls.length l.cells = lmix (ls ++ [l]) n := by
  unfold lmix
  rw [List.set_append_right _ _ (by rw [LT.rows_len]; exact Nat.le_refl _), LT.rows_len, Nat.sub_self, show n - ls.length = (n - (ls ++ [l]).length) + 1 by simp; omega, List.replicate_succ, List.set_cons_zero]
  simp [LT.rows]
theorem lmix_all (ls : List LT) (n : Nat) (h : ls.length = n) : lmix ls n = LT.rows ls := by
  unfold lmix
  rw [h, Nat.sub_self]; simp

/-- A tree in one's own memory. -/
def TreeAcc (t : T) (es : List (List V)) (o : Out) (st' : St) : Prop := ∃ b c ls, LT.eraseL ls = t.kids ∧ LT.WfL ls ∧ (∃ id kind text, t = .mk id kind text t.kids ∧ o = .ret (.agg [.int .i64 id, .str kind, .str text, .dref b ls.length c])) ∧ st' = [poolO (es ++ (LT.entsL ls ++ [ent b c 4 (LT.rows ls)]))]
theorem toTreeS_acc (ts : List T) (hl : ts.length ≤ 1048576) (es : List (List V)) (hT : ∀ t ∈ ts, ∀ es, Full Tryd.prog noY 24 [.agg t.cells] [poolO es] (TreeAcc t es)) :
    Full Tryd.prog noY 58 [.sl (T.rows ts)] [poolO es] fun o st' => ∃ b c ls, LT.eraseL ls = ts ∧ LT.WfL ls ∧ o = .ret (.dref b ls.length c) ∧ st' = [poolO (es ++ (LT.entsL ls ++ [ent b c 4 (LT.rows ls)]))] := by
  have hlr := Go.Cod.rows_len ts
  refine Full.absorb (R := fun o st' => ∃ ls, LT.eraseL ls = ts ∧ LT.WfL ls ∧ o = .ret (.own 1) ∧ st' = [poolO (es ++ LT.entsL ls), ⟨LT.rows ls, 4, true, true, false, .cell⟩]) ?_ ?_
  · refine full_of_awp good Tryd.func58 rfl (by kernel_rfl) (by decide) ?_
    conv => whnf
    refine ⟨by omega, by omega, ?_⟩
    conv => whnf
    refine ⟨by show (Int.toNat _) * 64 ≤ _; omega, by omega, ?_⟩
    conv => whnf
    refine loop_drop (fun n fr st => ∃ ls : List LT, n + ls.length = ts.length ∧ LT.eraseL ls = ts.take ls.length ∧ LT.WfL ls ∧ st = [poolO (es ++ LT.entsL ls), ⟨lmix ls ts.length, 4, true, true, false, .cell⟩] ∧ Holds fr [(0, .sl (T.rows ts)), (3, .own 1), (4, .int .i64 ls.length)]) ts.length none
      ⟨[], rfl, rfl, trivial, by simp [lmix, hlr, zrow, V.cells, LT.entsL, LT.rows]; rfl, rfl, rfl, rfl, trivial⟩ ?_
    rintro n fr st ⟨ls, hi, her, hwf, rfl, hh⟩
    obtain ⟨fr, rfl⟩ := hh.split
    clear hh
    conv => whnf
    by_cases hlt : ls.length < ts.length
    · rw [ltB_t (by omega)]
      conv => whnf
      refine ⟨by omega, T.rows ts, ts[ls.length].cells, 4, rfl, Go.Cod.rows_get ts ls.length hlt, rfl, Go.Cod.cells_len _, ?_⟩
      have hc := hT ts[ls.length] (List.getElem_mem _) (es ++ LT.entsL ls)
      have hm := lmix_set ls ts.length hlt
      have hmg := lmix_get ls ts.length hlt
      have htk : ts.take (ls.length + 1) = ts.take ls.length ++ [ts[ls.length]] := by rw [List.take_succ_eq_append_getElem hlt]
      generalize ts[ls.length] = t at hc hm htk
      cases t with
      | mk id kind text kids =>
      conv => whnf
      refine .inr (.inl ⟨[0], false, ?_⟩)
      conv => whnf
      refine hc.mono ?_
      rintro o st' ⟨b, c, ks, hks, hkw, ⟨id', kind', text', ht, rfl⟩, rfl⟩
      simp only [T.kids] at hks ht
      obtain ⟨rfl, rfl, rfl, _⟩ := T.mk.inj ht
      conv => whnf
      refine ⟨by omega, lmix ls ts.length, zrow, 4, rfl, hmg, rfl, rfl, ?_⟩
      conv => whnf
      refine AtRow_intro zrow hmg ?_
      conv => whnf
      have hm' := hm (.mk id kind text (some (b, c)) ks)
      refine ⟨n - 1, by omega, none, ls ++ [.mk id kind text (some (b, c)) ks], by simp; omega, ?_, ?_, ?_, rfl, rfl, ?_, trivial⟩
      · rw [List.length_append, List.length_singleton, htk, LT.eraseL_eq, List.map_append, ← LT.eraseL_eq, her]
        simp [LT.erase, hks]
      · rw [LT.WfL_iff] at hwf ⊢
        intro l hl
        rcases List.mem_append.1 hl with hl | hl
        · exact hwf l hl
        · simp at hl; subst hl; exact ⟨by simp, hkw⟩
      · rw [← hm', LT.entsL_append]
        simp only [LT.entsL, LT.ents, rootE, List.append_nil, List.append_assoc]
        rfl
      · show V.int .i64 (IntKind.i64.wrap (ls.length + 1)) = _
        rw [wrap64 (by omega) (by omega)]; simp
    · rw [ltB_f (by omega)]
      conv => whnf
      have he : ls.length = ts.length := by
        have : (LT.eraseL ls).length = (ts.take ls.length).length := by rw [her]
        rw [LT.eraseL_len] at this; simp at this; omega
      refine ⟨[1], false, ?_⟩
      conv => whnf
      refine ⟨ls, ?_, hwf, rfl, ?_⟩
      · rw [her, he]; simp
      · rw [lmix_all _ _ he]; rfl
  · rintro o st' ⟨ls, h1, h2, rfl, rfl⟩
    refine ⟨.own 1, [poolO (es ++ LT.entsL ls)], 0, es ++ LT.entsL ls, LT.rows ls, 4, rfl, rfl, rfl, Nat.le_refl _, by simp [poolO], fun b c => ⟨rfl, b, c, ls, h1, h2, ?_, ?_⟩⟩
    · rw [LT.rows_len]; rfl
    · simp
theorem toTree_acc1 (t : T) (es : List (List V)) (hL : Full Tryd.prog noY 58 [.sl (T.rows t.kids)] [poolO es] fun o st' => ∃ b c ls, LT.eraseL ls = t.kids ∧ LT.WfL ls ∧ o = .ret (.dref b ls.length c) ∧ st' = [poolO (es ++ (LT.entsL ls ++ [ent b c 4 (LT.rows ls)]))]) :
    Full Tryd.prog noY 24 [.agg t.cells] [poolO es] (TreeAcc t es) := by
  cases t with
  | mk id kind text kids =>
  simp only [T.kids] at hL
  refine full_of_awp good Tryd.func24 rfl (by kernel_rfl) (by decide) ?_
  conv => whnf
  refine .inr (.inl ⟨[0], false, ?_⟩)
  conv => whnf
  refine hL.mono ?_
  rintro o st' ⟨b, c, ls, h1, h2, rfl, rfl⟩
  conv => whnf
  refine ⟨[], false, ?_⟩
  conv => whnf
  exact ⟨b, c, ls, h1, h2, ⟨id, kind, text, rfl, rfl⟩, rfl⟩
theorem toTree_acc (t : T) (ht : t.Small) : ∀ es, Full Tryd.prog noY 24 [.agg t.cells] [poolO es] (TreeAcc t es) := by
  induction ht with
  | @mk id kind text kids g1 g2 g3 g4 g5 ih => exact fun es => toTree_acc1 _ es (toTreeS_acc kids g4 es ih)
end Go.Cod

namespace Go.Cod
open Go Go.Proofs
set_option maxRecDepth 10000

def digs (k : Nat) (acc : List UInt8) : List UInt8 := if h : k = 0 then acc else digs (k / 10) (UInt8.ofNat (48 + k % 10) :: acc)
termination_by k
decreasing_by omega
def mt (k : Int) : List UInt8 := if k ≤ 0 then [109, 48] else 109 :: digs k.toNat []

end Go.Cod

namespace Go.Cod
open Go Go.Proofs
set_option maxRecDepth 10000

/- Things counted; marked. -/
mutual
def LT.size : LT → Nat
  | .mk _ _ _ _ kids => 1 + LT.sizeL kids
def LT.sizeL : List LT → Nat
  | [] => 0
  | l :: ls => l.size + LT.sizeL ls
end
mutual
def LT.marked : LT → Int → LT
  | .mk _ _ _ h kids, k => .mk k (mt (k + 1)) (mt (k + 2)) h (LT.markedL kids (k + 3))
def LT.markedL : List LT → Int → List LT
  | [], _ => []
  | l :: ls, k => l.marked k :: LT.markedL ls (k + 3 * l.size)
end
mutual
def LT.labs : LT → List Nat
  | .mk _ _ _ h kids => LT.labsL kids ++ (match h with | none => [] | some (b, _) => [b])
def LT.labsL : List LT → List Nat
  | [] => []
  | l :: ls => l.labs ++ LT.labsL ls
end
theorem LT.size_pos (l : LT) : 1 ≤ l.size := by cases l; simp [LT.size]
theorem LT.sizeL_append (a b : List LT) : LT.sizeL (a ++ b) = LT.sizeL a + LT.sizeL b := by
  induction a with
  | nil => simp [LT.sizeL]
  | cons l ls ih => simp [LT.sizeL, ih]; omega
theorem LT.labsL_append (a b : List LT) : LT.labsL (a ++ b) = LT.labsL a ++ LT.labsL b := by
  induction a with
  | nil => rfl
  | cons l ls ih => simp [LT.labsL, ih]
theorem LT.markedL_len : ∀ (ls : List LT) (k : Int), (LT.markedL ls k).length = ls.length
  | [], _ => rfl
  | l :: ls, k => by simp [LT.markedL, LT.markedL_len ls]
theorem LT.markedL_append : ∀ (a b : List LT) (k : Int), LT.markedL (a ++ b) k = LT.markedL a k ++ LT.markedL b (k + 3 * LT.sizeL a)
  | [], b, k => by simp [LT.markedL, LT.sizeL]
  | l :: a, b, k => by
    simp only [List.cons_append, LT.markedL, LT.markedL_append a b, LT.sizeL]
    congr 3
    push_cast; omega
mutual
theorem LT.labs_marked : ∀ (l : LT) (k : Int), (l.marked k).labs = l.labs
  | .mk _ _ _ h kids, k => by simp only [LT.marked, LT.labs, LT.labsL_marked kids]
theorem LT.labsL_marked : ∀ (ls : List LT) (k : Int), LT.labsL (LT.markedL ls k) = LT.labsL ls
  | [], _ => rfl
  | l :: ls, k => by simp only [LT.markedL, LT.labsL, LT.labs_marked l, LT.labsL_marked ls]
end
mutual
theorem LT.wf_marked : ∀ (l : LT) (k : Int), l.Wf → (l.marked k).Wf
  | .mk _ _ _ h kids, k, hw => by
    simp only [LT.marked, LT.Wf] at hw ⊢
    refine ⟨fun e => by rw [hw.1 e]; rfl, LT.wfL_marked kids _ hw.2⟩
theorem LT.wfL_marked : ∀ (ls : List LT) (k : Int), LT.WfL ls → LT.WfL (LT.markedL ls k)
  | [], _, _ => trivial
  | l :: ls, k, hw => by
    simp only [LT.markedL, LT.WfL] at hw ⊢
    exact ⟨LT.wf_marked l k hw.1, LT.wfL_marked ls _ hw.2⟩
end
mutual
theorem LT.labs_ents : ∀ (l : LT), l.ents.map labOf = l.labs
  | .mk _ _ _ h kids => by
    simp only [LT.ents, LT.labs, List.map_append, LT.labsL_ents kids]
    rcases h with _ | ⟨b, c⟩ <;> rfl
theorem LT.labsL_ents : ∀ (ls : List LT), (LT.entsL ls).map labOf = LT.labsL ls
  | [] => rfl
  | l :: ls => by simp only [LT.entsL, LT.labsL, List.map_append, LT.labs_ents l, LT.labsL_ents ls]
end
/- Trees, marked. -/
mutual
def T.size : T → Nat
  | .mk _ _ _ kids => 1 + T.sizeL kids
def T.sizeL : List T → Nat
  | [] => 0
  | t :: ts => t.size + T.sizeL ts
end
mutual
def T.marked : T → Int → T
  | .mk _ _ _ kids, k => .mk k (mt (k + 1)) (mt (k + 2)) (T.markedL kids (k + 3))
def T.markedL : List T → Int → List T
  | [], _ => []
  | t :: ts, k => t.marked k :: T.markedL ts (k + 3 * t.size)
end
mutual
theorem LT.size_erase : ∀ (l : LT), l.erase.size = l.size
  | .mk _ _ _ _ kids => by simp only [LT.erase, T.size, LT.size, LT.sizeL_erase kids]
theorem LT.sizeL_erase : ∀ (ls : List LT), T.sizeL (LT.eraseL ls) = LT.sizeL ls
  | [] => rfl
  | l :: ls => by simp only [LT.eraseL, T.sizeL, LT.sizeL, LT.size_erase l, LT.sizeL_erase ls]
end
mutual
theorem LT.erase_marked : ∀ (l : LT) (k : Int), (l.marked k).erase = l.erase.marked k
  | .mk _ _ _ _ kids, k => by simp only [LT.erase, LT.marked, T.marked, LT.eraseL_marked kids]
theorem LT.eraseL_marked : ∀ (ls : List LT) (k : Int), LT.eraseL (LT.markedL ls k) = T.markedL (LT.eraseL ls) k
  | [], _ => rfl
  | l :: ls, k => by simp only [LT.eraseL, LT.markedL, T.markedL, LT.erase_marked l, LT.eraseL_marked ls, LT.size_erase]
end

theorem putEnt_mem {b c s : Nat} {rows rows' : List (List V)} {es : List (List V)} (h : ent b c s rows ∈ es) : ent b c s rows' ∈ putEnt b rows' es := by
  unfold putEnt
  exact List.mem_map.2 ⟨_, h, by rw [if_pos (labOf_ent b c s rows)]; rfl⟩
theorem putEnt_other {b : Nat} {rows' : List (List V)} {es : List (List V)} {e : List V} (h : e ∈ es) (hb : labOf e ≠ b) : e ∈ putEnt b rows' es := by
  unfold putEnt
  exact List.mem_map.2 ⟨e, h, by rw [if_neg hb]⟩

/-- The slice of what is in a thing, as it is handed on. -/
def hdS : Option (Nat × Nat) → Nat → V
  | none, _ => .sl []
  | some (b, c), n => .dref b n c
/-- Pools of which no block is another one, with a list's blocks. -/
def MarkR (h : Option (Nat × Nat)) (ls : List LT) (k : Int) (es : List (List V)) (o : Out) (st' : St) : Prop :=
  ∃ es', o = .ret (.int .i64 (k + 3 * LT.sizeL ls)) ∧ st' = [poolO es'] ∧ (∀ e ∈ LT.entsL (LT.markedL ls k) ++ rootE h (LT.markedL ls k), e ∈ es') ∧ ∀ e ∈ es, labOf e ∉ (LT.entsL ls ++ rootE h ls).map labOf → e ∈ es'

end Go.Cod

namespace Go.Cod
open Go Go.Proofs
set_option maxRecDepth 10000

theorem LT.entsL_take (ls : List LT) (i : Nat) (h : i < ls.length) : LT.entsL (ls.drop i) = ls[i].ents ++ LT.entsL (ls.drop (i + 1)) := by
  rw [List.drop_eq_getElem_cons h]; rfl
theorem LT.sizeL_take (ls : List LT) (i : Nat) (h : i < ls.length) : LT.sizeL (ls.take (i + 1)) = LT.sizeL (ls.take i) + ls[i].size := by
  rw [List.take_succ_eq_append_getElem h, LT.sizeL_append]; simp [LT.sizeL]
theorem LT.sizeL_le (ls : List LT) (i : Nat) : LT.sizeL (ls.take i) ≤ LT.sizeL ls := by
  conv => rhs; rw [← List.take_append_drop i ls, LT.sizeL_append]
  omega
theorem LT.markedL_take (ls : List LT) (i : Nat) (h : i < ls.length) (k : Int) : LT.markedL (ls.take (i + 1)) k = LT.markedL (ls.take i) k ++ [ls[i].marked (k + 3 * LT.sizeL (ls.take i))] := by
  rw [List.take_succ_eq_append_getElem h, LT.markedL_append]; rfl
theorem LT.len_sizeL : ∀ ls : List LT, ls.length ≤ LT.sizeL ls
  | [] => by simp
  | l :: ls => by have := l.size_pos; have := LT.len_sizeL ls; simp [LT.sizeL]; omega
theorem set_get {rows : List (List V)} {i : Nat} {x : List V} (h : rows[i]? = some x) (y : List V) : (rows.set i y)[i]? = some y := by
  have := (List.getElem?_eq_some_iff.1 h).1
  simp [this]
/-- Marked up to a place. -/
def mixM (ls : List LT) (k : Int) (i : Nat) : List LT := LT.markedL (ls.take i) k ++ ls.drop i
theorem mixM_get (ls : List LT) (k : Int) (i : Nat) (h : i < ls.length) : (LT.rows (mixM ls k i))[i]? = some ls[i].cells := by
  unfold LT.rows mixM
  rw [List.map_append, List.getElem?_append_right (by simp [LT.markedL_len]; omega)]
  simp [LT.markedL_len, Nat.min_eq_left (Nat.le_of_lt h), h]
theorem mixM_set (ls : List LT) (k : Int) (i : Nat) (h : i < ls.length) : (LT.rows (mixM ls k i)).set i (ls[i].marked (k + 3 * LT.sizeL (ls.take i))).cells = LT.rows (mixM ls k (i + 1)) := by
  unfold LT.rows mixM
  have hl : ((LT.markedL (ls.take i) k).map LT.cells).length = i := by simp [LT.markedL_len]; omega
  rw [List.map_append, List.set_append_right _ _ (by omega), hl, Nat.sub_self, List.drop_eq_getElem_cons h, List.map_cons, List.set_cons_zero, LT.markedL_take ls i h k]
  simp

end Go.Cod

namespace Go.Cod
open Go Go.Proofs
set_option maxRecDepth 10000

/-- What is in it, marked. -/
def LT.markedK : LT → Int → LT
  | .mk id kind text h kids, k => .mk id kind text h (LT.markedL kids k)
def LT.kids : LT → List LT
  | .mk _ _ _ _ kids => kids

theorem T.sizeL_append (a b : List T) : T.sizeL (a ++ b) = T.sizeL a + T.sizeL b := by
  induction a with
  | nil => simp [T.sizeL]
  | cons l ls ih => simp [T.sizeL, ih]; omega
theorem T.markedL_get : ∀ (ts : List T) (k : Int) (i : Nat) (h : i < ts.length), (T.markedL ts k)[i]? = some (ts[i].marked (k + 3 * T.sizeL (ts.take i)))
  | t :: ts, k, 0, _ => by simp [T.markedL, T.sizeL]
  | t :: ts, k, i + 1, h => by
    simp only [T.markedL, List.getElem?_cons_succ, List.getElem_cons_succ, List.take_succ_cons, T.sizeL]
    rw [T.markedL_get ts _ i (by simpa using h)]
    congr 2
    push_cast; omega
theorem T.markedL_len : ∀ (ts : List T) (k : Int), (T.markedL ts k).length = ts.length
  | [], _ => rfl
  | t :: ts, k => by simp [T.markedL, T.markedL_len ts]
theorem T.sizeL_take (ls : List T) (i : Nat) (h : i < ls.length) : T.sizeL (ls.take (i + 1)) = T.sizeL (ls.take i) + ls[i].size := by
  rw [List.take_succ_eq_append_getElem h, T.sizeL_append]; simp [T.sizeL]
theorem T.sizeL_le (ls : List T) (i : Nat) : T.sizeL (ls.take i) ≤ T.sizeL ls := by
  conv => rhs; rw [← List.take_append_drop i ls, T.sizeL_append]
  omega

end Go.Cod

namespace Go.Cod
open Go Go.Proofs
set_option maxRecDepth 10000

theorem T.rows_take (ts : List T) (i : Nat) (h : i < ts.length) : T.rows (ts.take (i + 1)) = T.rows (ts.take i) ++ [ts[i].cells] := by
  rw [T.rows_eq, T.rows_eq, List.take_succ_eq_append_getElem h, List.map_append]; rfl
theorem T.rows_wid (ts : List T) : ∀ m ∈ T.rows ts, m.length = 4 := by
  intro m hm
  rw [T.rows_eq] at hm
  obtain ⟨t, _, rfl⟩ := List.mem_map.1 hm
  exact Go.Cod.cells_len t
theorem l2Copy_pure1 (t : T) (ht : t.Small) (hT : ∀ t' ∈ t.kids, Pure Tryd.prog 95 [.agg t'.cells] (· = .agg t'.cells)) :
    Pure Tryd.prog 95 [.agg t.cells] (· = .agg t.cells) := by
  cases ht with
  | @mk id kind text kids g1 g2 g3 g4 g5 =>
  simp only [T.kids] at hT
  have hlr := Go.Cod.rows_len kids
  refine pure_of_awp good Tryd.func95 rfl (by kernel_rfl) (by decide) ?_
  conv => whnf
  refine loop_drop (fun n fr st => ∃ i : Nat, n + i = kids.length ∧ Holds fr [(1, .ptr 0 0 0), (2, .ptr 1 0 0), (3, .ptr 2 0 0), (4, .int .i64 i)] ∧
      ((i = 0 ∧ st = [⟨[[.int .i64 id, .str kind, .str text, .sl (T.rows kids)]], 4, true, true, true, .cell⟩, ⟨[zrow], 4, true, true, true, .cell⟩, ⟨[[.int .i64 id, .str kind, .str text, .nils]], 4, true, true, true, .cell⟩]) ∨
       (0 < i ∧ st = [⟨[[.int .i64 id, .str kind, .str text, .sl (T.rows kids)]], 4, true, true, true, .cell⟩, ⟨[zrow], 4, true, true, true, .cell⟩, ⟨[[.int .i64 id, .str kind, .str text, .own 3]], 4, true, true, true, .cell⟩, ⟨T.rows (kids.take i), 4, true, true, false, .cell⟩]))) kids.length none
    ⟨0, rfl, ⟨rfl, rfl, rfl, rfl, trivial⟩, .inl ⟨rfl, rfl⟩⟩ ?_
  rintro n fr st ⟨i, hi, hh, hst⟩
  obtain ⟨fr, rfl⟩ := hh.split
  clear hh
  rcases hst with ⟨rfl, rfl⟩ | ⟨hi0, rfl⟩
  · conv => whnf
    by_cases hlt : 0 < kids.length
    · rw [hlr, ltB_t (by omega)]
      conv => whnf
      refine ⟨by omega, T.rows kids, kids[0].cells, 4, rfl, rows_get kids 0 hlt, rfl, Go.Cod.cells_len _, ?_⟩
      have hc := hT kids[0] (List.getElem_mem _)
      have htk := T.rows_take kids 0 hlt
      generalize kids[0] = t at hc htk
      cases t with
      | mk id' kind' text' kids' =>
      conv => whnf
      refine ⟨_, .inl hc, ?_⟩
      conv => whnf
      refine ⟨fun m hm => by rw [List.mem_singleton.1 hm]; rfl, ?_⟩
      conv => whnf
      refine ⟨by show 1 * 64 ≤ _; omega, .inr ⟨(by intro e; cases e), ?_⟩⟩
      conv => whnf
      refine ⟨n - 1, by omega, some [0, 1, 2, 4], ?_⟩
      conv => whnf
      refine ⟨1, by omega, ⟨rfl, rfl, rfl, rfl, trivial⟩, .inr ⟨by omega, ?_⟩⟩
      rw [htk]
      rfl
    · rw [hlr, ltB_f (by omega)]
      conv => whnf
      have : kids = [] := List.eq_nil_of_length_eq_zero (by omega)
      subst this
      rfl
  · conv => whnf
    by_cases hlt : i < kids.length
    · rw [hlr, ltB_t (by omega)]
      conv => whnf
      refine ⟨by omega, T.rows kids, kids[i].cells, 4, rfl, rows_get kids i hlt, rfl, Go.Cod.cells_len _, ?_⟩
      have hc := hT kids[i] (List.getElem_mem _)
      have htk := T.rows_take kids i hlt
      generalize kids[i] = t at hc htk
      cases t with
      | mk id' kind' text' kids' =>
      conv => whnf
      refine ⟨_, .inl hc, ?_⟩
      conv => whnf
      refine ⟨fun m hm => by rw [List.mem_singleton.1 hm]; rfl, ?_⟩
      conv => whnf
      refine ⟨by
        show ((T.rows (kids.take i)).length + 1) * 64 ≤ _
        rw [Go.Cod.rows_len, List.length_take]; omega, ?_⟩
      conv => whnf
      refine ⟨n - 1, by omega, some [0, 1, 2, 5], ?_⟩
      conv => whnf
      refine ⟨i + 1, by omega, ⟨rfl, rfl, rfl, ?_, trivial⟩, .inr ⟨by omega, ?_⟩⟩
      · show V.int .i64 (IntKind.i64.wrap (i + 1)) = _
        rw [wrap64 (by omega) (by omega)]; simp
      · rw [htk]
        rfl
    · rw [hlr, ltB_f (by omega)]
      conv => whnf
      rw [List.take_of_length_le (by omega)]
      rfl
theorem l2Copy_pure (t : T) (ht : t.Small) : Pure Tryd.prog 95 [.agg t.cells] (· = .agg t.cells) := by
  induction ht with
  | @mk id kind text kids g1 g2 g3 g4 g5 ih => exact l2Copy_pure1 _ (.mk g1 g2 g3 g4 g5) ih
end Go.Cod

namespace Go.Cod
open Go Go.Proofs
set_option maxRecDepth 10000

/-- A tree copied into one's own memory. -/
def CopyR (t : T) (es : List (List V)) (o : Out) (st' : St) : Prop := ∃ l : LT, l.erase = t ∧ l.Wf ∧ o = .ret (.agg l.cells) ∧ st' = [poolO (es ++ l.ents)]
theorem treeCopy_nil (id : Int) (kind text : List UInt8) (es : List (List V)) : Full Tryd.prog noY 48 [.agg (T.mk id kind text []).cells] [poolO es] (CopyR (.mk id kind text []) es) := by
  refine full_of_awp good Tryd.func48 rfl (by kernel_rfl) (by decide) ?_
  conv => whnf
  refine loop_intro (fun n fr st => st = [poolO es, ⟨[[.int .i64 id, .str kind, .str text, .sl []]], 4, true, true, true, .cell⟩, ⟨[zrow], 4, true, true, true, .cell⟩] ∧ Holds fr [(1, .ptr 1 0 0), (2, .ptr 2 0 0), (3, .nils), (7, .sl []), (8, .int .i64 0), (9, .int .i64 0)]) 0 ⟨rfl, rfl, rfl, rfl, rfl, rfl, rfl, trivial⟩ ?_
  rintro n fr st ⟨rfl, hh⟩
  obtain ⟨fr, rfl⟩ := hh.split
  clear hh
  conv => whnf
  rw [ltB_f (by simp)]
  conv => whnf
  refine ⟨[], false, ?_⟩
  conv => whnf
  exact ⟨.mk id kind text none [], rfl, ⟨fun _ => rfl, trivial⟩, rfl, by rw [show es ++ LT.ents (.mk id kind text none []) = es by simp [LT.ents, LT.entsL, rootE]]; rfl⟩
theorem LT.rows_snoc (ls : List LT) (l : LT) : LT.rows (ls ++ [l]) = LT.rows ls ++ [l.cells] := by simp [LT.rows]
theorem treeCopy_cons (id : Int) (kind text : List UInt8) (kids : List T) (g4 : kids.length ≤ 1048576) (h0 : 0 < kids.length) (es : List (List V)) (hT : ∀ t' ∈ kids, ∀ es, Full Tryd.prog noY 48 [.agg t'.cells] [poolO es] (CopyR t' es)) :
    Full Tryd.prog noY 48 [.agg (T.mk id kind text kids).cells] [poolO es] (CopyR (.mk id kind text kids) es) := by
  have hlr := Go.Cod.rows_len kids
  refine Full.absorb (R := fun o st' => ∃ ls, LT.eraseL ls = kids ∧ LT.WfL ls ∧ o = .ret (.agg [.int .i64 id, .str kind, .str text, .own 1]) ∧ st' = [poolO (es ++ LT.entsL ls), ⟨LT.rows ls, 4, true, true, false, .cell⟩]) ?_ ?_
  · refine full_of_awp good Tryd.func48 rfl (by kernel_rfl) (by decide) ?_
    conv => whnf
    refine loop_drop (fun n fr st => ∃ (i : Nat) (t3 : V) (ls : List LT), n + i = kids.length ∧ ls.length = i ∧ LT.eraseL ls = kids.take i ∧ LT.WfL ls ∧ Holds fr [(1, .ptr 1 0 0), (2, .ptr 2 0 0), (3, t3), (7, .sl (T.rows kids)), (8, .int .i64 kids.length), (9, .int .i64 i)] ∧
        ((i = 0 ∧ t3 = .nils ∧ st = [poolO (es ++ LT.entsL ls), ⟨[[.int .i64 id, .str kind, .str text, .sl (T.rows kids)]], 4, true, true, true, .cell⟩, ⟨[zrow], 4, true, true, true, .cell⟩]) ∨
         (0 < i ∧ t3 = .own 3 ∧ st = [poolO (es ++ LT.entsL ls), ⟨[[.int .i64 id, .str kind, .str text, .sl (T.rows kids)]], 4, true, true, true, .cell⟩, ⟨[zrow], 4, true, true, true, .cell⟩, ⟨LT.rows ls, 4, true, true, false, .cell⟩]))) kids.length none
      ⟨0, .nils, [], rfl, rfl, rfl, trivial, ⟨rfl, rfl, rfl, rfl, by rw [← hlr]; rfl, rfl, trivial⟩, .inl ⟨rfl, rfl, by rw [show es ++ LT.entsL [] = es by simp [LT.entsL]]; rfl⟩⟩ ?_
    rintro n fr st ⟨i, t3, ls, hi, hil, her, hwf, hh, hst⟩
    obtain ⟨fr, rfl⟩ := hh.split
    clear hh
    by_cases hlt : i < kids.length
    · have hg := Go.Cod.rows_get kids i hlt
      have hc := hT kids[i] (List.getElem_mem _) (es ++ LT.entsL ls)
      have htk : kids.take (i + 1) = kids.take i ++ [kids[i]] := by rw [List.take_succ_eq_append_getElem hlt]
      generalize kids[i] = t at hc hg htk
      have hw : IntKind.i64.wrap (i + 1) = (i + 1 : Nat) := by rw [wrap64 (by omega) (by omega)]; simp
      have herS : ∀ l : LT, l.erase = t → LT.eraseL (ls ++ [l]) = kids.take (i + 1) := fun l hl => by
        rw [htk, LT.eraseL_eq, List.map_append, ← LT.eraseL_eq, her]; simp [hl]
      have hwfS : ∀ l : LT, l.Wf → LT.WfL (ls ++ [l]) := fun l hl => by
        rw [LT.WfL_iff] at hwf ⊢
        intro x hx
        rcases List.mem_append.1 hx with hx | hx
        · exact hwf x hx
        · simp at hx; subst hx; exact hl
      have hentS : ∀ l : LT, es ++ LT.entsL ls ++ l.ents = es ++ LT.entsL (ls ++ [l]) := fun l => by
        rw [LT.entsL_append]; simp [LT.entsL]
      cases t with
      | mk id' kind' text' kids' =>
      rcases hst with ⟨rfl, rfl, rfl⟩ | ⟨hi0, rfl, rfl⟩
      · conv => whnf
        rw [ltB_t (by omega)]
        conv => whnf
        refine ⟨by omega, T.rows kids, _, 4, rfl, hg, rfl, rfl, ?_⟩
        conv => whnf
        refine .inr (.inl ⟨[0], false, ?_⟩)
        conv => whnf
        refine hc.mono ?_
        rintro o st' ⟨l, hle, hlw, rfl, rfl⟩
        have e1 := herS l hle
        have e2 := hwfS l hlw
        have e3 := hentS l
        have e4 := LT.rows_snoc ls l
        cases l with
        | mk lid lk lt lh lks =>
        rcases lh with _ | ⟨lb, lc⟩
        all_goals
          conv => whnf
          refine ⟨fun m hm => by rw [List.mem_singleton.1 hm]; rfl, ?_⟩
          conv => whnf
          refine ⟨by show 1 * 64 ≤ _; omega, .inr ⟨(by intro e; cases e), ?_⟩⟩
          conv => whnf
          refine ⟨n - 1, by omega, some [0, 1, 2, 5], ?_⟩
          conv => whnf
          refine ⟨1, .own 3, ls ++ [_], by omega, by simp [hil], e1, e2, ⟨rfl, rfl, rfl, rfl, rfl, rfl, trivial⟩, .inr ⟨by omega, rfl, ?_⟩⟩
          rw [← e3, e4]
          have : ls = [] := List.eq_nil_of_length_eq_zero hil
          subst this
          rfl
      · conv => whnf
        rw [ltB_t (by omega)]
        conv => whnf
        refine ⟨by omega, T.rows kids, _, 4, rfl, hg, rfl, rfl, ?_⟩
        conv => whnf
        refine .inr (.inl ⟨[0], false, ?_⟩)
        conv => whnf
        refine hc.mono ?_
        rintro o st' ⟨l, hle, hlw, rfl, rfl⟩
        have e1 := herS l hle
        have e2 := hwfS l hlw
        have e3 := hentS l
        have e4 := LT.rows_snoc ls l
        cases l with
        | mk lid lk lt lh lks =>
        rcases lh with _ | ⟨lb, lc⟩
        all_goals
          conv => whnf
          refine ⟨fun m hm => by rw [List.mem_singleton.1 hm]; rfl, ?_⟩
          conv => whnf
          refine ⟨by
            show ((LT.rows ls).length + 1) * 64 ≤ _
            rw [LT.rows_len]; omega, ?_⟩
          conv => whnf
          refine ⟨n - 1, by omega, some [0, 1, 2, 6], ?_⟩
          conv => whnf
          refine ⟨i + 1, .own 3, ls ++ [_], by omega, by simp [hil], e1, e2, ⟨rfl, rfl, rfl, rfl, rfl, ?_, trivial⟩, .inr ⟨by omega, rfl, ?_⟩⟩
          · show V.int .i64 (IntKind.i64.wrap (i + 1)) = _
            rw [hw]
          · rw [← e3, e4]
            rfl
    · rcases hst with ⟨rfl, rfl, rfl⟩ | ⟨hi0, rfl, rfl⟩
      · omega
      · conv => whnf
        rw [ltB_f (by omega)]
        conv => whnf
        refine ⟨[3], false, ?_⟩
        conv => whnf
        refine ⟨ls, ?_, hwf, rfl, rfl⟩
        rw [her, List.take_of_length_le (by omega)]
  · rintro o st' ⟨ls, h1, h2, rfl, rfl⟩
    refine ⟨_, [poolO (es ++ LT.entsL ls)], 0, es ++ LT.entsL ls, LT.rows ls, 4, rfl, rfl, rfl, Nat.le_refl _, by simp [poolO], fun b c => ⟨rfl, .mk id kind text (some (b, c)) ls, by simp [LT.erase, h1], ⟨by simp, h2⟩, ?_, ?_⟩⟩
    · rw [LT.rows_len]; rfl
    · simp [LT.ents, rootE]
theorem treeCopy_acc (t : T) (ht : t.Small) : ∀ es, Full Tryd.prog noY 48 [.agg t.cells] [poolO es] (CopyR t es) := by
  induction ht with
  | @mk id kind text kids g1 g2 g3 g4 g5 ih =>
    intro es
    cases kids with
    | nil => exact treeCopy_nil id kind text es
    | cons k ks => exact treeCopy_cons id kind text (k :: ks) g4 (by simp) es ih
end Go.Cod

namespace Go.Cod
open Go Go.Proofs
set_option maxRecDepth 10000

def TZ : T := .mk 0 [] [] []
mutual
def fT : T → Int → Option T
  | .mk id kind text kids, x => if id = x then some (.mk id kind text kids) else fL kids x
def fL : List T → Int → Option T
  | [], _ => none
  | t :: ts, x => match fT t x with
    | some s => some s
    | none => fL ts x
end
def fR : Option T → V
  | some t => .tup [.agg t.cells, .bool true]
  | none => .tup [.agg TZ.cells, .bool false]
mutual
theorem fT_sp : ∀ (t : T) (x ov lv : Int), fT t x = ((spT t ov lv).find? (isId x)).map (·.1)
  | .mk id kind text kids, x, ov, lv => by
    simp only [fT, spT, List.find?_cons]
    by_cases h : id = x
    · have : isId x (.mk id kind text kids, ov, lv) = true := by simp [isId, idS, T.id, h]
      rw [if_pos h, this]; rfl
    · have : isId x (.mk id kind text kids, ov, lv) = false := by simp [isId, idS, T.id, h]
      rw [if_neg h, this]
      exact fL_sp kids x _ _
theorem fL_sp : ∀ (ts : List T) (x ov lv : Int), fL ts x = ((spL ts ov lv).find? (isId x)).map (·.1)
  | [], _, _, _ => rfl
  | t :: ts, x, ov, lv => by
    simp only [fL, spL, List.find?_append, fT_sp t x ov lv, fL_sp ts x ov lv]
    cases (spT t ov lv).find? (isId x) <;> rfl
end
mutual
theorem fT_small : ∀ (t : T) (x : Int), t.Small → ∀ s, fT t x = some s → s.Small
  | .mk id kind text kids, x, h, s, hs => by
    simp only [fT] at hs
    split at hs
    · cases hs; exact h
    · cases h with
      | mk g1 g2 g3 g4 g5 => exact fL_small kids x g5 s hs
theorem fL_small : ∀ (ts : List T) (x : Int), (∀ t ∈ ts, t.Small) → ∀ s, fL ts x = some s → s.Small
  | [], _, _, _, hs => by simp [fL] at hs
  | t :: ts, x, h, s, hs => by
    have h0 := fT_small t x (h t (by simp))
    simp only [fL] at hs
    split at hs
    · rename_i s' hs'; cases hs; exact h0 _ hs'
    · exact fL_small ts x (fun t ht => h t (by simp [ht])) s hs
end
theorem fL_drop (ts : List T) (i : Nat) (h : i < ts.length) (x : Int) : fL (ts.drop i) x = match fT ts[i] x with
    | some s => some s
    | none => fL (ts.drop (i + 1)) x := by
  rw [List.drop_eq_getElem_cons h]; simp [fL]
theorem TZ_small : TZ.Small := .mk (by omega) (by simp) (by simp) (by simp) (by simp)

theorem l2Find_pure1 (t : T) (hs : t.Small) (x : Int) (hT : ∀ t' ∈ t.kids, Pure Tryd.prog 86 [.agg t'.cells, .int .i64 x] (· = fR (fT t' x))) :
    Pure Tryd.prog 86 [.agg t.cells, .int .i64 x] (· = fR (fT t x)) := by
  cases hs with
  | @mk id kind text kids g1 g2 g3 g4 g5 =>
  simp only [T.kids] at hT
  have hlr := Go.Cod.rows_len kids
  have hov : fT (.mk id kind text kids) x = if id = x then some (.mk id kind text kids) else fL kids x := rfl
  refine pure_of_awp good Tryd.func86 rfl (by kernel_rfl) (by decide) ?_
  conv => whnf
  by_cases a1 : id = x
  · rw [eqB_t a1]
    conv => whnf
    rw [hov, if_pos a1]
    rfl
  rw [eqB_f a1]
  conv => whnf
  rw [if_neg a1] at hov
  refine loop_drop (fun n fr st => ∃ i : Nat, n + i = kids.length ∧ st = [⟨[[.int .i64 id, .str kind, .str text, .sl (T.rows kids)]], 4, true, true, true, .cell⟩, ⟨[zrow], 4, true, true, true, .cell⟩] ∧ fL kids x = fL (kids.drop i) x ∧ Holds fr [(1, .int .i64 x), (2, .ptr 0 0 0), (4, .ptr 1 0 0), (6, .int .i64 i)]) kids.length none
    ⟨0, rfl, rfl, rfl, rfl, rfl, rfl, rfl, trivial⟩ ?_
  rintro n fr st ⟨i, hi, rfl, hx, hh⟩
  obtain ⟨fr, rfl⟩ := hh.split
  clear hh
  conv => whnf
  by_cases hlt : i < kids.length
  · rw [hlr, ltB_t (by omega)]
    conv => whnf
    refine ⟨by omega, T.rows kids, kids[i].cells, 4, rfl, Go.Cod.rows_get kids i hlt, rfl, Go.Cod.cells_len _, ?_⟩
    have hc := hT kids[i] (List.getElem_mem _)
    rw [fL_drop kids i hlt] at hx
    generalize kids[i] = t at hc hx ⊢
    cases t with
    | mk id' kind' text' kids' =>
    conv => whnf
    refine .inl (hc.mono ?_)
    rintro r rfl
    cases hf : fT (.mk id' kind' text' kids') x with
    | some s =>
      rw [hf] at hx
      simp only at hx
      cases s with
      | mk sid sk st sks =>
      conv => whnf
      rw [hov, hx]
      rfl
    | none =>
      rw [hf] at hx
      simp only at hx
      conv => whnf
      refine ⟨n - 1, by omega, some [0, 1], ?_⟩
      conv => whnf
      refine ⟨i + 1, by omega, rfl, hx, rfl, rfl, rfl, ?_, trivial⟩
      show V.int .i64 (IntKind.i64.wrap (i + 1)) = _
      rw [wrap64 (by omega) (by omega)]; simp
  · rw [hlr, ltB_f (by omega)]
    conv => whnf
    rw [List.drop_of_length_le (by omega)] at hx
    rw [hov, hx]
    rfl
theorem l2Find_pure (t : T) (hs : t.Small) (x : Int) : Pure Tryd.prog 86 [.agg t.cells, .int .i64 x] (· = fR (fT t x)) := by
  induction hs with
  | @mk id kind text kids g1 g2 g3 g4 g5 ih => exact l2Find_pure1 _ (.mk g1 g2 g3 g4 g5) x ih

/-- What has a number in a tree that is ok. -/
def findT (t : T) (x : Int) : Option T := if okT t then fT t x else none
theorem findT_small {t : T} (hs : t.Small) {x : Int} {s : T} (h : findT t x = some s) : s.Small := by
  unfold findT at h
  split at h
  · exact fT_small t x hs s h
  · cases h
theorem spotOf_find (t : T) (x : Int) : (spotOf t x).map (·.1) = findT t x := by
  unfold spotOf findT
  split
  · exact (fT_sp t x 0 1).symm
  · rfl

/-- .. in one's own memory. -/
def FindR (f : Option T) (es : List (List V)) (o : Out) (st' : St) : Prop := ∃ l : LT, l.erase = f.getD TZ ∧ l.Wf ∧ o = .ret (.tup [.agg l.cells, .bool f.isSome]) ∧ st' = [poolO (es ++ l.ents)]
theorem implTreeFind_acc (t : T) (hs : t.Small) (x : Int) (es : List (List V)) : Full Tryd.prog noY 17 [.agg t.cells, .int .i64 x] [poolO es] (FindR (findT t x) es) := by
  have hsp := treeSpotOf_pure t hs x
  have hfs := spotOf_find t x
  have hsm : ∀ s, spotOf t x = some s → s.1.Small := fun s h => by
    unfold spotOf at h
    split at h
    · exact spT_small t 0 1 hs s (List.mem_of_find?_eq_some h)
    · cases h
  rw [← hfs]
  generalize spotOf t x = so at *
  cases t with
  | mk id kind text kids =>
  refine full_of_awp good Tryd.func17 rfl (by kernel_rfl) (by decide) ?_
  conv => whnf
  refine .inl (hsp.mono ?_)
  rintro r rfl
  cases so with
  | none =>
    conv => whnf
    refine .inr (.inl ⟨[0], false, ?_⟩)
    conv => whnf
    refine (treeCopy_acc TZ TZ_small es).mono ?_
    rintro o st' ⟨l, h1, h2, rfl, rfl⟩
    cases l with
    | mk lid lk lt lh lks =>
    rcases lh with _ | ⟨lb, lc⟩
    all_goals
      conv => whnf
      refine ⟨[], false, ?_⟩
      conv => whnf
      exact ⟨_, h1, h2, rfl, rfl⟩
  | some s =>
    obtain ⟨s, ov, lv⟩ := s
    have hss := hsm _ rfl
    have hcp := treeCopy_acc s hss es
    cases s with
    | mk sid sk st sks =>
    conv => whnf
    refine .inr (.inl ⟨[0], false, ?_⟩)
    conv => whnf
    refine hcp.mono ?_
    rintro o st' ⟨l, h1, h2, rfl, rfl⟩
    cases l with
    | mk lid lk lt lh lks =>
    rcases lh with _ | ⟨lb, lc⟩
    all_goals
      conv => whnf
      refine ⟨[], false, ?_⟩
      conv => whnf
      exact ⟨_, h1, h2, rfl, rfl⟩
end Go.Cod

namespace Go.Cod
open Go Go.Proofs
set_option maxRecDepth 10000

theorem nodup_of_labs {es : List (List V)} (h : ∀ (i j : Nat) e e', es[i]? = some e → es[j]? = some e' → labOf e = labOf e' → i = j) : (es.map labOf).Nodup := by
  induction es with
  | nil => simp
  | cons e es ih =>
    rw [List.map_cons, List.nodup_cons]
    refine ⟨fun hm => ?_, ih fun i j a b h1 h2 h3 => ?_⟩
    · obtain ⟨e', he', hl⟩ := List.mem_map.1 hm
      obtain ⟨j, hj⟩ := List.getElem?_of_mem he'
      have := h 0 (j + 1) e e' rfl (by simpa using hj) hl.symm
      omega
    · have := h (i + 1) (j + 1) a b (by simpa using h1) (by simpa using h2) h3
      omega
theorem LabsOk.nodup {st : St} (h : LabsOk st) {k : Nat} {es : List (List V)} (hk : st[k]? = some (poolO es)) : (es.map labOf).Nodup :=
  nodup_of_labs fun i j e e' h1 h2 h3 => (h k k _ _ i j e e' hk hk rfl rfl h1 h2 h3).2
mutual
theorem LT.flat : ∀ (l : LT), ∀ e ∈ l.ents, ∀ r ∈ rowsOf e, ∀ x ∈ r, x.flat = true
  | .mk id kind text h kids => by
    intro e he
    simp only [LT.ents, List.mem_append] at he
    rcases he with he | he
    · exact LT.flatL kids e he
    · rcases h with _ | ⟨b, c⟩
      · simp [rootE] at he
      · simp only [rootE, List.mem_singleton] at he
        subst he
        intro r hr x hx
        simp only [rowsOf, ent, LT.rows, List.mem_map] at hr
        obtain ⟨l, _, rfl⟩ := hr
        cases l with
        | mk lid lk lt lh lks =>
        simp only [LT.cells, List.mem_cons, List.not_mem_nil, or_false] at hx
        rcases hx with rfl | rfl | rfl | rfl
        · rfl
        · rfl
        · rfl
        · exact (hdV_ok _ _).2.2
theorem LT.flatL : ∀ (ls : List LT), ∀ e ∈ LT.entsL ls, ∀ r ∈ rowsOf e, ∀ x ∈ r, x.flat = true
  | [] => by simp [LT.entsL]
  | l :: ls => by
    intro e he
    simp only [LT.entsL, List.mem_append] at he
    rcases he with he | he
    · exact LT.flat l e he
    · exact LT.flatL ls e he
end
theorem LT.cells_flat (l : LT) : (V.agg l.cells).flat = true := by
  cases l with
  | mk id kind text h kids =>
  show (V.flat.go [_, _, _, _]) = true
  simp only [V.flat.go, V.flat, (hdV_ok h kids.length).2.2, Bool.and_self]
theorem FlatO.pool (l : LT) : FlatO (poolO l.ents) := ⟨rfl, .inr ⟨rfl, rfl, l.flat⟩⟩
mutual
theorem T.ids_size : ∀ t : T, t.ids.length = t.size
  | .mk _ _ _ kids => by simp [T.ids, T.size, T.idsL_size kids]; omega
theorem T.idsL_size : ∀ ts : List T, (T.idsL ts).length = T.sizeL ts
  | [] => rfl
  | t :: ts => by simp [T.idsL, T.sizeL, T.ids_size t, T.idsL_size ts]
end
theorem T.kids_size (t : T) : t.size = 1 + T.sizeL t.kids := by cases t; rfl
theorem LT.kids_size (l : LT) : LT.sizeL l.kids = T.sizeL l.erase.kids := by
  cases l with
  | mk id kind text h kids => simp only [LT.kids, LT.erase, T.kids, LT.sizeL_erase]
mutual
theorem fT_size : ∀ (t : T) (x : Int) (s : T), fT t x = some s → s.size ≤ t.size
  | .mk id kind text kids, x, s, h => by
    simp only [fT] at h
    split at h
    · cases h; exact Nat.le_refl _
    · have := fL_size kids x s h; simp only [T.size]; omega
theorem fL_size : ∀ (ts : List T) (x : Int) (s : T), fL ts x = some s → s.size ≤ T.sizeL ts
  | [], _, _, h => by simp [fL] at h
  | t :: ts, x, s, h => by
    simp only [fL] at h
    simp only [T.sizeL]
    split at h
    · rename_i s' hs'; cases h
      have := fT_size t x _ hs'; omega
    · have := fL_size ts x s h; omega
end
def T.kind : T → List UInt8
  | .mk _ kind _ _ => kind
def T.text : T → List UInt8
  | .mk _ _ text _ => text
/-- A tree that has just been made. -/
def NewT (t : T) (o : Out) (st' : St) : Prop := ∃ l : LT, l.erase = t ∧ l.Wf ∧ (∃ b c, l = .mk t.id t.kind t.text (some (b, c)) l.kids) ∧ (l.ents.map labOf).Nodup ∧ o = .ret (.agg l.cells) ∧ st' = [poolO l.ents]
theorem toTree_new (t : T) (ht : t.Small) : Full Tryd.prog noY 24 [.agg t.cells] [] (NewT t) := by
  refine (Full.givenEnd (Full.start (toTree_acc t ht []))).mono ?_
  rintro o st' ⟨⟨b, c, ls, h1, h2, ⟨id, kind, text, h3, rfl⟩, rfl⟩, hl⟩
  have hn := hl.nodup (k := 0) rfl
  rw [h3]
  refine ⟨.mk id kind text (some (b, c)) ls, by simp [LT.erase, h1], ⟨by simp, h2⟩, ⟨b, c, rfl⟩, ?_, rfl, ?_⟩
  · simpa [LT.ents, rootE] using hn
  · simp [LT.ents, rootE]
/-- An answer with a tree that has just been made. -/
def NewF (f : Option T) (o : Out) (st' : St) : Prop := ∃ l : LT, l.erase = f.getD TZ ∧ l.Wf ∧ (l.ents.map labOf).Nodup ∧ o = .ret (.tup [.agg l.cells, .bool f.isSome]) ∧ st' = [poolO l.ents]
theorem implTreeFind_new (t : T) (hs : t.Small) (x : Int) : Full Tryd.prog noY 17 [.agg t.cells, .int .i64 x] [] (NewF (findT t x)) := by
  refine (Full.givenEnd (Full.start (implTreeFind_acc t hs x []))).mono ?_
  rintro o st' ⟨⟨l, h1, h2, rfl, rfl⟩, hl⟩
  have hn := hl.nodup (k := 0) rfl
  exact ⟨l, h1, h2, by simpa using hn, rfl, by simp⟩
theorem mapN_cells (l : LT) (f : Nat → Nat) : (V.agg l.cells).mapN f = .agg l.cells := by
  cases l with
  | mk id kind text h kids => rcases h with _ | ⟨b, c⟩ <;> rfl
theorem viewL1 {es : List (List V)} {x y : V} (h : View es x y) : ViewL es [x] [y] := ⟨rfl, fun i a b p q => by
  match i, p, q with
  | 0, p, q => simp at p q; subst p; subst q; exact h
  | i + 1, p, q => simp at p⟩
theorem viewL2 {es : List (List V)} {x y x' y' : V} (h : View es x y) (h' : View es x' y') : ViewL es [x, x'] [y, y'] := ⟨rfl, fun i a b p q => by
  match i, p, q with
  | 0, p, q => simp at p q; subst p; subst q; exact h
  | 1, p, q => simp at p q; subst p; subst q; exact h'
  | i + 2, p, q => simp at p⟩
theorem cleanA (l : LT) : (V.agg l.cells).clean 0 = true := by
  cases l with
  | mk id kind text h kids => rcases h with _ | ⟨b, c⟩ <;> rfl
/-- .. while the argument's blocks are lent. -/
theorem implTreeFind_lent (lx : LT) (hw : lx.Wf) (hs : lx.erase.Small) (x : Int) (es : List (List V)) (he : ∀ e ∈ lx.ents, e ∈ es) : Full Tryd.prog noY 17 [.agg lx.cells, .int .i64 x] [poolO es] fun o st' => ∃ st1, NewF (findT lx.erase x) o st1 ∧ st' = poolO es :: st1 := by
  have hc : V.clean.cleanL 0 [V.agg lx.cells, .int .i64 x] = true := by
    simp only [V.clean.cleanL, cleanA lx]; rfl
  refine (Full.lent (ps := [es]) (implTreeFind_new lx.erase hs x) (viewL2 (lx.viewA hw (by simpa using he)) (.same _)) hc ?_).mono ?_
  · rintro o st1 ⟨l, h1, h2, h3, rfl, rfl⟩
    refine ⟨_, rfl, ?_, fun p hp => by simp at hp; subst hp; exact FlatO.pool l⟩
    have := l.cells_flat
    show V.flat.go [_, _] = true
    simp only [V.flat.go, this]; rfl
  · rintro o st' ⟨v, st1, ⟨l, h1, h2, h3, hv, rfl⟩, rfl, rfl⟩
    cases hv
    refine ⟨[poolO l.ents], ⟨l, h1, h2, h3, ?_, rfl⟩, rfl⟩
    simp only [V.mapN, V.mapN.go]
    have := mapN_cells l (· + [es].length)
    simp only [V.mapN] at this
    rw [this]
def T.markedK : T → Int → T
  | .mk id kind text kids, k => .mk id kind text (T.markedL kids k)

theorem held_view (l : LT) (hw : l.Wf) {w : T} (he : l.erase = w) (k : Int) (es' : List (List V)) (h : ∀ e ∈ (l.markedK k).ents, e ∈ es') : View es' (.agg l.cells) (.agg (w.markedK k).cells) := by
  cases l with
  | mk id kind text hd kids =>
  have h1 : (LT.mk id kind text hd (LT.markedL kids k)).Wf := by
    simp only [LT.Wf] at hw ⊢
    exact ⟨fun e => by rw [hw.1 e]; rfl, LT.wfL_marked kids k hw.2⟩
  have := LT.viewA (LT.mk id kind text hd (LT.markedL kids k)) h1 h
  subst he
  simpa only [LT.cells, LT.markedL_len, LT.erase, T.markedK, LT.eraseL_marked] using this

end Go.Cod

namespace Go.Cod
open Go Go.Proofs
set_option maxRecDepth 10000

def rootI (h : Option (Nat × Nat)) (ns : List Int) : List (List V) := match h with
  | none => []
  | some (b, c) => [ent b c 1 (irows ns)]
theorem irows_ok (ns : List Int) : V.clean.cleanLL 0 (irows ns) = true ∧ (∀ e ∈ irows ns, ∀ x ∈ e, x.leaf = true) ∧ ∀ e ∈ irows ns, ∀ x ∈ e, x.flat = true := by
  refine ⟨?_, fun e he x hx => ?_, fun e he x hx => ?_⟩
  · rw [cleanLL_iff]
    intro e he
    obtain ⟨n, _, rfl⟩ := List.mem_map.1 he
    rfl
  · obtain ⟨n, _, rfl⟩ := List.mem_map.1 he
    simp at hx; subst hx; rfl
  · obtain ⟨n, _, rfl⟩ := List.mem_map.1 he
    simp at hx; subst hx; rfl
theorem viewI (es : List (List V)) (h : Option (Nat × Nat)) (ns : List Int) (hw : h = none → ns = []) (he : ∀ e ∈ rootI h ns, e ∈ es) : View es (hdV h ns.length) (.sl (irows ns)) := by
  rcases h with _ | ⟨b, c⟩
  · rw [hw rfl]; exact .same _
  · refine .dref (sz := 1) (rows := irows ns) (he _ (by simp [rootI])) (irows_len ns).symm rfl (irows_ok ns).1 (irows_ok ns).2.1 (fun i r r' p q => ?_) (fun i r r' j x y p q u v => ?_)
    · rw [p] at q; cases q; rfl
    · rw [p] at q; cases q; rw [u] at v; cases v; exact .same _
def idsOf (t : T) : List Int := if okT t then t.ids else []

def NewI (ns : List Int) (o : Out) (st' : St) : Prop := ∃ h : Option (Nat × Nat), (h = none → ns = []) ∧ o = .ret (hdV h ns.length) ∧ st' = [poolO (rootI h ns)]
theorem irows_snoc (a : List Int) (x : Int) : irows (a ++ [x]) = irows a ++ [[.int .i64 x]] := by simp [irows]
theorem idS_snoc (pre : List Sp) (s : Sp) : (pre ++ [s]).map idS = pre.map idS ++ [idS s] := by simp
theorem implTreeIds_no (t : T) (hs : t.Small) (hok : okT t = false) : Full Tryd.prog noY 16 [.agg t.cells] [poolO []] fun o st' => o = .ret (.sl []) ∧ st' = [poolO []] := by
  have hio := implTreeOk t hs
  rw [hok] at hio
  cases t with
  | mk id kind text kids =>
  refine full_of_awp good Tryd.func16 rfl (by kernel_rfl) (by decide) ?_
  conv => whnf
  refine .inl (hio.mono ?_)
  rintro r rfl
  conv => whnf
  refine ⟨[], false, ?_⟩
  conv => whnf
  exact ⟨rfl, rfl⟩
theorem implTreeIds_yes (t : T) (hs : t.Small) (hok : okT t = true) (hn : t.ids.length ≤ 20) : Full Tryd.prog noY 16 [.agg t.cells] [poolO []] fun o st' => o = .ret (.own 1) ∧ st' = [poolO [], ⟨irows t.ids, 1, true, true, false, .cell⟩] := by
  have hio := implTreeOk t hs
  rw [hok] at hio
  have hsp := treeSpots_full t
  have hcl := treeSpots1_full t hs _ (okbT_takes t)
  have hbox : boxT t = ⟨[t.cells], 4, true, true, true, .cell⟩ := rfl
  have hids := spT_ids t 0 1
  have hne : spT t 0 1 ≠ [] := by cases t; simp [spT]
  have hobt : okbT t = fun log vs => ∃ pre s suf, spT t 0 1 = pre ++ s :: suf ∧ log = spRows pre ∧ vs = [spV s] := rfl
  generalize okbT t = okb at *
  generalize spT t 0 1 = sps at *
  have hln : sps.length ≤ 20 := by rw [← hids, List.length_map] at hn; exact hn
  cases t with
  | mk id kind text kids =>
  refine full_of_awp good Tryd.func16 rfl (by kernel_rfl) (by decide) ?_
  conv => whnf
  refine .inl (hio.mono ?_)
  rintro r rfl
  conv => whnf
  refine .inr (.inl ⟨[], false, ?_⟩)
  conv => whnf
  refine hsp.mono ?_
  rintro o st' ⟨rfl, rfl⟩
  conv => whnf
  refine ⟨[3], false, okb, fun log st' => (log = [] ∧ st' = [poolO [], ⟨[(T.mk id kind text kids).cells], 4, true, true, true, .cell⟩, ⟨[[.nils]], 1, true, true, true, .cell⟩, ⟨[(T.mk id kind text kids).cells], 4, false, true, true, .cell⟩]) ∨
    (log ≠ [] ∧ st' = [poolO [], ⟨[(T.mk id kind text kids).cells], 4, true, true, true, .cell⟩, ⟨[[.own 4]], 1, true, true, true, .cell⟩, ⟨[(T.mk id kind text kids).cells], 4, false, true, true, .cell⟩, ⟨irows ((sps.take log.length).map idS), 1, true, true, false, .cell⟩]), ?_⟩
  conv => whnf
  refine ⟨.inl ⟨rfl, rfl⟩, ?_, ?_⟩
  · rintro log vs st' hI ho
    rw [hobt] at ho
    obtain ⟨pre, s, suf, rfl, rfl, rfl⟩ := ho
    have htk : (pre ++ s :: suf).take (spRows pre).length = pre := by rw [spRows_len]; simp
    have htk1 : (pre ++ s :: suf).take (spRows pre ++ [[spV s]]).length = pre ++ [s] := by rw [List.length_append, spRows_len]; show List.take (pre.length + 1) _ = _; rw [List.take_append, List.take_of_length_le (by omega)]; simp
    rw [htk] at hI
    refine ⟨rfl, ?_⟩
    have hsn := idS_snoc pre s
    have hne1 : spRows pre ++ [[spV s]] ≠ [] := by simp
    have hpl : (irows (pre.map idS)).length + 1 ≤ 21 := by rw [irows_len, List.length_map]; simp at hln; omega
    obtain ⟨⟨id', kind', text', kids'⟩, ov, lv⟩ := s
    simp only [idS, T.id] at hsn
    rcases hI with ⟨h0, rfl⟩ | ⟨h0, rfl⟩
    · have hp0 : pre = [] := by
        cases pre with
        | nil => rfl
        | cons a l => simp [spRows] at h0
      subst hp0
      conv => whnf
      refine ⟨fun m hm => by rw [List.mem_singleton.1 hm]; rfl, ?_⟩
      conv => whnf
      refine ⟨by show 1 * 8 ≤ _; omega, .inr ⟨(by intro e; cases e), ?_⟩⟩
      conv => whnf
      refine ⟨some [0, 1, 2, 3, 6], ?_⟩
      conv => whnf
      rw [htk1]
      refine .inr ⟨hne1, ?_⟩
      rfl
    · conv => whnf
      refine ⟨fun m hm => by rw [List.mem_singleton.1 hm]; rfl, ?_⟩
      conv => whnf
      refine ⟨by
        show ((irows (pre.map idS)).length + 1) * 8 ≤ _
        omega, ?_⟩
      conv => whnf
      refine ⟨some [0, 1, 2, 3, 7], ?_⟩
      conv => whnf
      rw [htk1]
      refine .inr ⟨hne1, ?_⟩
      rw [show (pre ++ [((T.mk id' kind' text' kids', ov, lv) : Sp)]).map idS = pre.map idS ++ [id'] from hsn, irows_snoc]
      rfl
  · refine hcl.mono ?_
    rintro o st' ⟨r, b, log', rfl, rfl, hl⟩
    refine ⟨_, _, _, rfl, rfl, fun hb st' hI => ?_⟩
    rw [hl hb] at hI
    rcases hI with ⟨h0, rfl⟩ | ⟨h0, rfl⟩
    · exfalso
      cases sps with
      | nil => exact hne rfl
      | cons a l => simp [spRows] at h0
    · rw [List.take_of_length_le (by rw [spRows_len]; omega), hids]
      conv => whnf
      refine ⟨[4], false, ?_⟩
      conv => whnf
      exact ⟨rfl, rfl⟩
theorem okT_len {t : T} (h : okT t = true) : t.ids.length ≤ 20 := by
  unfold okT at h
  simp only [Bool.and_eq_true, decide_eq_true_eq] at h
  exact h.2
theorem implTreeIds_new (t : T) (hs : t.Small) : Full Tryd.prog noY 16 [.agg t.cells] [] (NewI (idsOf t)) := by
  refine Full.start ?_
  unfold idsOf
  cases hok : okT t with
  | false =>
    refine (implTreeIds_no t hs hok).mono ?_
    rintro o st' ⟨rfl, rfl⟩
    exact ⟨none, fun _ => rfl, rfl, rfl⟩
  | true =>
    refine Full.absorb (implTreeIds_yes t hs hok (okT_len hok)) ?_
    rintro o st' ⟨rfl, rfl⟩
    refine ⟨.own 1, [poolO []], 0, [], irows t.ids, 1, rfl, rfl, rfl, Nat.le_refl _, by simp [poolO], fun b c => ⟨rfl, some (b, c), by simp, ?_, rfl⟩⟩
    rw [irows_len]; rfl
theorem hdV_mapN (h : Option (Nat × Nat)) (n : Nat) (f : Nat → Nat) : (hdV h n).mapN f = hdV h n := by rcases h with _ | ⟨b, c⟩ <;> rfl
end Go.Cod

namespace Go.Cod
open Go Go.Proofs
set_option maxRecDepth 10000

/- What is found. -/
mutual
theorem plainT_mono : ∀ (t : T) (a b : Int), b ≤ a → plainT t a = true → plainT t b = true
  | .mk id kind text kids, a, b, h, hp => by
    simp only [plainT, Bool.and_eq_true, Bool.not_eq_true', decide_eq_true_eq, decide_eq_false_iff_not] at hp ⊢
    obtain ⟨⟨⟨⟨h1, h2⟩, h3⟩, h4⟩, h5⟩ := hp
    exact ⟨⟨⟨⟨by omega, h2⟩, h3⟩, h4⟩, plainL_mono kids _ _ (by omega) h5⟩
theorem plainL_mono : ∀ (ts : List T) (a b : Int), b ≤ a → plainL ts a = true → plainL ts b = true
  | [], _, _, _, _ => rfl
  | t :: ts, a, b, h, hp => by
    simp only [plainL, Bool.and_eq_true] at hp ⊢
    exact ⟨plainT_mono t a b h hp.1, plainL_mono ts a b h hp.2⟩
end
mutual
theorem fT_spec : ∀ (t : T) (x : Int) (s : T), fT t x = some s → s.id = x ∧ s.ids.Sublist t.ids ∧ ∀ lv, plainT t lv = true → plainT s lv = true
  | .mk id kind text kids, x, s, h => by
    simp only [fT] at h
    split at h
    · rename_i e; cases h; exact ⟨e, .refl _, fun _ h => h⟩
    · obtain ⟨h1, h2, h3⟩ := fL_spec kids x s h
      refine ⟨h1, h2.cons _, fun lv hp => ?_⟩
      simp only [plainT, Bool.and_eq_true] at hp
      exact plainT_mono s _ _ (by omega) (h3 _ hp.2)
theorem fL_spec : ∀ (ts : List T) (x : Int) (s : T), fL ts x = some s → s.id = x ∧ s.ids.Sublist (T.idsL ts) ∧ ∀ lv, plainL ts lv = true → plainT s lv = true
  | [], _, _, h => by simp [fL] at h
  | t :: ts, x, s, h => by
    simp only [fL] at h
    split at h
    · rename_i s' hs'; cases h
      obtain ⟨h1, h2, h3⟩ := fT_spec t x _ hs'
      refine ⟨h1, h2.trans (List.sublist_append_left _ _), fun lv hp => ?_⟩
      simp only [plainL, Bool.and_eq_true] at hp
      exact h3 lv hp.1
    · obtain ⟨h1, h2, h3⟩ := fL_spec ts x s h
      refine ⟨h1, h2.trans (List.sublist_append_right _ _), fun lv hp => ?_⟩
      simp only [plainL, Bool.and_eq_true] at hp
      exact h3 lv hp.2
end
mutual
theorem fT_none : ∀ (t : T) (x : Int), fT t x = none ↔ x ∉ t.ids
  | .mk id kind text kids, x => by
    simp only [fT, T.ids, List.mem_cons, not_or]
    by_cases e : id = x
    · simp [e]
    · rw [if_neg e, fL_none kids x]
      exact ⟨fun h => ⟨fun e' => e e'.symm, h⟩, fun h => h.2⟩
theorem fL_none : ∀ (ts : List T) (x : Int), fL ts x = none ↔ x ∉ T.idsL ts
  | [], x => by simp [fL, T.idsL]
  | t :: ts, x => by
    have h1 := fT_none t x
    have h2 := fL_none ts x
    simp only [fL, T.idsL, List.mem_append, not_or]
    cases e : fT t x with
    | none => simp only [h2]; exact ⟨fun h => ⟨h1.1 e, h⟩, fun h => h.2⟩
    | some s => rw [e] at h1; simp at h1; simp [h1]
end
theorem T.id_mem (t : T) : t.id ∈ t.ids := by cases t; simp [T.id, T.ids]
theorem okT_iff' (t : T) : okT t = true ↔ plainT t 1 = true ∧ t.ids.Nodup ∧ t.ids.length ≤ 20 := by
  unfold okT
  simp [and_assoc]
theorem findT_spec {t : T} {x : Int} {s : T} (h : findT t x = some s) : okT t = true ∧ fT t x = some s ∧ s.id = x ∧ okT s = true ∧ idsOf s = s.ids ∧ ∀ i ∈ s.ids, i ∈ idsOf t := by
  unfold findT at h
  split at h
  · rename_i hok
    obtain ⟨h1, h2, h3⟩ := fT_spec t x s h
    obtain ⟨p1, p2, p3⟩ := (okT_iff' t).1 hok
    have hos : okT s = true := (okT_iff' s).2 ⟨h3 1 p1, h2.nodup p2, Nat.le_trans h2.length_le p3⟩
    refine ⟨hok, h, h1, hos, by rw [idsOf, if_pos hos], fun i hi => ?_⟩
    rw [idsOf, if_pos hok]
    exact h2.subset hi
  · cases h
theorem findT_isSome (t : T) (x : Int) : (findT t x).isSome = decide (x ∈ idsOf t) := by
  unfold findT idsOf
  by_cases h : okT t = true
  · rw [if_pos h, if_pos h]
    have := fT_none t x
    cases e : fT t x with
    | none => simp [this.1 e]
    | some s => rw [e] at this; simp at this; simp [this]
  · rw [if_neg h, if_neg h]; simp
theorem treeOver_none {t : T} {x : Int} (h : findT t x = none) : treeOver t x = -1 := by
  have := spotOf_find t x
  rw [h] at this
  unfold treeOver
  cases e : spotOf t x with
  | none => rfl
  | some s => rw [e] at this; simp at this

/- What something is in. -/
mutual
theorem overT_in : ∀ (t : T) (x ov n : Int), t.ids.Nodup → overT t x ov = n → 0 ≤ n → (t.id = x ∧ n = ov) ∨ ∃ s, fT t n = some s ∧ x ∈ s.kids.map T.id
  | .mk id kind text kids, x, ov, n, hn, h, h0 => by
    simp only [T.ids, List.nodup_cons] at hn
    simp only [overT] at h
    split at h
    · rename_i e; exact .inl ⟨e, h.symm⟩
    · rcases overL_in kids x id n hn.2 h h0 with ⟨e, hm⟩ | ⟨s, hs, hm⟩
      · exact .inr ⟨.mk id kind text kids, by simp [fT, e], hm⟩
      · refine .inr ⟨s, ?_, hm⟩
        have : n ∈ T.idsL kids := by
          obtain ⟨h1, h2, _⟩ := fL_spec kids n s hs
          rw [← h1]; exact h2.subset s.id_mem
        rw [fT, if_neg (fun e => hn.1 (by rw [e]; exact this))]
        exact hs
theorem overL_in : ∀ (ts : List T) (x ov n : Int), (T.idsL ts).Nodup → overL ts x ov = n → 0 ≤ n → (n = ov ∧ x ∈ ts.map T.id) ∨ ∃ s, fL ts n = some s ∧ x ∈ s.kids.map T.id
  | [], _, _, n, _, h, h0 => by simp only [overL] at h; omega
  | t :: ts, x, ov, n, hn, h, h0 => by
    simp only [T.idsL, List.nodup_append] at hn
    simp only [overL] at h
    split at h
    · rcases overT_in t x ov n hn.1 h h0 with ⟨e, e'⟩ | ⟨s, hs, hm⟩
      · exact .inl ⟨e', by simp [e]⟩
      · exact .inr ⟨s, by simp [fL, hs], hm⟩
    · rcases overL_in ts x ov n hn.2.1 h h0 with ⟨e, hm⟩ | ⟨s, hs, hm⟩
      · exact .inl ⟨e, by simp [hm]⟩
      · refine .inr ⟨s, ?_, hm⟩
        have hin : n ∈ T.idsL ts := by
          obtain ⟨h1, h2, _⟩ := fL_spec ts n s hs
          rw [← h1]; exact h2.subset s.id_mem
        have : fT t n = none := (fT_none t n).2 fun hm => hn.2.2 n hm n hin rfl
        simp [fL, this, hs]
end
theorem kidIds_sub : ∀ (ts : List T), (ts.map T.id).Sublist (T.idsL ts)
  | [] => .refl _
  | t :: ts => by
    cases t with
    | mk id kind text kids =>
    simp only [List.map_cons, T.id, T.idsL, T.ids, List.cons_append]
    exact ((kidIds_sub ts).trans (List.sublist_append_right _ _)).cons_cons _
theorem okT_kids {s : T} (h : okT s = true) : (s.kids.map T.id).Nodup := by
  obtain ⟨_, h2, _⟩ := (okT_iff' s).1 h
  cases s with
  | mk id kind text kids =>
  simp only [T.ids, List.nodup_cons] at h2
  exact (kidIds_sub kids).nodup h2.2
theorem count_one {l : List Int} (h : l.Nodup) {x : Int} (hx : x ∈ l) : l.count x = 1 := by
  induction l with
  | nil => simp at hx
  | cons a l ih =>
    simp only [List.nodup_cons] at h
    by_cases e : a = x
    · subst e; rw [List.count_cons_self, List.count_eq_zero.2 h.1]
    · rw [List.count_cons_of_ne e]
      exact ih h.2 (by
        rcases List.mem_cons.1 hx with h | h
        · exact absurd h.symm e
        · exact h)
theorem treeOver_cases (t : T) (x : Int) : (treeOver t x = -1 ∧ (okT t = false ∨ x ∉ idsOf t)) ∨ (okT t = true ∧ treeOver t x = 0 ∧ t.id = x) ∨ (1 ≤ treeOver t x ∧ ∃ s, findT t (treeOver t x) = some s ∧ okT s = true ∧ (s.kids.map T.id).count x = 1) := by
  cases hf : findT t x with
  | none =>
    refine .inl ⟨treeOver_none hf, ?_⟩
    have := findT_isSome t x
    rw [hf] at this
    exact .inr (by simpa using this)
  | some s0 =>
    obtain ⟨hok, hfx, _, _, _, _⟩ := findT_spec hf
    obtain ⟨p1, p2, p3⟩ := (okT_iff' t).1 hok
    have hov : treeOver t x = overT t x 0 := by
      unfold treeOver spotOf
      rw [if_pos hok, (overT_eq t x 0 1 (by omega) (okT_ids hok)).1]
    have hsm := (overT_eq t x 0 1 (by omega) (okT_ids hok)).2
    have hso := spotOf_find t x
    rw [hf, spotOf, if_pos hok] at hso
    have h0 : 0 ≤ overT t x 0 := hsm.2 (by
      cases e : (spT t 0 1).find? (isId x) with
      | none => rw [e] at hso; simp at hso
      | some s => rfl)
    rcases overT_in t x 0 _ p2 rfl h0 with ⟨e, e'⟩ | ⟨s, hs, hm⟩
    · exact .inr (.inl ⟨hok, by rw [hov]; exact e', e⟩)
    · refine .inr (.inr ?_)
      rw [hov]
      have hft : findT t (overT t x 0) = some s := by rw [findT, if_pos hok]; exact hs
      obtain ⟨_, _, q1, q2, _, _⟩ := findT_spec hft
      have hpos := plainT_pos t 1 p1 _ ((fT_spec t _ s hs).2.1.subset s.id_mem)
      rw [q1] at hpos
      exact ⟨hpos, s, hft, q2, count_one (okT_kids q2) hm⟩
end Go.Cod

namespace Go.Cod
open Go Go.Proofs
set_option maxRecDepth 10000

/- Numbers below a hundred, written. -/
theorem small_pure (n : Int) (h0 : 0 ≤ n) (h1 : n < 100) : Pure Tryd.prog 114 [.int .i64 n] fun r => ∃ s : List UInt8, s.length ≤ 2 ∧ r = .str s := by
  refine pure_of_awp good Tryd.func114 rfl (by kernel_rfl) (by decide) ?_
  conv => whnf
  have w1 : IntKind.i64.wrap (n + 1) = n + 1 := wrap64 (by omega) (by omega)
  have w2 : IntKind.i64.wrap (n * 2) = n * 2 := wrap64 (by omega) (by omega)
  have w3 : IntKind.i64.wrap (n * 2 + 2) = n * 2 + 2 := wrap64 (by omega) (by omega)
  by_cases a : n < 10
  · rw [ltB_t a]
    conv => whnf
    rw [w1]
    refine ⟨by omega, by show (n + 1).toNat ≤ 36; omega, ?_⟩
    conv => whnf
    refine ⟨h0, by omega, ?_⟩
    conv => whnf
    exact ⟨_, by rw [List.length_drop, List.length_take]; omega, rfl⟩
  · rw [ltB_f (by omega)]
    conv => whnf
    rw [w2, w3]
    refine ⟨by omega, by show (n * 2 + 2).toNat ≤ 200; omega, ?_⟩
    conv => whnf
    refine ⟨by omega, by omega, ?_⟩
    conv => whnf
    exact ⟨_, by rw [List.length_drop, List.length_take]; omega, rfl⟩
theorem formatInt_pure (n : Int) (h0 : 0 ≤ n) (h1 : n < 100) : Pure Tryd.prog 113 [.int .i64 n, .int .i64 10] fun r => ∃ s : List UInt8, s.length ≤ 2 ∧ r = .str s := by
  have hs := small_pure n h0 h1
  refine pure_of_awp good Tryd.func113 rfl (by kernel_rfl) (by decide) ?_
  conv => whnf
  rw [eqB_t (by rfl)]
  conv => whnf
  rw [leB_t h0]
  conv => whnf
  rw [ltB_t h1]
  conv => whnf
  refine .inl (hs.mono ?_)
  rintro r ⟨s, hl, rfl⟩
  conv => whnf
  exact ⟨s, hl, rfl⟩
theorem itoa1_pure (n : Int) (h0 : 0 ≤ n) (h1 : n < 100) : Pure Tryd.prog 110 [.int .i64 n] fun r => ∃ s : List UInt8, s.length ≤ 2 ∧ r = .str s := by
  have hs := formatInt_pure n h0 h1
  refine pure_of_awp good Tryd.func110 rfl (by kernel_rfl) (by decide) ?_
  conv => whnf
  refine .inl (hs.mono ?_)
  rintro r ⟨s, hl, rfl⟩
  conv => whnf
  exact ⟨s, hl, rfl⟩
theorem itoa_pure (n : Int) (h0 : 0 ≤ n) (h1 : n < 100) : Pure Tryd.prog 100 [.int .i64 n] fun r => ∃ s : List UInt8, s.length ≤ 2 ∧ r = .str s := by
  have hs := itoa1_pure n h0 h1
  refine pure_of_awp good Tryd.func100 rfl (by kernel_rfl) (by decide) ?_
  conv => whnf
  refine .inl (hs.mono ?_)
  rintro r ⟨s, hl, rfl⟩
  conv => whnf
  exact ⟨s, hl, rfl⟩
end Go.Cod

namespace Go.Cod
open Go Go.Proofs
set_option maxRecDepth 10000

/- What stands in a map. -/
theorem findRow_all {Q : V → Prop} {key : V} : ∀ {es : List (List V)}, (∀ e ∈ es, Q (rowVal e)) → findRow key es = none ∨ ∃ v, findRow key es = some v ∧ Q v
  | [], _ => .inl rfl
  | e :: es, h => by
    rw [findRow]
    split
    · exact .inr ⟨_, rfl, h e (by simp)⟩
    · exact findRow_all fun x hx => h x (by simp [hx])
theorem putRow_all {Q : V → Prop} {key v : V} (hv : Q v) : ∀ {es : List (List V)}, (∀ e ∈ es, Q (rowVal e)) → ∀ e ∈ putRow key v es, Q (rowVal e)
  | [], _ => by
    intro e he
    rw [putRow, List.mem_singleton] at he
    subst he; exact hv
  | e :: es, h => by
    rw [putRow]
    split
    · intro x hx
      rcases List.mem_cons.1 hx with rfl | hx
      · exact hv
      · exact h x (by simp [hx])
    · intro x hx
      rcases List.mem_cons.1 hx with rfl | hx
      · exact h x (by simp)
      · exact putRow_all hv (fun y hy => h y (by simp [hy])) x hx

/- The ways to all things. -/
def WayV (n : Nat) (v : V) : Prop := ∃ w : List UInt8, v = .str w ∧ w.length ≤ 2097152 * (n + 1)
def CntV (n : Nat) (v : V) : Prop := ∃ c : Int, v = .int .i64 c ∧ 0 ≤ c ∧ c ≤ n
theorem WayV.up {n : Nat} {v : V} (h : WayV n v) : WayV (n + 1) v := by
  obtain ⟨w, rfl, h⟩ := h
  exact ⟨w, rfl, by omega⟩
theorem CntV.up {n : Nat} {v : V} (h : CntV n v) : CntV (n + 1) v := by
  obtain ⟨w, rfl, h, h'⟩ := h
  exact ⟨w, rfl, h, by omega⟩
def okW (t : T) : OkY := fun log vs => ∃ pre s suf w, spT t 0 1 = pre ++ s :: suf ∧ log.length = pre.length ∧ vs = [.str w, .agg s.1.cells]
def wbox (v : V) (n : Nat) : O := ⟨[[v]], n, true, true, true, .cell⟩
set_option maxHeartbeats 8000000 in
theorem treeWays1_full (t : T) (hs : t.Small) (hn : (spT t 0 1).length ≤ 20) (hsps : ∀ s ∈ spT t 0 1, s.1.Small) :
    Full Tryd.prog (okW t) 99 [.yld 0, .ptr 1 0 0] [logO [] true, boxT t] (fun o st' => ∃ r b log', o = .ret r ∧ st' = [logO log' b, boxT t] ∧ (b = true → log'.length = (spT t 0 1).length)) := by
  have hsp := treeSpots_full t
  have hcl := treeSpots1_full t hs _ (okbT_takes t)
  have hobt : okbT t = fun log vs => ∃ pre s suf, spT t 0 1 = pre ++ s :: suf ∧ log = spRows pre ∧ vs = [spV s] := rfl
  have hokw : okW t = fun log vs => ∃ pre s suf w, spT t 0 1 = pre ++ s :: suf ∧ log.length = pre.length ∧ vs = [.str w, .agg s.1.cells] := rfl
  have hbox : boxT t = ⟨[t.cells], 4, true, true, true, .cell⟩ := rfl
  generalize okW t = okw at *
  generalize okbT t = okb at *
  generalize spT t 0 1 = sps at *
  cases t with
  | mk id kind text kids =>
  refine full_of_awp good Tryd.func99 rfl (by kernel_rfl) (by decide) ?_
  conv => whnf
  refine .inr (.inl ⟨[], false, ?_⟩)
  conv => whnf
  refine hsp.mono ?_
  rintro o st' ⟨rfl, rfl⟩
  conv => whnf
  refine ⟨[7], false, okb, fun log st' => ∃ olog ways ahead : List (List V), olog.length = log.length ∧ (∀ e ∈ ways, WayV log.length (rowVal e)) ∧ (∀ e ∈ ahead, CntV log.length (rowVal e)) ∧
      st' = [logO olog true, ⟨[(T.mk id kind text kids).cells], 4, true, true, true, .cell⟩, wbox (.yld 0) 1, ⟨ways, codeOf (.int .i64), false, true, false, .map⟩, wbox (.map 3) 1, ⟨ahead, codeOf .str, false, true, false, .map⟩, wbox (.map 5) 1, ⟨[(T.mk id kind text kids).cells], 4, false, true, true, .cell⟩], ?_⟩
  conv => whnf
  refine ⟨⟨[], [], [], rfl, by simp, by simp, rfl⟩, ?_, ?_⟩
  · rintro log vs st' ⟨olog, ways, ahead, hol, hw, ha, rfl⟩ ho
    rw [hobt] at ho
    obtain ⟨pre, s, suf, rfl, rfl, rfl⟩ := ho
    have hsl := spRows_len pre
    have hlen : (spRows pre ++ [[spV s]]).length = pre.length + 1 := by rw [List.length_append, hsl]; rfl
    have hp20 : pre.length < 20 := by rw [List.length_append, List.length_cons] at hn; omega
    have hss := hsps s (by simp)
    have hoko : ∀ w : List UInt8, okw olog [.str w, .agg s.1.cells] := fun w => by
      rw [hokw]; exact ⟨pre, s, suf, w, rfl, by omega, rfl⟩
    refine ⟨rfl, ?_⟩
    simp only [hsl] at hol hw ha
    obtain ⟨⟨id', kind', text', kids'⟩, ov, lv⟩ := s
    cases hss with
    | mk g1 g2 g3 g4 g5 =>
    conv => whnf
    by_cases a1 : ov = 0
    · rw [eqB_t a1]
      conv => whnf
      refine ⟨hoko kind', ?_⟩
      intro b
      cases b
      · conv => whnf
        refine ⟨[], false, ?_⟩
        conv => whnf
        exact ⟨_, false, _, rfl, rfl, fun h => by cases h⟩
      · conv => whnf
        refine ⟨some [0, 1, 2, 3, 4, 5, 6, 7], ?_⟩
        conv => whnf
        refine ⟨olog ++ [[.str kind', .agg (T.mk id' kind' text' kids').cells]], putRow (.int .i64 id') (.str kind') ways, ahead, ?_, ?_, ?_, rfl⟩
        · rw [hlen, List.length_append, hol]; rfl
        · rw [hlen]; exact putRow_all ⟨kind', rfl, by omega⟩ fun e he => (hw e he).up
        · rw [hlen]; exact fun e he => (ha e he).up
    · rw [eqB_f a1]
      conv => whnf
      obtain ⟨r1, w, hr1, hw1, hw2⟩ : ∃ (r : Option V) (w : List UInt8), findRow (.int .i64 ov) ways = r ∧ w.length ≤ 2097152 * (pre.length + 1) ∧ ((r = none ∧ w = []) ∨ r = some (.str w)) := by
        rcases findRow_all (key := .int .i64 ov) hw with h | ⟨v, h, w, rfl, hl⟩
        · exact ⟨none, [], h, by simp, .inl ⟨rfl, rfl⟩⟩
        · exact ⟨_, w, h, hl, .inr rfl⟩
      obtain ⟨r2, c, hr2, hc1, hc2, hc3⟩ : ∃ (r : Option V) (c : Int), findRow (.str (((w ++ [47]) ++ kind') ++ [46])) ahead = r ∧ 0 ≤ c ∧ c ≤ pre.length ∧ ((r = none ∧ c = 0) ∨ r = some (.int .i64 c)) := by
        rcases findRow_all (key := .str (((w ++ [47]) ++ kind') ++ [46])) ha with h | ⟨v, h, c, rfl, hl, hl'⟩
        · exact ⟨none, 0, h, by omega, by omega, .inl ⟨rfl, rfl⟩⟩
        · exact ⟨_, c, h, hl, hl', .inr rfl⟩
      obtain ⟨stem, hstem⟩ : ∃ x, x = ((w ++ [47]) ++ kind') ++ [46] := ⟨_, rfl⟩
      have hsl2 : stem.length ≤ 2097152 * (pre.length + 1) + 1048578 := by
        rw [hstem]; simp only [List.length_append, List.length_cons, List.length_nil]; omega
      refine AtKey_intro _ hr1 ?_
      rcases hw2 with ⟨rfl, rfl⟩ | rfl
      all_goals
        conv => whnf
        refine ⟨by simp only [List.length_cons, List.length_nil]; omega, ?_⟩
        conv => whnf
        refine ⟨by simp only [List.length_append, List.length_cons, List.length_nil]; omega, ?_⟩
        conv => whnf
        refine ⟨by simp only [List.length_append, List.length_cons, List.length_nil]; omega, ?_⟩
        conv => whnf
        refine AtKey_intro _ hr2 ?_
        rcases hc3 with ⟨rfl, rfl⟩ | rfl
      all_goals
        conv => whnf
        refine .inl ((itoa_pure _ (by omega) (by omega)).mono ?_)
        rintro r ⟨fg, hfg, rfl⟩
        conv => whnf
        refine ⟨by simp only [List.length_append, List.length_cons, List.length_nil]; omega, ?_⟩
        conv => whnf
        refine AtKey_intro _ hr2 ?_
        conv => whnf
        refine ⟨hoko _, ?_⟩
        intro b
        cases b
        · conv => whnf
          refine ⟨[], false, ?_⟩
          conv => whnf
          exact ⟨_, false, _, rfl, rfl, fun h => by cases h⟩
        · conv => whnf
          refine ⟨some [0, 1, 2, 3, 4, 5, 6, 7], ?_⟩
          conv => whnf
          refine ⟨olog ++ [[.str (stem ++ fg), .agg (T.mk id' kind' text' kids').cells]], putRow (.int .i64 id') (.str (stem ++ fg)) ways, putRow (.str stem) (.int .i64 (IntKind.i64.wrap (_ + 1))) ahead, ?_, ?_, ?_, by rw [hstem]; rfl⟩
          · rw [hlen, List.length_append, hol]; rfl
          · rw [hlen]; exact putRow_all ⟨stem ++ fg, rfl, by rw [List.length_append]; omega⟩ fun e he => (hw e he).up
          · rw [hlen]; exact putRow_all ⟨_, rfl, by rw [wrap64 (by omega) (by omega)]; omega, by rw [wrap64 (by omega) (by omega)]; omega⟩ fun e he => (ha e he).up
  · refine hcl.mono ?_
    rintro o st' ⟨r, b, log', rfl, rfl, hl⟩
    refine ⟨_, _, _, rfl, rfl, fun hb st' hI => ?_⟩
    obtain ⟨olog, ways, ahead, hol, hw, ha, rfl⟩ := hI
    rw [hl hb] at hol
    conv => whnf
    refine ⟨[], false, ?_⟩
    conv => whnf
    exact ⟨_, true, olog, rfl, rfl, fun _ => by rw [hol, spRows_len]⟩
end Go.Cod

namespace Go.Cod
open Go Go.Proofs
set_option maxRecDepth 10000

def T.kd : T → List UInt8
  | .mk _ k _ _ => k
mutual
theorem spT_sm : ∀ (t : T) (ov lv : Int), t.Small → ∀ s ∈ spT t ov lv, s.1.Small
  | .mk id kind text kids, ov, lv, h => by
    intro s hs
    rcases List.mem_cons.1 hs with rfl | hs
    · exact h
    · cases h with
      | mk g1 g2 g3 g4 g5 => exact spL_sm kids _ _ g5 s hs
theorem spL_sm : ∀ (ts : List T) (ov lv : Int), (∀ t ∈ ts, t.Small) → ∀ s ∈ spL ts ov lv, s.1.Small
  | [], _, _, _ => by simp [spL]
  | t :: ts, ov, lv, h => by
    intro s hs
    rcases List.mem_append.1 hs with hs | hs
    · exact spT_sm t ov lv (h t (by simp)) s hs
    · exact spL_sm ts ov lv (fun t ht => h t (by simp [ht])) s hs
end
theorem treeWays_full (t : T) : Full Tryd.prog noY 76 [.agg t.cells] [] (fun o st' => o = .ret (.fn 99 [.ptr 0 0 0]) ∧ st' = [boxT t]) := by
  cases t with
  | mk id kind text kids =>
  refine full_of_awp good Tryd.func76 rfl (by kernel_rfl) (by decide) ?_
  conv => whnf
  refine ⟨[0], false, ?_⟩
  conv => whnf
  exact ⟨rfl, rfl⟩

def isKind (k : List UInt8) (s : Sp) : Bool := decide (s.1.kd = k)
theorem treeCount1_full (w k : List UInt8) (t : T) : Full Tryd.prog noY 51 [.str w, .agg t.cells, .ptr 0 0 0] [wbox (.str k) 1] (fun o st' => ∃ b : Bool, (b = true ↔ t.kd = k) ∧ o = .ret (.tup [.int .i64 t.id, .bool b]) ∧ st' = [wbox (.str k) 1]) := by
  cases t with
  | mk id kind text kids =>
  refine full_of_awp good Tryd.func51 rfl (by kernel_rfl) (by decide) ?_
  conv => whnf
  refine ⟨[], false, ?_⟩
  conv => whnf
  exact ⟨eqS kind k, eqS_iff, rfl, rfl⟩

def slV (ns : List Int) (m : Nat) : V := match ns with
  | [] => .nils
  | _ :: _ => .own m
def slO (ns : List Int) : List O := match ns with
  | [] => []
  | _ :: _ => [⟨irows ns, 1, true, true, false, .cell⟩]
theorem slO_snoc (n0 : Int) (ns : List Int) (n : Int) : slO ((n0 :: ns) ++ [n]) = [⟨irows (n0 :: ns) ++ [[.int .i64 n]], 1, true, true, false, .cell⟩] := by
  show [(⟨irows ((n0 :: ns) ++ [n]), 1, true, true, false, .cell⟩ : O)] = _
  simp [irows]
def kindIds (t : T) (k : List UInt8) : List Int := if okT t then ((spT t 0 1).filter (isKind k)).map idS else []
set_option maxHeartbeats 8000000 in
theorem treeAskedCount (t : T) (hs : t.Small) (k : List UInt8) :
    Full Tryd.prog noY 50 [.agg t.cells, .fn 51 [.ptr 0 0 0]] [wbox (.str k) 1] (fun o st' => o = .ret (.sl (irows (kindIds t k))) ∧ st' = [wbox (.str k) 1]) := by
  have hsps := spT_sm t 0 1 hs
  have hok := implTreeOk_pure t hs hsps
  have hkd : kindIds t k = if okT t then ((spT t 0 1).filter (isKind k)).map idS else [] := rfl
  generalize kindIds t k = res at *
  cases hb : okT t with
  | false =>
    rw [hb] at hok hkd
    have hkd : res = [] := hkd
    subst hkd
    cases t with
    | mk id kind text kids =>
    refine full_of_awp good Tryd.func50 rfl (by kernel_rfl) (by decide) ?_
    conv => whnf
    refine .inl (hok.mono ?_)
    rintro r rfl
    conv => whnf
    refine ⟨[], false, ?_⟩
    conv => whnf
    exact ⟨rfl, rfl⟩
  | true =>
    rw [hb] at hok hkd
    have hkd : res = ((spT t 0 1).filter (isKind k)).map idS := hkd
    have h20 : (spT t 0 1).length ≤ 20 := ((okT_iff t).1 hb).2.2
    have hcl := treeWays1_full t hs h20 hsps
    have hw := treeWays_full t
    have hokw : okW t = fun log vs => ∃ pre s suf w, spT t 0 1 = pre ++ s :: suf ∧ log.length = pre.length ∧ vs = [.str w, .agg s.1.cells] := rfl
    have hbox : boxT t = ⟨[t.cells], 4, true, true, true, .cell⟩ := rfl
    generalize okW t = okw at *
    generalize spT t 0 1 = sps at *
    cases t with
    | mk id kind text kids =>
    refine full_of_awp good Tryd.func50 rfl (by kernel_rfl) (by decide) ?_
    conv => whnf
    refine .inl (hok.mono ?_)
    rintro r rfl
    conv => whnf
    refine .inr (.inl ⟨[], false, ?_⟩)
    conv => whnf
    refine hw.mono ?_
    rintro o st' ⟨rfl, rfl⟩
    conv => whnf
    refine ⟨[4], false, okw, fun log st' => ∃ ids : List Int, ids = ((sps.take log.length).filter (isKind k)).map idS ∧ ids.length ≤ log.length ∧
      st' = [wbox (.str k) 1, ⟨[(T.mk id kind text kids).cells], 4, true, true, true, .cell⟩, wbox (.fn 51 [.ptr 0 0 0]) 1, wbox (slV ids 5) 1, ⟨[(T.mk id kind text kids).cells], 4, false, true, true, .cell⟩] ++ slO ids, ?_⟩
    conv => whnf
    refine ⟨⟨[], rfl, by simp, rfl⟩, ?_, ?_⟩
    · rintro log vs st' ⟨ids, hids, hil, rfl⟩ ho
      rw [hokw] at ho
      obtain ⟨pre, s, suf, w, rfl, hlp, rfl⟩ := ho
      have htk : (pre ++ s :: suf).take log.length = pre := by rw [hlp]; simp
      have htk1 : ∀ x : List V, (pre ++ s :: suf).take (log ++ [x]).length = pre ++ [s] := fun x => by
        rw [List.length_append, hlp]; show List.take (pre.length + 1) _ = _; rw [List.take_append, List.take_of_length_le (by omega)]; simp
      have hlen1 : ∀ x : List V, (log ++ [x]).length = log.length + 1 := fun x => by rw [List.length_append]; rfl
      rw [htk] at hids
      have hc := treeCount1_full w k s.1
      have hfl : ((pre ++ [s]).filter (isKind k)).map idS = ids ++ (if s.1.kd = k then [idS s] else []) := by
        rw [hids, List.filter_append, List.map_append]
        congr 1
        by_cases e : s.1.kd = k <;> simp [isKind, e]
      rw [List.length_append, List.length_cons] at h20
      refine ⟨rfl, ?_⟩
      obtain ⟨⟨id', kind', text', kids'⟩, ov, lv⟩ := s
      have hfl : ((pre ++ [((T.mk id' kind' text' kids', ov, lv) : Sp)]).filter (isKind k)).map idS = ids ++ (if kind' = k then [id'] else []) := hfl
      rcases ids with _ | ⟨n0, ns⟩
      all_goals
        conv => whnf
        refine ⟨[0], false, ?_⟩
        conv => whnf
        refine hc.mono ?_
        rintro o st' ⟨b, hb', rfl, rfl⟩
        by_cases e : kind' = k
        · obtain rfl : b = true := hb'.2 e
          rw [if_pos e] at hfl
          conv => whnf
          refine ⟨fun m hm => by rw [List.mem_singleton.1 hm]; rfl, ?_⟩
          conv => whnf
          first
            | (refine ⟨by show 1 * 8 ≤ _; omega, .inr ⟨(by intro e; cases e), ?_⟩⟩
               conv => whnf
               refine ⟨some [0, 1, 2, 3, 4, 7], ?_⟩
               conv => whnf
               exact ⟨[id'], by rw [htk1, hfl]; rfl, by rw [hlen1]; simp, rfl⟩)
            | (refine ⟨by
                 show ((irows (n0 :: ns)).length + 1) * 8 ≤ _
                 rw [irows_len]; omega, ?_⟩
               conv => whnf
               refine ⟨some [0, 1, 2, 3, 4, 8], ?_⟩
               conv => whnf
               refine ⟨(n0 :: ns) ++ [id'], by rw [htk1, hfl], by rw [hlen1, List.length_append]; simp only [List.length_singleton]; omega, ?_⟩
               rw [slO_snoc]; rfl)
        · obtain rfl : b = false := by
            cases b
            · rfl
            · exact absurd (hb'.1 rfl) e
          rw [if_neg e] at hfl
          conv => whnf
          first
            | (refine ⟨some [0, 1, 2, 3, 4], ?_⟩
               conv => whnf
               exact ⟨_, by rw [htk1, hfl]; rfl, by rw [hlen1]; simp, rfl⟩)
            | (refine ⟨some [0, 1, 2, 3, 4, 5], ?_⟩
               conv => whnf
               exact ⟨n0 :: ns, by rw [htk1, hfl, List.append_nil], by rw [hlen1]; omega, rfl⟩)
    · refine hcl.mono ?_
      rintro o st' ⟨r, b, log', rfl, rfl, hl⟩
      refine ⟨_, _, _, rfl, rfl, fun hb st' hI => ?_⟩
      obtain ⟨ids, hids, hil, rfl⟩ := hI
      rw [hl hb, List.take_of_length_le (by omega), ← hkd] at hids
      subst hids
      rcases ids with _ | ⟨n0, ns⟩
      all_goals
        conv => whnf
        refine ⟨[], false, ?_⟩
        conv => whnf
        exact ⟨rfl, rfl⟩
end Go.Cod

namespace Go.Cod
open Go Go.Proofs
set_option maxRecDepth 10000

/- Numbers below a hundred, in decimals. -/
def decB (n : Nat) : List UInt8 := if n < 10 then [UInt8.ofNat (48 + n)] else [UInt8.ofNat (48 + n / 10), UInt8.ofNat (48 + n % 10)]
theorem decB_no (n : Nat) (h : n < 100) : (46 : UInt8) ∉ decB n ∧ (47 : UInt8) ∉ decB n := by
  have : ∀ n < 100, (46 : UInt8) ∉ decB n ∧ (47 : UInt8) ∉ decB n := by decide
  exact this n h
theorem decB_inj (a b : Nat) (ha : a < 30) (hb : b < 30) (h : decB a = decB b) : a = b := by
  have : ∀ a < 30, ∀ b < 30, decB a = decB b → a = b := by decide
  exact this a ha b hb h
theorem decB_len (n : Nat) : (decB n).length ≤ 2 := by
  unfold decB
  split <;> simp
theorem small_dec (n : Int) (h0 : 0 ≤ n) (h1 : n < 100) : Pure Tryd.prog 114 [.int .i64 n] (· = .str (decB n.toNat)) := by
  refine pure_of_awp good Tryd.func114 rfl (by kernel_rfl) (by decide) ?_
  conv => whnf
  have w1 : IntKind.i64.wrap (n + 1) = n + 1 := wrap64 (by omega) (by omega)
  have w2 : IntKind.i64.wrap (n * 2) = n * 2 := wrap64 (by omega) (by omega)
  have w3 : IntKind.i64.wrap (n * 2 + 2) = n * 2 + 2 := wrap64 (by omega) (by omega)
  obtain ⟨m, rfl⟩ : ∃ m : Nat, n = (m : Int) := ⟨n.toNat, by omega⟩
  have hm : m < 100 := by omega
  clear h0 h1
  by_cases a : (m : Int) < 10
  · rw [ltB_t a]
    conv => whnf
    rw [w1]
    refine ⟨by omega, by show ((m : Int) + 1).toNat ≤ 36; omega, ?_⟩
    conv => whnf
    refine ⟨by omega, by omega, ?_⟩
    conv => whnf
    have a9 : m < 10 := by omega
    clear a
    clear w1 w2 w3 hm
    refine congrArg V.str ?_
    revert m
    decide
  · rw [ltB_f (by omega)]
    conv => whnf
    rw [w2, w3]
    refine ⟨by omega, by show ((m : Int) * 2 + 2).toNat ≤ 200; omega, ?_⟩
    conv => whnf
    refine ⟨by omega, by omega, ?_⟩
    conv => whnf
    have a9 : 10 ≤ m := by omega
    clear a
    clear w1 w2 w3
    refine congrArg V.str ?_
    revert m
    decide
theorem formatInt_dec (n : Int) (h0 : 0 ≤ n) (h1 : n < 100) : Pure Tryd.prog 113 [.int .i64 n, .int .i64 10] (· = .str (decB n.toNat)) := by
  have hs := small_dec n h0 h1
  refine pure_of_awp good Tryd.func113 rfl (by kernel_rfl) (by decide) ?_
  conv => whnf
  rw [eqB_t (by rfl)]
  conv => whnf
  rw [leB_t h0]
  conv => whnf
  rw [ltB_t h1]
  conv => whnf
  refine .inl (hs.mono ?_)
  rintro r rfl
  conv => whnf
theorem itoa1_dec (n : Int) (h0 : 0 ≤ n) (h1 : n < 100) : Pure Tryd.prog 110 [.int .i64 n] (· = .str (decB n.toNat)) := by
  have hs := formatInt_dec n h0 h1
  refine pure_of_awp good Tryd.func110 rfl (by kernel_rfl) (by decide) ?_
  conv => whnf
  refine .inl (hs.mono ?_)
  rintro r rfl
  conv => whnf
theorem itoa_dec (n : Int) (h0 : 0 ≤ n) (h1 : n < 100) : Pure Tryd.prog 100 [.int .i64 n] (· = .str (decB n.toNat)) := by
  have hs := itoa1_dec n h0 h1
  refine pure_of_awp good Tryd.func100 rfl (by kernel_rfl) (by decide) ?_
  conv => whnf
  refine .inl (hs.mono ?_)
  rintro r rfl
  conv => whnf

/- The ways to all things, one by one. -/
structure W where
  way : List UInt8
  stem : List UInt8
  sp : Sp
def W.has (i : Int) (e : W) : Bool := decide (e.sp.1.id = i)
def W.of (st : List UInt8) (e : W) : Bool := decide (e.stem = st)
def wFind (acc : List W) (i : Int) : Option (List UInt8) := (acc.find? (W.has i)).map W.way
def stemW (acc : List W) (s : Sp) : List UInt8 := (((wFind acc s.2.1).getD [] ++ [47]) ++ s.1.kd) ++ [46]
def mkW (acc : List W) (s : Sp) : W := if s.2.1 = 0 then ⟨s.1.kd, [], s⟩ else ⟨stemW acc s ++ decB (acc.countP (W.of (stemW acc s))), stemW acc s, s⟩
def waysA (acc : List W) : List Sp → List W
  | [] => acc
  | s :: ss => waysA (acc ++ [mkW acc s]) ss
theorem waysA_append (acc : List W) (a b : List Sp) : waysA acc (a ++ b) = waysA (waysA acc a) b := by
  induction a generalizing acc with
  | nil => rfl
  | cons s ss ih => simp only [List.cons_append, waysA, ih]
theorem waysA_snoc (a : List Sp) (s : Sp) : waysA [] (a ++ [s]) = waysA [] a ++ [mkW (waysA [] a) s] := by rw [waysA_append]; rfl
theorem mkW_sp (acc : List W) (s : Sp) : (mkW acc s).sp = s := by unfold mkW; split <;> rfl
theorem waysA_sp (l : List Sp) : ∀ acc : List W, (waysA acc l).map W.sp = acc.map W.sp ++ l := by
  induction l with
  | nil => intro acc; simp [waysA]
  | cons s ss ih => intro acc; simp only [waysA, ih, List.map_append, List.map_cons, List.map_nil, mkW_sp, List.append_assoc, List.cons_append, List.nil_append]
theorem waysA_len (l : List Sp) : (waysA [] l).length = l.length := by
  have := congrArg List.length (waysA_sp l [])
  simpa using this
theorem wFind_mem {acc : List W} {i : Int} {w : List UInt8} (h : wFind acc i = some w) : ∃ e ∈ acc, e.way = w ∧ e.sp.1.id = i := by
  unfold wFind at h
  cases hf : acc.find? (W.has i) with
  | none => rw [hf] at h; cases h
  | some e =>
    rw [hf] at h
    have h1 := List.find?_some hf
    have h2 := List.mem_of_find?_eq_some hf
    simp only [W.has, decide_eq_true_eq] at h1
    exact ⟨e, h2, by simpa using h, h1⟩
theorem wFind_snoc {acc : List W} {e : W} (i : Int) (hn : e.sp.1.id ∉ acc.map fun x => x.sp.1.id) : wFind (acc ++ [e]) i = if e.sp.1.id = i then some e.way else wFind acc i := by
  unfold wFind
  rw [List.find?_append]
  by_cases h : e.sp.1.id = i
  · have : acc.find? (W.has i) = none := by
      rw [List.find?_eq_none]
      intro x hx hh
      simp only [W.has, decide_eq_true_eq] at hh
      exact hn (List.mem_map.2 ⟨x, hx, by rw [hh, h]⟩)
    rw [this, if_pos h]
    simp [W.has, h]
  · rw [if_neg h]
    have : [e].find? (W.has i) = none := by simp [W.has, h]
    rw [this]; simp
theorem waysA_kd {l : List Sp} (h : ∀ s ∈ l, s.1.kd.length ≤ 1048576) : ∀ e ∈ waysA [] l, e.way.length ≤ 2097152 * ((waysA [] l).length + 1) := by
  suffices hg : ∀ n, n ≤ l.length → ∀ e ∈ waysA [] (l.take n), e.way.length ≤ 2097152 * (n + 1) by
    have := hg l.length (Nat.le_refl _)
    rw [List.take_length] at this
    rw [waysA_len]; exact this
  intro n
  induction n with
  | zero => intro _ e he; simp [waysA] at he
  | succ n ih =>
    intro hn e he
    rw [List.take_succ_eq_append_getElem (by omega), waysA_snoc, List.mem_append, List.mem_singleton] at he
    have ih := ih (by omega)
    rcases he with he | rfl
    · have := ih e he; omega
    · have hk := h l[n] (List.getElem_mem _)
      unfold mkW
      split
      · simp only; omega
      · have hd := decB_len ((waysA [] (l.take n)).countP (W.of (stemW (waysA [] (l.take n)) l[n])))
        have hw : ((wFind (waysA [] (l.take n)) l[n].2.1).getD []).length ≤ 2097152 * (n + 1) := by
          cases hf : wFind (waysA [] (l.take n)) l[n].2.1 with
          | none => simp
          | some w =>
            obtain ⟨e, he, rfl, _⟩ := wFind_mem hf
            exact ih e he
        simp only [stemW, List.length_append, List.length_cons, List.length_nil] at hd ⊢
        omega
end Go.Cod

namespace Go.Cod
open Go Go.Proofs
set_option maxRecDepth 10000

/- What stands in a map behind a write. -/
theorem keyEq_left {k a : V} (b : V) (h : keyEq k a = true) : keyEq k b = keyEq a b := by
  unfold keyEq at h
  split at h
  · have := of_decide_eq_true h; subst this; cases b <;> rfl
  · have := of_decide_eq_true h; subst this; cases b <;> rfl
  · have := eq_of_beq h; subst this; cases b <;> rfl
  · cases h
theorem keyEq_right {a b : V} (k : V) (h : keyEq a b = true) : keyEq k a = keyEq k b := by
  unfold keyEq at h
  split at h
  · have := of_decide_eq_true h; subst this; cases k <;> rfl
  · have := of_decide_eq_true h; subst this; cases k <;> rfl
  · have := eq_of_beq h; subst this; cases k <;> rfl
  · cases h
theorem findRow_put (a b v : V) : ∀ es : List (List V), findRow b (putRow a v es) = if keyEq a b then some v else findRow b es
  | [] => rfl
  | e :: es => by
    have ih := findRow_put a b v es
    have e3 : findRow b (e :: es) = if keyEq (rowKey e) b then some (rowVal e) else findRow b es := rfl
    by_cases h : keyEq (rowKey e) a = true
    · have e1 : putRow a v (e :: es) = [a, v] :: es := by rw [putRow, if_pos h]
      have e2 : findRow b ([a, v] :: es) = if keyEq a b then some v else findRow b es := rfl
      rw [e1, e2, e3, keyEq_left b h]
      by_cases hab : keyEq a b = true
      · rw [if_pos hab, if_pos hab]
      · rw [if_neg hab, if_neg hab, if_neg hab]
    · have e1 : putRow a v (e :: es) = e :: putRow a v es := by rw [putRow, if_neg h]
      have e2 : findRow b (e :: putRow a v es) = if keyEq (rowKey e) b then some (rowVal e) else findRow b (putRow a v es) := rfl
      rw [e1, e2, e3, ih]
      by_cases hab : keyEq a b = true
      · rw [keyEq_right (rowKey e) hab] at h
        rw [if_neg h, if_pos hab, if_pos hab]
      · rw [if_neg hab, if_neg hab]
theorem keyEq_int (i j : Int) : keyEq (.int .i64 i) (.int .i64 j) = decide (i = j) := rfl
theorem keyEq_str (i j : List UInt8) : keyEq (.str i) (.str j) = decide (i = j) := rfl

structure WInv (acc : List W) (ways ahead : List (List V)) : Prop where
  ways : ∀ i, findRow (.int .i64 i) ways = (wFind acc i).map V.str
  ahead : ∀ st, st ≠ [] → findRow (.str st) ahead = if acc.countP (W.of st) = 0 then none else some (.int .i64 ((acc.countP (W.of st) : Nat) : Int))
theorem WInv.nil : WInv [] [] [] := ⟨fun _ => rfl, fun _ _ => rfl⟩
theorem WInv.root {acc ways ahead} (h : WInv acc ways ahead) {s : Sp} (h0 : s.2.1 = 0) (hn : s.1.id ∉ acc.map fun x => x.sp.1.id) : WInv (acc ++ [mkW acc s]) (putRow (.int .i64 s.1.id) (.str s.1.kd) ways) ahead := by
  have hm : mkW acc s = ⟨s.1.kd, [], s⟩ := by unfold mkW; rw [if_pos h0]
  rw [hm]
  refine ⟨fun i => ?_, fun st hst => ?_⟩
  · rw [findRow_put, wFind_snoc i hn, keyEq_int]
    simp only [decide_eq_true_eq]
    split
    · rfl
    · exact h.ways i
  · have : [({ way := s.1.kd, stem := [], sp := s } : W)].countP (W.of st) = 0 := by simp [W.of, hst.symm]
    rw [h.ahead st hst, List.countP_append, this, Nat.add_zero]
theorem WInv.sub {acc ways ahead} (h : WInv acc ways ahead) {s : Sp} (h0 : s.2.1 ≠ 0) (hn : s.1.id ∉ acc.map fun x => x.sp.1.id) :
    WInv (acc ++ [mkW acc s]) (putRow (.int .i64 s.1.id) (.str (stemW acc s ++ decB (acc.countP (W.of (stemW acc s))))) ways) (putRow (.str (stemW acc s)) (.int .i64 ((acc.countP (W.of (stemW acc s)) : Nat) + 1 : Int)) ahead) := by
  have hm : mkW acc s = ⟨stemW acc s ++ decB (acc.countP (W.of (stemW acc s))), stemW acc s, s⟩ := by unfold mkW; rw [if_neg h0]
  rw [hm]
  refine ⟨fun i => ?_, fun st hst => ?_⟩
  · rw [findRow_put, wFind_snoc i hn, keyEq_int]
    simp only [decide_eq_true_eq]
    split
    · rfl
    · exact h.ways i
  · rw [findRow_put, keyEq_str, List.countP_append, List.countP_singleton]
    simp only [decide_eq_true_eq, W.of]
    by_cases e : stemW acc s = st
    · subst e; simp
    · rw [if_neg e, h.ahead st hst]
      simp [e, W.of]

def wRows (l : List W) : List (List V) := l.map fun e => [.str e.way, .agg e.sp.1.cells]
theorem wRows_len (l : List W) : (wRows l).length = l.length := by simp [wRows]
def okX (t : T) : OkY := fun log vs => ∃ pre s suf, spT t 0 1 = pre ++ s :: suf ∧ log = wRows (waysA [] pre) ∧ vs = [.str (mkW (waysA [] pre) s).way, .agg s.1.cells]
theorem waysA_ids (l : List Sp) : (waysA [] l).map (fun x => x.sp.1.id) = l.map idS := by
  have := congrArg (List.map idS) (waysA_sp l [])
  rw [List.map_map, List.map_nil, List.nil_append] at this
  exact this
set_option maxHeartbeats 8000000 in
theorem treeWays1_exact (t : T) (hs : t.Small) (hok : okT t = true) (hsps : ∀ s ∈ spT t 0 1, s.1.Small) :
    Full Tryd.prog (okX t) 99 [.yld 0, .ptr 1 0 0] [logO [] true, boxT t] (fun o st' => ∃ r b log', o = .ret r ∧ st' = [logO log' b, boxT t] ∧ (b = true → log' = wRows (waysA [] (spT t 0 1)))) := by
  have hsp := treeSpots_full t
  have hcl := treeSpots1_full t hs _ (okbT_takes t)
  have hobt : okbT t = fun log vs => ∃ pre s suf, spT t 0 1 = pre ++ s :: suf ∧ log = spRows pre ∧ vs = [spV s] := rfl
  have hokw : okX t = fun log vs => ∃ pre s suf, spT t 0 1 = pre ++ s :: suf ∧ log = wRows (waysA [] pre) ∧ vs = [.str (mkW (waysA [] pre) s).way, .agg s.1.cells] := rfl
  have hbox : boxT t = ⟨[t.cells], 4, true, true, true, .cell⟩ := rfl
  obtain ⟨hall1, hall2, hn⟩ := (okT_iff t).1 hok
  generalize okX t = okw at *
  generalize okbT t = okb at *
  generalize spT t 0 1 = sps at *
  cases t with
  | mk id kind text kids =>
  refine full_of_awp good Tryd.func99 rfl (by kernel_rfl) (by decide) ?_
  conv => whnf
  refine .inr (.inl ⟨[], false, ?_⟩)
  conv => whnf
  refine hsp.mono ?_
  rintro o st' ⟨rfl, rfl⟩
  conv => whnf
  refine ⟨[7], false, okb, fun log st' => ∃ ways ahead : List (List V), WInv (waysA [] (sps.take log.length)) ways ahead ∧
      st' = [logO (wRows (waysA [] (sps.take log.length))) true, ⟨[(T.mk id kind text kids).cells], 4, true, true, true, .cell⟩, wbox (.yld 0) 1, ⟨ways, codeOf (.int .i64), false, true, false, .map⟩, wbox (.map 3) 1, ⟨ahead, codeOf .str, false, true, false, .map⟩, wbox (.map 5) 1, ⟨[(T.mk id kind text kids).cells], 4, false, true, true, .cell⟩], ?_⟩
  conv => whnf
  refine ⟨⟨[], [], WInv.nil, rfl⟩, ?_, ?_⟩
  · rintro log vs st' ⟨ways, ahead, hI, rfl⟩ ho
    rw [hobt] at ho
    obtain ⟨pre, s, suf, rfl, rfl, rfl⟩ := ho
    have hsl := spRows_len pre
    have htk : (pre ++ s :: suf).take (spRows pre).length = pre := by rw [hsl]; simp
    have htk1 : (pre ++ s :: suf).take (spRows pre ++ [[spV s]]).length = pre ++ [s] := by rw [List.length_append, hsl]; show List.take (pre.length + 1) _ = _; rw [List.take_append, List.take_of_length_le (by omega)]; simp
    rw [htk] at hI ⊢
    have hp20 : pre.length < 20 := by rw [List.length_append, List.length_cons] at hn; omega
    have hss := hsps s (by simp)
    have hkdp := waysA_kd (l := pre) fun s' hs' => by
      have := hsps s' (by simp [hs'])
      obtain ⟨⟨_, _, _, _⟩, _, _⟩ := s'
      cases this with
      | mk g1 g2 g3 g4 g5 => simpa [T.kd] using g2
    have hnew : s.1.id ∉ (waysA [] pre).map fun x => x.sp.1.id := by
      rw [waysA_ids]
      rw [List.map_append, List.map_cons, List.nodup_append] at hall2
      exact fun hm => hall2.2.2 _ hm _ (List.mem_cons_self ..) rfl
    have hoko : okw (wRows (waysA [] pre)) [.str (mkW (waysA [] pre) s).way, .agg s.1.cells] := by
      rw [hokw]; exact ⟨pre, s, suf, rfl, rfl, rfl⟩
    have hsn := waysA_snoc pre s
    have hwl := waysA_len pre
    have hcl2 : ∀ st, (waysA [] pre).countP (W.of st) ≤ pre.length := fun st => by rw [← hwl]; exact List.countP_le_length
    have hR : s.2.1 = 0 → (mkW (waysA [] pre) s).way = s.1.kd := fun e => by unfold mkW; rw [if_pos e]
    have hS : s.2.1 ≠ 0 → (mkW (waysA [] pre) s).way = stemW (waysA [] pre) s ++ decB ((waysA [] pre).countP (W.of (stemW (waysA [] pre) s))) := fun e => by unfold mkW; rw [if_neg e]
    have hroot := fun e => hI.root (s := s) e hnew
    have hsub := fun e => hI.sub (s := s) e hnew
    have hrow : wRows (waysA [] (pre ++ [s])) = wRows (waysA [] pre) ++ [[.str (mkW (waysA [] pre) s).way, .agg s.1.cells]] := by
      rw [hsn]; simp [wRows, mkW_sp]
    rw [← hsn] at hroot hsub
    refine ⟨rfl, ?_⟩
    have hstem : stemW (waysA [] pre) s = (((wFind (waysA [] pre) s.2.1).getD [] ++ [47]) ++ s.1.kd) ++ [46] := rfl
    have hIw := hI.ways s.2.1
    have hIa := hI.ahead (stemW (waysA [] pre) s) (by rw [hstem]; simp)
    generalize hway : (mkW (waysA [] pre) s).way = way at *
    generalize stemW (waysA [] pre) s = stem at *
    obtain ⟨c, hc⟩ : ∃ c : Nat, c = (waysA [] pre).countP (W.of stem) := ⟨_, rfl⟩
    have hc20 := hcl2 stem
    rw [← hc] at hIa hS hsub hc20
    obtain ⟨w, hw⟩ : ∃ w, w = (wFind (waysA [] pre) s.2.1).getD [] := ⟨_, rfl⟩
    rw [← hw] at hstem
    have hwlen : w.length ≤ 2097152 * (pre.length + 1) := by
      rw [hw]
      cases hf : wFind (waysA [] pre) s.2.1 with
      | none => simp
      | some w' =>
        obtain ⟨e, he, rfl, _⟩ := wFind_mem hf
        rw [← hwl]; exact hkdp e he
    have hq1 : (findRow (.int .i64 s.2.1) ways = none ∧ w = []) ∨ findRow (.int .i64 s.2.1) ways = some (.str w) := by
      rw [hIw, hw]
      cases wFind (waysA [] pre) s.2.1 with
      | none => exact .inl ⟨rfl, rfl⟩
      | some w' => exact .inr rfl
    have hq2 : (findRow (.str stem) ahead = none ∧ c = 0) ∨ findRow (.str stem) ahead = some (.int .i64 (c : Int)) := by
      rw [hIa]
      by_cases e : c = 0
      · rw [if_pos e]; exact .inl ⟨rfl, e⟩
      · rw [if_neg e]; exact .inr rfl
    clear hIw hIa hI hkdp hcl2 hw hc hnew
    have hW1 : waysA [] ((pre ++ s :: suf).take (spRows pre ++ [[spV s]]).length) = waysA [] (pre ++ [s]) := by rw [htk1]
    clear htk1
    generalize waysA [] (pre ++ [s]) = acc' at *
    generalize wRows (waysA [] pre) = olog at *
    obtain ⟨⟨id', kind', text', kids'⟩, ov, lv⟩ := s
    cases hss with
    | mk g1 g2 g3 g4 g5 =>
    simp only [T.kd, T.id] at hstem hR hS hroot hsub hq1 hq2
    conv => whnf
    by_cases a1 : ov = 0
    · have hR := hR a1
      subst hR
      have hroot := hroot a1
      rw [eqB_t a1]
      conv => whnf
      refine ⟨hoko, ?_⟩
      intro b
      cases b
      · conv => whnf
        refine ⟨[], false, ?_⟩
        conv => whnf
        exact ⟨_, false, _, rfl, rfl, fun h => by cases h⟩
      · conv => whnf
        refine ⟨some [0, 1, 2, 3, 4, 5, 6, 7], ?_⟩
        conv => whnf
        refine ⟨putRow (.int .i64 id') (.str way) ways, ahead, ?_, ?_⟩
        · rw [hW1]; exact hroot
        · rw [hW1, hrow]; rfl
    · have hS := hS a1
      have hsub := hsub a1
      rw [eqB_f a1]
      conv => whnf
      have hsl2 : stem.length ≤ 2097152 * (pre.length + 1) + 1048578 := by
        rw [hstem]; simp only [List.length_append, List.length_cons, List.length_nil]; omega
      have hdl := decB_len c
      have w1 : IntKind.i64.wrap ((c : Int) + 1) = (c : Int) + 1 := wrap64 (by omega) (by omega)
      have htn : (c : Int).toNat = c := by omega
      have hit := itoa_dec (c : Int) (by omega) (by omega)
      rw [htn] at hit
      subst hS
      rw [hstem] at hq2 hoko hsub hrow hsl2
      rw [← w1] at hsub
      obtain ⟨r1, hr1, hw2⟩ : ∃ r : Option V, findRow (.int .i64 ov) ways = r ∧ ((r = none ∧ w = []) ∨ r = some (.str w)) := by
        rcases hq1 with ⟨h, e⟩ | h
        · exact ⟨_, h, .inl ⟨rfl, e⟩⟩
        · exact ⟨_, h, .inr rfl⟩
      obtain ⟨r2, hr2, hc3⟩ : ∃ r : Option V, findRow (.str (((w ++ [47]) ++ kind') ++ [46])) ahead = r ∧ ((r = none ∧ c = 0) ∨ r = some (.int .i64 (c : Int))) := by
        rcases hq2 with ⟨h, e⟩ | h
        · exact ⟨_, h, .inl ⟨rfl, e⟩⟩
        · exact ⟨_, h, .inr rfl⟩
      clear hq1 hq2
      refine AtKey_intro _ hr1 ?_
      rcases hw2 with ⟨rfl, rfl⟩ | rfl
      all_goals
        conv => whnf
        refine ⟨by simp only [List.length_cons, List.length_nil]; omega, ?_⟩
        conv => whnf
        refine ⟨by simp only [List.length_append, List.length_cons, List.length_nil]; omega, ?_⟩
        conv => whnf
        refine ⟨by simp only [List.length_append, List.length_cons, List.length_nil]; omega, ?_⟩
        conv => whnf
        refine AtKey_intro _ hr2 ?_
        rcases hc3 with ⟨rfl, rfl⟩ | rfl
      all_goals
        conv => whnf
        refine .inl (hit.mono ?_)
        rintro r rfl
        conv => whnf
        refine ⟨by simp only [List.length_append, List.length_cons, List.length_nil]; omega, ?_⟩
        conv => whnf
        refine AtKey_intro _ hr2 ?_
        conv => whnf
        refine ⟨hoko, ?_⟩
        intro b
        cases b
        · conv => whnf
          refine ⟨[], false, ?_⟩
          conv => whnf
          exact ⟨_, false, _, rfl, rfl, fun h => by cases h⟩
        · conv => whnf
          refine ⟨some [0, 1, 2, 3, 4, 5, 6, 7], ?_⟩
          conv => whnf
          refine ⟨_, _, by rw [hW1]; exact hsub, ?_⟩
          rw [hW1, hrow]
          rfl
  · refine hcl.mono ?_
    rintro o st' ⟨r, b, log', rfl, rfl, hl⟩
    refine ⟨_, _, _, rfl, rfl, fun hb st' hI => ?_⟩
    obtain ⟨ways, ahead, _, rfl⟩ := hI
    have hfin : (sps.take log'.length) = sps := by rw [hl hb, List.take_of_length_le (by rw [spRows_len]; omega)]
    rw [hfin]
    generalize wRows (waysA [] sps) = olog at *
    conv => whnf
    refine ⟨[], false, ?_⟩
    conv => whnf
    exact ⟨_, true, _, rfl, rfl, fun _ => rfl⟩
end Go.Cod

namespace Go.Cod
open Go Go.Proofs
set_option maxRecDepth 10000

/- What is asked of the ways. -/
def zrows (l : List (List UInt8)) : List (List V) := l.map fun s => [.str s]
theorem zrows_len (l : List (List UInt8)) : (zrows l).length = l.length := by simp [zrows]
def zV (ns : List (List UInt8)) (m : Nat) : V := match ns with
  | [] => .nils
  | _ :: _ => .own m
def zO (ns : List (List UInt8)) : List O := match ns with
  | [] => []
  | _ :: _ => [⟨zrows ns, 1, true, true, false, .cell⟩]
theorem zO_snoc (n0 : List UInt8) (ns : List (List UInt8)) (n : List UInt8) : zO ((n0 :: ns) ++ [n]) = [⟨zrows (n0 :: ns) ++ [[.str n]], 1, true, true, false, .cell⟩] := by
  show [(⟨zrows ((n0 :: ns) ++ [n]), 1, true, true, false, .cell⟩ : O)] = _
  simp [zrows]
def W.at (p : List UInt8) (e : W) : Bool := decide (e.way = p)
def pathsAt (t : T) (x : Int) : List (List UInt8) := if okT t then ((waysA [] (spT t 0 1)).filter (W.has x)).map W.way else []
def W.id (e : W) : Int := e.sp.1.id
def idsAt (t : T) (p : List UInt8) : List Int := if okT t then ((waysA [] (spT t 0 1)).filter (W.at p)).map W.id else []
theorem pathOf1_full (w : List UInt8) (x : Int) (t : T) : Full Tryd.prog noY 60 [.str w, .agg t.cells, .ptr 0 0 0] [wbox (.int .i64 x) 1] (fun o st' => ∃ b : Bool, (b = true ↔ t.id = x) ∧ o = .ret (.tup [.str w, .bool b]) ∧ st' = [wbox (.int .i64 x) 1]) := by
  cases t with
  | mk id kind text kids =>
  refine full_of_awp good Tryd.func60 rfl (by kernel_rfl) (by decide) ?_
  conv => whnf
  refine ⟨[], false, ?_⟩
  conv => whnf
  exact ⟨eqB id x, by rw [eqB_def]; exact decide_eq_true_iff, rfl, rfl⟩
theorem pathFind1_full (w p : List UInt8) (t : T) : Full Tryd.prog noY 63 [.str w, .agg t.cells, .ptr 0 0 0] [wbox (.str p) 1] (fun o st' => ∃ b : Bool, (b = true ↔ w = p) ∧ o = .ret (.tup [.int .i64 t.id, .bool b]) ∧ st' = [wbox (.str p) 1]) := by
  cases t with
  | mk id kind text kids =>
  refine full_of_awp good Tryd.func63 rfl (by kernel_rfl) (by decide) ?_
  conv => whnf
  refine ⟨[], false, ?_⟩
  conv => whnf
  exact ⟨eqS w p, eqS_iff, rfl, rfl⟩
set_option maxHeartbeats 8000000 in
theorem treeAskedPath (t : T) (hs : t.Small) (x : Int) :
    Full Tryd.prog noY 39 [.agg t.cells, .fn 60 [.ptr 0 0 0]] [wbox (.int .i64 x) 1] (fun o st' => o = .ret (.sl (zrows (pathsAt t x))) ∧ st' = [wbox (.int .i64 x) 1]) := by
  have hsps := spT_sm t 0 1 hs
  have hok := implTreeOk_pure t hs hsps
  have hkd : pathsAt t x = if okT t then ((waysA [] (spT t 0 1)).filter (W.has x)).map W.way else [] := rfl
  generalize pathsAt t x = res at *
  cases hb : okT t with
  | false =>
    rw [hb] at hok hkd
    have hkd : res = [] := hkd
    subst hkd
    cases t with
    | mk id kind text kids =>
    refine full_of_awp good Tryd.func39 rfl (by kernel_rfl) (by decide) ?_
    conv => whnf
    refine .inl (hok.mono ?_)
    rintro r rfl
    conv => whnf
    refine ⟨[], false, ?_⟩
    conv => whnf
    exact ⟨rfl, rfl⟩
  | true =>
    have hcl := treeWays1_exact t hs hb hsps
    rw [hb] at hok hkd
    have hkd : res = ((waysA [] (spT t 0 1)).filter (W.has x)).map W.way := hkd
    have h20 : (spT t 0 1).length ≤ 20 := ((okT_iff t).1 hb).2.2
    have hw := treeWays_full t
    have hokw : okX t = fun log vs => ∃ pre s suf, spT t 0 1 = pre ++ s :: suf ∧ log = wRows (waysA [] pre) ∧ vs = [.str (mkW (waysA [] pre) s).way, .agg s.1.cells] := rfl
    have hbox : boxT t = ⟨[t.cells], 4, true, true, true, .cell⟩ := rfl
    generalize okX t = okw at *
    generalize spT t 0 1 = sps at *
    cases t with
    | mk id kind text kids =>
    refine full_of_awp good Tryd.func39 rfl (by kernel_rfl) (by decide) ?_
    conv => whnf
    refine .inl (hok.mono ?_)
    rintro r rfl
    conv => whnf
    refine .inr (.inl ⟨[], false, ?_⟩)
    conv => whnf
    refine hw.mono ?_
    rintro o st' ⟨rfl, rfl⟩
    conv => whnf
    refine ⟨[4], false, okw, fun log st' => ∃ ids : List (List UInt8), ids = ((waysA [] (sps.take log.length)).filter (W.has x)).map W.way ∧ ids.length ≤ log.length ∧
      st' = [wbox (.int .i64 x) 1, ⟨[(T.mk id kind text kids).cells], 4, true, true, true, .cell⟩, wbox (.fn 60 [.ptr 0 0 0]) 1, wbox (zV ids 5) 1, ⟨[(T.mk id kind text kids).cells], 4, false, true, true, .cell⟩] ++ zO ids, ?_⟩
    conv => whnf
    refine ⟨⟨[], rfl, by simp, rfl⟩, ?_, ?_⟩
    · rintro log vs st' ⟨ids, hids, hil, rfl⟩ ho
      rw [hokw] at ho
      obtain ⟨pre, s, suf, rfl, rfl, rfl⟩ := ho
      have hsl : (wRows (waysA [] pre)).length = pre.length := by rw [wRows_len, waysA_len]
      have htk : (pre ++ s :: suf).take (wRows (waysA [] pre)).length = pre := by rw [hsl]; simp
      have htk1 : ∀ x : List V, (pre ++ s :: suf).take (wRows (waysA [] pre) ++ [x]).length = pre ++ [s] := fun x => by
        rw [List.length_append, hsl]; show List.take (pre.length + 1) _ = _; rw [List.take_append, List.take_of_length_le (by omega)]; simp
      have hlen1 : ∀ x : List V, (wRows (waysA [] pre) ++ [x]).length = pre.length + 1 := fun x => by rw [List.length_append, hsl]; rfl
      rw [htk] at hids
      rw [hsl] at hil
      have hc := pathOf1_full (mkW (waysA [] pre) s).way x s.1
      have hfl : ((waysA [] (pre ++ [s])).filter (W.has x)).map W.way = ids ++ (if s.1.id = x then [(mkW (waysA [] pre) s).way] else []) := by
        rw [waysA_snoc, hids, List.filter_append, List.map_append]
        congr 1
        by_cases e : s.1.id = x <;> simp [W.has, mkW_sp, e]
      rw [List.length_append, List.length_cons] at h20
      refine ⟨rfl, ?_⟩
      generalize (mkW (waysA [] pre) s).way = w at *
      generalize wRows (waysA [] pre) = log at *
      clear hids
      obtain ⟨⟨id', kind', text', kids'⟩, ov, lv⟩ := s
      have hfl : ((waysA [] (pre ++ [((T.mk id' kind' text' kids', ov, lv) : Sp)])).filter (W.has x)).map W.way = ids ++ (if id' = x then [w] else []) := hfl
      rcases ids with _ | ⟨n0, ns⟩
      all_goals
        conv => whnf
        refine ⟨[0], false, ?_⟩
        conv => whnf
        refine hc.mono ?_
        rintro o st' ⟨b, hb', rfl, rfl⟩
        by_cases e : id' = x
        · obtain rfl : b = true := hb'.2 e
          rw [if_pos e] at hfl
          conv => whnf
          refine ⟨fun m hm => by rw [List.mem_singleton.1 hm]; rfl, ?_⟩
          conv => whnf
          first
            | (refine ⟨by show 1 * 16 ≤ _; omega, .inr ⟨(by intro e; cases e), ?_⟩⟩
               conv => whnf
               refine ⟨some [0, 1, 2, 3, 4, 7], ?_⟩
               conv => whnf
               exact ⟨[w], by rw [htk1, hfl]; rfl, by rw [hlen1]; simp, rfl⟩)
            | (refine ⟨by
                 show ((zrows (n0 :: ns)).length + 1) * 16 ≤ _
                 rw [zrows_len]; omega, ?_⟩
               conv => whnf
               refine ⟨some [0, 1, 2, 3, 4, 8], ?_⟩
               conv => whnf
               refine ⟨(n0 :: ns) ++ [w], by rw [htk1, hfl], by rw [hlen1, List.length_append]; simp only [List.length_singleton]; omega, ?_⟩
               rw [zO_snoc]; rfl)
        · obtain rfl : b = false := by
            cases b
            · rfl
            · exact absurd (hb'.1 rfl) e
          rw [if_neg e] at hfl
          conv => whnf
          first
            | (refine ⟨some [0, 1, 2, 3, 4], ?_⟩
               conv => whnf
               exact ⟨_, by rw [htk1, hfl]; rfl, by rw [hlen1]; simp, rfl⟩)
            | (refine ⟨some [0, 1, 2, 3, 4, 5], ?_⟩
               conv => whnf
               exact ⟨n0 :: ns, by rw [htk1, hfl, List.append_nil], by rw [hlen1]; omega, rfl⟩)
    · refine hcl.mono ?_
      rintro o st' ⟨r, b, log', rfl, rfl, hl⟩
      refine ⟨_, _, _, rfl, rfl, fun hb st' hI => ?_⟩
      obtain ⟨ids, hids, hil, rfl⟩ := hI
      rw [hl hb, List.take_of_length_le (by rw [wRows_len, waysA_len]; omega), ← hkd] at hids
      subst hids
      rcases ids with _ | ⟨n0, ns⟩
      all_goals
        conv => whnf
        refine ⟨[], false, ?_⟩
        conv => whnf
        exact ⟨rfl, rfl⟩
set_option maxHeartbeats 8000000 in
theorem treeAskedFind (t : T) (hs : t.Small) (p : List UInt8) :
    Full Tryd.prog noY 50 [.agg t.cells, .fn 63 [.ptr 0 0 0]] [wbox (.str p) 1] (fun o st' => o = .ret (.sl (irows (idsAt t p))) ∧ st' = [wbox (.str p) 1]) := by
  have hsps := spT_sm t 0 1 hs
  have hok := implTreeOk_pure t hs hsps
  have hkd : idsAt t p = if okT t then ((waysA [] (spT t 0 1)).filter (W.at p)).map W.id else [] := rfl
  generalize idsAt t p = res at *
  cases hb : okT t with
  | false =>
    rw [hb] at hok hkd
    have hkd : res = [] := hkd
    subst hkd
    cases t with
    | mk id kind text kids =>
    refine full_of_awp good Tryd.func50 rfl (by kernel_rfl) (by decide) ?_
    conv => whnf
    refine .inl (hok.mono ?_)
    rintro r rfl
    conv => whnf
    refine ⟨[], false, ?_⟩
    conv => whnf
    exact ⟨rfl, rfl⟩
  | true =>
    have hcl := treeWays1_exact t hs hb hsps
    rw [hb] at hok hkd
    have hkd : res = ((waysA [] (spT t 0 1)).filter (W.at p)).map W.id := hkd
    have h20 : (spT t 0 1).length ≤ 20 := ((okT_iff t).1 hb).2.2
    have hw := treeWays_full t
    have hokw : okX t = fun log vs => ∃ pre s suf, spT t 0 1 = pre ++ s :: suf ∧ log = wRows (waysA [] pre) ∧ vs = [.str (mkW (waysA [] pre) s).way, .agg s.1.cells] := rfl
    have hbox : boxT t = ⟨[t.cells], 4, true, true, true, .cell⟩ := rfl
    generalize okX t = okw at *
    generalize spT t 0 1 = sps at *
    cases t with
    | mk id kind text kids =>
    refine full_of_awp good Tryd.func50 rfl (by kernel_rfl) (by decide) ?_
    conv => whnf
    refine .inl (hok.mono ?_)
    rintro r rfl
    conv => whnf
    refine .inr (.inl ⟨[], false, ?_⟩)
    conv => whnf
    refine hw.mono ?_
    rintro o st' ⟨rfl, rfl⟩
    conv => whnf
    refine ⟨[4], false, okw, fun log st' => ∃ ids : List Int, ids = ((waysA [] (sps.take log.length)).filter (W.at p)).map W.id ∧ ids.length ≤ log.length ∧
      st' = [wbox (.str p) 1, ⟨[(T.mk id kind text kids).cells], 4, true, true, true, .cell⟩, wbox (.fn 63 [.ptr 0 0 0]) 1, wbox (slV ids 5) 1, ⟨[(T.mk id kind text kids).cells], 4, false, true, true, .cell⟩] ++ slO ids, ?_⟩
    conv => whnf
    refine ⟨⟨[], rfl, by simp, rfl⟩, ?_, ?_⟩
    · rintro log vs st' ⟨ids, hids, hil, rfl⟩ ho
      rw [hokw] at ho
      obtain ⟨pre, s, suf, rfl, rfl, rfl⟩ := ho
      have hsl : (wRows (waysA [] pre)).length = pre.length := by rw [wRows_len, waysA_len]
      have htk : (pre ++ s :: suf).take (wRows (waysA [] pre)).length = pre := by rw [hsl]; simp
      have htk1 : ∀ x : List V, (pre ++ s :: suf).take (wRows (waysA [] pre) ++ [x]).length = pre ++ [s] := fun x => by
        rw [List.length_append, hsl]; show List.take (pre.length + 1) _ = _; rw [List.take_append, List.take_of_length_le (by omega)]; simp
      have hlen1 : ∀ x : List V, (wRows (waysA [] pre) ++ [x]).length = pre.length + 1 := fun x => by rw [List.length_append, hsl]; rfl
      rw [htk] at hids
      rw [hsl] at hil
      have hc := pathFind1_full (mkW (waysA [] pre) s).way p s.1
      have hfl : ((waysA [] (pre ++ [s])).filter (W.at p)).map W.id = ids ++ (if (mkW (waysA [] pre) s).way = p then [s.1.id] else []) := by
        rw [waysA_snoc, hids, List.filter_append, List.map_append]
        congr 1
        by_cases e : (mkW (waysA [] pre) s).way = p <;> simp [W.at, W.id, mkW_sp, e]
      rw [List.length_append, List.length_cons] at h20
      refine ⟨rfl, ?_⟩
      generalize (mkW (waysA [] pre) s).way = w at *
      generalize wRows (waysA [] pre) = log at *
      clear hids
      obtain ⟨⟨id', kind', text', kids'⟩, ov, lv⟩ := s
      have hfl : ((waysA [] (pre ++ [((T.mk id' kind' text' kids', ov, lv) : Sp)])).filter (W.at p)).map W.id = ids ++ (if w = p then [id'] else []) := hfl
      rcases ids with _ | ⟨n0, ns⟩
      all_goals
        conv => whnf
        refine ⟨[0], false, ?_⟩
        conv => whnf
        refine hc.mono ?_
        rintro o st' ⟨b, hb', rfl, rfl⟩
        by_cases e : w = p
        · obtain rfl : b = true := hb'.2 e
          rw [if_pos e] at hfl
          conv => whnf
          refine ⟨fun m hm => by rw [List.mem_singleton.1 hm]; rfl, ?_⟩
          conv => whnf
          first
            | (refine ⟨by show 1 * 8 ≤ _; omega, .inr ⟨(by intro e; cases e), ?_⟩⟩
               conv => whnf
               refine ⟨some [0, 1, 2, 3, 4, 7], ?_⟩
               conv => whnf
               exact ⟨[id'], by rw [htk1, hfl]; rfl, by rw [hlen1]; simp, rfl⟩)
            | (refine ⟨by
                 show ((irows (n0 :: ns)).length + 1) * 8 ≤ _
                 rw [irows_len]; omega, ?_⟩
               conv => whnf
               refine ⟨some [0, 1, 2, 3, 4, 8], ?_⟩
               conv => whnf
               refine ⟨(n0 :: ns) ++ [id'], by rw [htk1, hfl], by rw [hlen1, List.length_append]; simp only [List.length_singleton]; omega, ?_⟩
               rw [slO_snoc]; rfl)
        · obtain rfl : b = false := by
            cases b
            · rfl
            · exact absurd (hb'.1 rfl) e
          rw [if_neg e] at hfl
          conv => whnf
          first
            | (refine ⟨some [0, 1, 2, 3, 4], ?_⟩
               conv => whnf
               exact ⟨_, by rw [htk1, hfl]; rfl, by rw [hlen1]; simp, rfl⟩)
            | (refine ⟨some [0, 1, 2, 3, 4, 5], ?_⟩
               conv => whnf
               exact ⟨n0 :: ns, by rw [htk1, hfl, List.append_nil], by rw [hlen1]; omega, rfl⟩)
    · refine hcl.mono ?_
      rintro o st' ⟨r, b, log', rfl, rfl, hl⟩
      refine ⟨_, _, _, rfl, rfl, fun hb st' hI => ?_⟩
      obtain ⟨ids, hids, hil, rfl⟩ := hI
      rw [hl hb, List.take_of_length_le (by rw [wRows_len, waysA_len]; omega), ← hkd] at hids
      subst hids
      rcases ids with _ | ⟨n0, ns⟩
      all_goals
        conv => whnf
        refine ⟨[], false, ?_⟩
        conv => whnf
        exact ⟨rfl, rfl⟩
def firstS : List (List UInt8) → List UInt8
  | [] => []
  | s :: _ => s
def firstI : List Int → Int
  | [] => 0
  | s :: _ => s
theorem firstOfS_pure (l : List (List UInt8)) (hl : l.length ≤ 1048576) : Pure Tryd.prog 59 [.sl (zrows l)] (· = .str (firstS l)) := by
  have hlr := zrows_len l
  refine pure_of_awp good Tryd.func59 rfl (by kernel_rfl) (by decide) ?_
  conv => whnf
  refine loop_intro (fun n fr st => st = [] ∧ Holds fr [(6, .sl (zrows l)), (7, .int .i64 l.length), (8, .int .i64 0)]) 0 ⟨rfl, rfl, by rw [← hlr]; rfl, rfl, trivial⟩ ?_
  rintro n fr st ⟨rfl, hh⟩
  obtain ⟨fr, rfl⟩ := hh.split
  clear hh
  conv => whnf
  cases l with
  | nil =>
    rw [ltB_f (by simp)]
    conv => whnf
    rfl
  | cons s l =>
    rw [ltB_t (by simp)]
    conv => whnf
    refine ⟨by omega, zrows (s :: l), [.str s], 1, rfl, rfl, rfl, rfl, ?_⟩
    conv => whnf
    rfl
theorem firstOfI_pure (l : List Int) (hl : l.length ≤ 1048576) : Pure Tryd.prog 62 [.sl (irows l)] (· = .int .i64 (firstI l)) := by
  have hlr := irows_len l
  refine pure_of_awp good Tryd.func62 rfl (by kernel_rfl) (by decide) ?_
  conv => whnf
  refine loop_intro (fun n fr st => st = [] ∧ Holds fr [(6, .sl (irows l)), (7, .int .i64 l.length), (8, .int .i64 0)]) 0 ⟨rfl, rfl, by rw [← hlr]; rfl, rfl, trivial⟩ ?_
  rintro n fr st ⟨rfl, hh⟩
  obtain ⟨fr, rfl⟩ := hh.split
  clear hh
  conv => whnf
  cases l with
  | nil =>
    rw [ltB_f (by simp)]
    conv => whnf
    rfl
  | cons s l =>
    rw [ltB_t (by simp)]
    conv => whnf
    refine ⟨by omega, irows (s :: l), [.int .i64 s], 1, rfl, rfl, rfl, rfl, ?_⟩
    conv => whnf
    rfl
theorem pathsAt_len (t : T) (x : Int) : (pathsAt t x).length ≤ 20 := by
  unfold pathsAt
  split
  · rename_i h
    have := ((okT_iff t).1 h).2.2
    rw [List.length_map]
    exact Nat.le_trans (List.length_filter_le _ _) (by rw [waysA_len]; exact this)
  · simp
theorem idsAt_len (t : T) (p : List UInt8) : (idsAt t p).length ≤ 20 := by
  unfold idsAt
  split
  · rename_i h
    have := ((okT_iff t).1 h).2.2
    rw [List.length_map]
    exact Nat.le_trans (List.length_filter_le _ _) (by rw [waysA_len]; exact this)
  · simp
theorem implPathOf_pure (t : T) (hs : t.Small) (x : Int) : Pure Tryd.prog 25 [.agg t.cells, .int .i64 x] (· = .str (firstS (pathsAt t x))) := by
  have ha := treeAskedPath t hs x
  have hf := firstOfS_pure (pathsAt t x) (Nat.le_trans (pathsAt_len t x) (by omega))
  generalize pathsAt t x = l at *
  generalize zrows l = rows at *
  cases t with
  | mk id kind text kids =>
  refine pure_of_awp good Tryd.func25 rfl (by kernel_rfl) (by decide) ?_
  conv => whnf
  refine ⟨[1], false, ?_⟩
  conv => whnf
  refine ha.mono ?_
  rintro o st' ⟨rfl, rfl⟩
  conv => whnf
  refine .inl (hf.mono ?_)
  rintro r rfl
  conv => whnf
theorem implPathFind_pure (t : T) (hs : t.Small) (p : List UInt8) : Pure Tryd.prog 28 [.agg t.cells, .str p] (· = .int .i64 (firstI (idsAt t p))) := by
  have ha := treeAskedFind t hs p
  have hf := firstOfI_pure (idsAt t p) (Nat.le_trans (idsAt_len t p) (by omega))
  generalize idsAt t p = l at *
  generalize irows l = rows at *
  cases t with
  | mk id kind text kids =>
  refine pure_of_awp good Tryd.func28 rfl (by kernel_rfl) (by decide) ?_
  conv => whnf
  refine ⟨[1], false, ?_⟩
  conv => whnf
  refine ha.mono ?_
  rintro o st' ⟨rfl, rfl⟩
  conv => whnf
  refine .inl (hf.mono ?_)
  rintro r rfl
  conv => whnf
end Go.Cod

namespace Go.Cod
open Go Go.Proofs
set_option maxRecDepth 10000

/- What follows of the order of things. -/
theorem split_at {α : Type} {a b pre suf : List α} {s : α} (h : a ++ b = pre ++ s :: suf) : (∃ suf', a = pre ++ s :: suf') ∨ ∃ pre', pre = a ++ pre' ∧ b = pre' ++ s :: suf := by
  rcases List.append_eq_append_iff.1 h with ⟨a', h1, h2⟩ | ⟨c', h1, h2⟩
  · exact .inr ⟨a', h1, h2⟩
  · cases c' with
    | nil => exact .inr ⟨[], by simpa using h1.symm, by simpa using h2.symm⟩
    | cons x xs =>
      simp only [List.cons_append, List.cons.injEq] at h2
      obtain ⟨rfl, _⟩ := h2
      exact .inl ⟨xs, h1⟩
mutual
theorem predT : ∀ (t : T) (ov lv : Int) (pre suf : List Sp) (s : Sp), spT t ov lv = pre ++ s :: suf → (pre = [] ∧ s = (t, ov, lv)) ∨ ∃ p ∈ pre, p.1.id = s.2.1
  | .mk id kind text kids, ov, lv, pre, suf, s, h => by
    simp only [spT] at h
    cases pre with
    | nil =>
      simp only [List.nil_append, List.cons.injEq] at h
      exact .inl ⟨rfl, h.1.symm⟩
    | cons p pre =>
      simp only [List.cons_append, List.cons.injEq] at h
      obtain ⟨rfl, h⟩ := h
      refine .inr ?_
      rcases predL kids id _ pre suf s h with e | ⟨p, hp, e⟩
      · exact ⟨_, List.mem_cons_self .., by rw [e]; rfl⟩
      · exact ⟨p, List.mem_cons_of_mem _ hp, e⟩
theorem predL : ∀ (ts : List T) (ov lv : Int) (pre suf : List Sp) (s : Sp), spL ts ov lv = pre ++ s :: suf → s.2.1 = ov ∨ ∃ p ∈ pre, p.1.id = s.2.1
  | [], _, _, pre, suf, s, h => by simp [spL] at h
  | t :: ts, ov, lv, pre, suf, s, h => by
    simp only [spL] at h
    rcases split_at h with ⟨suf', h⟩ | ⟨pre', rfl, h'⟩
    · rcases predT t ov lv pre suf' s h with ⟨_, rfl⟩ | h
      · exact .inl rfl
      · exact .inr h
    · rcases predL ts ov lv pre' suf s h' with e | ⟨p, hp, e⟩
      · exact .inl e
      · exact .inr ⟨p, by simp [hp], e⟩
end
mutual
theorem overs_T : ∀ (t : T) (ov lv : Int), ∀ s ∈ spT t ov lv, s.2.1 = ov ∨ s.2.1 ∈ t.ids
  | .mk id kind text kids, ov, lv, s, h => by
    simp only [spT, List.mem_cons] at h
    rcases h with rfl | h
    · exact .inl rfl
    · refine .inr ?_
      simp only [T.ids, List.mem_cons]
      exact overs_L kids id _ s h
theorem overs_L : ∀ (ts : List T) (ov lv : Int), ∀ s ∈ spL ts ov lv, s.2.1 = ov ∨ s.2.1 ∈ T.idsL ts
  | [], _, _, s, h => by simp [spL] at h
  | t :: ts, ov, lv, s, h => by
    simp only [spL, List.mem_append] at h
    simp only [T.idsL, List.mem_append]
    rcases h with h | h
    · rcases overs_T t ov lv s h with h | h
      · exact .inl h
      · exact .inr (.inl h)
    · rcases overs_L ts ov lv s h with h | h
      · exact .inl h
      · exact .inr (.inr h)
end
def inO (o : Int) (s : Sp) : Bool := decide (s.2.1 = o)
theorem inO_none {l : List Sp} {o : Int} (h : ∀ s ∈ l, s.2.1 ≠ o) : l.filter (inO o) = [] := by
  rw [List.filter_eq_nil_iff]
  intro s hs
  simp [inO, h s hs]
theorem kids_here : ∀ (ts : List T) (o lv : Int), o ∉ T.idsL ts → ((spL ts o lv).filter (inO o)).map (·.1) = ts
  | [], _, _, _ => rfl
  | t :: ts, o, lv, h => by
    simp only [T.idsL, List.mem_append, not_or] at h
    have ih := kids_here ts o lv h.2
    simp only [spL, List.filter_append, List.map_append, ih]
    have : (spT t o lv).filter (inO o) = [(t, o, lv)] := by
      cases t with
      | mk id kind text kids =>
      simp only [T.ids, List.mem_cons, not_or] at h
      simp only [spT, List.filter_cons]
      rw [if_pos (by simp [inO])]
      congr 1
      refine inO_none fun s hs e => ?_
      rcases overs_L kids id _ s hs with h' | h'
      · exact h.1.1 (by rw [← e, h'])
      · exact h.1.2 (by rw [← e]; exact h')
    rw [this]; rfl
mutual
theorem kids_T : ∀ (t : T) (ov lv : Int) (y : T), t.ids.Nodup → ov ≠ y.id → fT t y.id = some y → ((spT t ov lv).filter (inO y.id)).map (·.1) = y.kids
  | .mk id kind text kids, ov, lv, y, hn, ho, hf => by
    simp only [T.ids, List.nodup_cons] at hn
    simp only [fT] at hf
    have e0 : spT (.mk id kind text kids) ov lv = (.mk id kind text kids, ov, lv) :: spL kids id (IntKind.i64.wrap (lv + 1)) := by simp only [spT]
    rw [e0, List.filter_cons, if_neg (by simp [inO, ho])]
    split at hf
    · rename_i e
      cases hf
      exact kids_here kids id _ hn.1
    · rename_i e
      exact kids_L kids id _ y hn.2 e hf
theorem kids_L : ∀ (ts : List T) (ov lv : Int) (y : T), (T.idsL ts).Nodup → ov ≠ y.id → fL ts y.id = some y → ((spL ts ov lv).filter (inO y.id)).map (·.1) = y.kids
  | [], _, _, y, _, _, hf => by simp [fL] at hf
  | t :: ts, ov, lv, y, hn, ho, hf => by
    simp only [T.idsL, List.nodup_append] at hn
    simp only [fL] at hf
    simp only [spL, List.filter_append, List.map_append]
    split at hf
    · rename_i s hs
      cases hf
      rw [kids_T t ov lv y hn.1 ho hs, inO_none (l := spL ts ov lv) fun s hs' e => ?_]
      · simp
      · rcases overs_L ts ov lv s hs' with h | h
        · exact ho (by rw [← e, h])
        · have : y.id ∈ t.ids := by
            obtain ⟨h1, h2, _⟩ := fT_spec t y.id y hs
            exact h2.subset y.id_mem
          exact hn.2.2 _ this _ (by rw [← e]; exact h) rfl
    · rename_i hs
      rw [kids_L ts ov lv y hn.2.1 ho hf, inO_none (l := spT t ov lv) fun s hs' e => ?_]
      · simp
      · rcases overs_T t ov lv s hs' with h | h
        · exact ho (by rw [← e, h])
        · have : y.id ∈ T.idsL ts := by
            obtain ⟨h1, h2, _⟩ := fL_spec ts y.id y hf
            exact h2.subset y.id_mem
          exact hn.2.2 _ (by rw [← e]; exact h) _ this rfl
end

/- No way twice. -/
theorem cutAt {c : UInt8} {a b x y : List UInt8} (hx : c ∉ x) (hy : c ∉ y) (h : a ++ c :: x = b ++ c :: y) : a = b ∧ x = y := by
  rcases List.append_eq_append_iff.1 h with ⟨a', h1, h2⟩ | ⟨c', h1, h2⟩
  · cases a' with
    | nil =>
      simp only [List.nil_append, List.cons.injEq, true_and] at h2
      exact ⟨by simpa using h1.symm, h2⟩
    | cons d ds =>
      simp only [List.cons_append, List.cons.injEq] at h2
      exact absurd (by rw [h2.2]; simp) hx
  · cases c' with
    | nil =>
      simp only [List.nil_append, List.cons.injEq, true_and] at h2
      exact ⟨by simpa using h1, h2.symm⟩
    | cons d ds =>
      simp only [List.cons_append, List.cons.injEq] at h2
      exact absurd (by rw [h2.2]; simp) hy
theorem inj_of_nodup {α β : Type} {f : α → β} : ∀ {l : List α}, (l.map f).Nodup → ∀ a ∈ l, ∀ b ∈ l, f a = f b → a = b
  | [], _, a, ha, _, _, _ => by simp at ha
  | x :: l, h, a, ha, b, hb, e => by
    simp only [List.map_cons, List.nodup_cons] at h
    rcases List.mem_cons.1 ha with e1 | ha' <;> rcases List.mem_cons.1 hb with e2 | hb'
    · rw [e1, e2]
    · exact absurd (List.mem_map.2 ⟨b, hb', by rw [← e, e1]⟩) h.1
    · exact absurd (List.mem_map.2 ⟨a, ha', by rw [e, e2]⟩) h.1
    · exact inj_of_nodup h.2 a ha' b hb' e

/-- A list of things as a tree that is ok has it. -/
structure Good (l : List Sp) : Prop where
  nd : (l.map idS).Nodup
  kd : ∀ s ∈ l, (46 : UInt8) ∉ s.1.kd ∧ (47 : UInt8) ∉ s.1.kd
  len : l.length ≤ 20
  ov : ∀ pre s suf, l = pre ++ s :: suf → (pre = [] ∧ s.2.1 = 0) ∨ (s.2.1 ≠ 0 ∧ ∃ p ∈ pre, p.1.id = s.2.1)
theorem Good.left {a b : List Sp} (h : Good (a ++ b)) : Good a := by
  refine ⟨?_, fun s hs => h.kd s (by simp [hs]), by have := h.len; simp at this; omega, fun pre s suf e => h.ov pre s (suf ++ b) (by rw [e]; simp)⟩
  have := h.nd
  rw [List.map_append, List.nodup_append] at this
  exact this.1
theorem waysA_mem {l : List Sp} {e : W} (h : e ∈ waysA [] l) : ∃ pre s suf, l = pre ++ s :: suf ∧ e = mkW (waysA [] pre) s := by
  suffices hg : ∀ n, n ≤ l.length → e ∈ waysA [] (l.take n) → ∃ pre s suf, l = pre ++ s :: suf ∧ e = mkW (waysA [] pre) s from
    hg l.length (Nat.le_refl _) (by rwa [List.take_length])
  intro n
  induction n with
  | zero => intro _ h; simp [waysA] at h
  | succ n ih =>
    intro hn h
    rw [List.take_succ_eq_append_getElem (by omega), waysA_snoc, List.mem_append, List.mem_singleton] at h
    rcases h with h | rfl
    · exact ih (by omega) h
    · exact ⟨l.take n, l[n], l.drop (n + 1), by rw [← List.drop_eq_getElem_cons (by omega), List.take_append_drop], rfl⟩
theorem waysA_ext (a b : List Sp) : ∃ r, waysA [] (a ++ b) = waysA [] a ++ r := by
  induction b generalizing a with
  | nil => exact ⟨[], by simp⟩
  | cons s b ih =>
    obtain ⟨r, hr⟩ := ih (a ++ [s])
    rw [waysA_snoc, List.append_assoc, List.append_assoc] at hr
    exact ⟨_, by rw [show a ++ s :: b = a ++ ([s] ++ b) by simp]; exact hr⟩
theorem mkW_root {acc : List W} {s : Sp} (h : s.2.1 = 0) : mkW acc s = ⟨s.1.kd, [], s⟩ := by unfold mkW; rw [if_pos h]
theorem mkW_sub {acc : List W} {s : Sp} (h : s.2.1 ≠ 0) : mkW acc s = ⟨stemW acc s ++ decB (acc.countP (W.of (stemW acc s))), stemW acc s, s⟩ := by unfold mkW; rw [if_neg h]
theorem Good.fresh {pre suf : List Sp} {s : Sp} (h : Good (pre ++ s :: suf)) {e : W} (he : e ∈ waysA [] pre) : e.way ≠ (mkW (waysA [] pre) s).way := by
  obtain ⟨pre1, s1, suf1, rfl, rfl⟩ := waysA_mem he
  have hlen := h.len
  simp only [List.length_append, List.length_cons] at hlen
  have hs0 : s.2.1 ≠ 0 := by
    rcases h.ov (pre1 ++ s1 :: suf1) s suf rfl with ⟨e, _⟩ | ⟨e, _⟩
    · simp at e
    · exact e
  obtain ⟨r, hr⟩ := waysA_ext (pre1 ++ [s1]) suf1
  rw [List.append_assoc, waysA_snoc] at hr
  have hr : waysA [] (pre1 ++ s1 :: suf1) = waysA [] pre1 ++ [mkW (waysA [] pre1) s1] ++ r := hr
  have hL : ∀ st, (waysA [] (pre1 ++ s1 :: suf1)).countP (W.of st) < 30 := fun st => by
    have := List.countP_le_length (p := W.of st) (l := waysA [] (pre1 ++ s1 :: suf1))
    rw [waysA_len] at this; simp only [List.length_append, List.length_cons] at this; omega
  have hL1 : ∀ st, (waysA [] pre1).countP (W.of st) < 30 := fun st => by
    have := List.countP_le_length (p := W.of st) (l := waysA [] pre1)
    rw [waysA_len] at this; omega
  intro e
  rw [mkW_sub hs0] at e
  by_cases h1 : s1.2.1 = 0
  · rw [mkW_root h1] at e
    have hk := (h.kd s1 (by simp)).2
    simp only at e
    rw [e] at hk
    exact hk (by simp [stemW])
  · rw [mkW_sub h1] at e
    simp only [stemW, List.append_assoc] at e
    have e1 : (((wFind (waysA [] pre1) s1.2.1).getD [] ++ [47]) ++ s1.1.kd) ++ 46 :: decB ((waysA [] pre1).countP (W.of (stemW (waysA [] pre1) s1))) = (((wFind (waysA [] (pre1 ++ s1 :: suf1)) s.2.1).getD [] ++ [47]) ++ s.1.kd) ++ 46 :: decB ((waysA [] (pre1 ++ s1 :: suf1)).countP (W.of (stemW (waysA [] (pre1 ++ s1 :: suf1)) s))) := by
      simpa [stemW, List.append_assoc] using e
    obtain ⟨e2, e3⟩ := cutAt (decB_no _ (by have := hL1 (stemW (waysA [] pre1) s1); omega)).1 (decB_no _ (by have := hL (stemW (waysA [] (pre1 ++ s1 :: suf1)) s); omega)).1 e1
    have e4 := decB_inj _ _ (hL1 _) (hL _) e3
    have e5 : stemW (waysA [] pre1) s1 = stemW (waysA [] (pre1 ++ s1 :: suf1)) s := by simp only [stemW, e2]
    rw [← e5, hr, List.countP_append, List.countP_append, List.countP_singleton, mkW_sub h1] at e4
    simp [W.of] at e4
    omega
theorem Good.nodup {l : List Sp} (h : Good l) : ((waysA [] l).map W.way).Nodup := by
  suffices hg : ∀ n, n ≤ l.length → ((waysA [] (l.take n)).map W.way).Nodup by
    have := hg l.length (Nat.le_refl _)
    rwa [List.take_length] at this
  intro n
  induction n with
  | zero => intro _; simp [waysA]
  | succ n ih =>
    intro hn
    have hsp : l = l.take n ++ l[n] :: l.drop (n + 1) := by rw [← List.drop_eq_getElem_cons (by omega), List.take_append_drop]
    rw [List.take_succ_eq_append_getElem (by omega), waysA_snoc, List.map_append, List.nodup_append]
    refine ⟨ih (by omega), by simp, fun a ha b hb e => ?_⟩
    obtain ⟨x, hx, rfl⟩ := List.mem_map.1 ha
    simp only [List.map_cons, List.map_nil, List.mem_singleton] at hb
    rw [hsp] at h
    exact h.fresh hx (by rw [e, hb])
theorem wFind_some {acc : List W} {i : Int} (h : i ∈ acc.map fun x => x.sp.1.id) : ∃ w, wFind acc i = some w := by
  obtain ⟨e, he, rfl⟩ := List.mem_map.1 h
  unfold wFind
  cases hf : acc.find? (W.has e.sp.1.id) with
  | none =>
    rw [List.find?_eq_none] at hf
    exact absurd (by simp [W.has]) (hf e he)
  | some x => exact ⟨_, rfl⟩
theorem wFind_left {a b : List W} {i : Int} (h : i ∈ a.map fun x => x.sp.1.id) : wFind (a ++ b) i = wFind a i := by
  obtain ⟨w, hw⟩ := wFind_some h
  rw [hw]
  unfold wFind at hw ⊢
  rw [List.find?_append]
  cases hf : a.find? (W.has i) with
  | none => rw [hf] at hw; cases hw
  | some x => rw [hf] at hw; exact hw
theorem Good.stem {pre suf : List Sp} {s : Sp} (h : Good (pre ++ s :: suf)) (hs0 : s.2.1 ≠ 0) {e : W} (he : e ∈ waysA [] pre) : W.of (stemW (waysA [] pre) s) e = (inO s.2.1 e.sp && decide (e.sp.1.kd = s.1.kd)) := by
  have hnd := (Good.left h).nodup
  have hin : ∃ p ∈ pre, p.1.id = s.2.1 := by
    rcases h.ov pre s suf rfl with ⟨_, e⟩ | ⟨_, e⟩
    · exact absurd e hs0
    · exact e
  have hin2 : s.2.1 ∈ (waysA [] pre).map fun x => x.sp.1.id := by
    obtain ⟨p, hp, e⟩ := hin
    rw [waysA_ids]; exact List.mem_map.2 ⟨p, hp, e⟩
  obtain ⟨w, hw⟩ := wFind_some hin2
  obtain ⟨ew, hew, hew1, hew2⟩ := wFind_mem hw
  obtain ⟨pre1, s1, suf1, rfl, rfl⟩ := waysA_mem he
  rw [mkW_sp]
  unfold W.of inO
  by_cases h1 : s1.2.1 = 0
  · rw [mkW_root h1, h1]
    have : ¬ (0 : Int) = s.2.1 := fun e => hs0 e.symm
    simp [stemW, this]
  · rw [mkW_sub h1]
    have hin1 : s1.2.1 ∈ (waysA [] pre1).map fun x => x.sp.1.id := by
      rcases h.ov pre1 s1 (suf1 ++ s :: suf) (by simp) with ⟨_, e⟩ | ⟨_, p, hp, e⟩
      · exact absurd e h1
      · rw [waysA_ids]; exact List.mem_map.2 ⟨p, hp, e⟩
    obtain ⟨w1, hw1⟩ := wFind_some hin1
    obtain ⟨r, hr⟩ := waysA_ext pre1 (s1 :: suf1)
    have hw1' : wFind (waysA [] (pre1 ++ s1 :: suf1)) s1.2.1 = some w1 := by rw [hr, wFind_left hin1, hw1]
    obtain ⟨e1, he1, he11, he12⟩ := wFind_mem hw1'
    have hk1 := (h.kd s1 (by simp)).2
    have hk := (h.kd s (by simp)).2
    have hst : stemW (waysA [] pre1) s1 = stemW (waysA [] (pre1 ++ s1 :: suf1)) s ↔ s1.2.1 = s.2.1 ∧ s1.1.kd = s.1.kd := by
      simp only [stemW, hw1, hw, Option.getD_some]
      constructor
      · intro e
        have e := List.append_cancel_right e
        simp only [List.append_assoc, List.cons_append, List.nil_append] at e
        obtain ⟨a1, a2⟩ := cutAt hk1 hk e
        have := inj_of_nodup hnd e1 he1 ew hew (by rw [he11, hew1, a1])
        exact ⟨by rw [← he12, ← hew2, this], a2⟩
      · rintro ⟨a1, a2⟩
        rw [← a1, hw1'] at hw
        cases hw
        rw [a2]
    rw [← Bool.decide_and]
    exact decide_eq_decide.2 hst
theorem countP_map_sp (p : Sp → Bool) (l : List W) : l.countP (fun e => p e.sp) = (l.map W.sp).countP p := by
  rw [List.countP_map]; rfl
theorem Good.count {pre suf : List Sp} {s : Sp} (h : Good (pre ++ s :: suf)) (hs0 : s.2.1 ≠ 0) : (waysA [] pre).countP (W.of (stemW (waysA [] pre) s)) = (pre.filter (inO s.2.1)).countP fun x => decide (x.1.kd = s.1.kd) := by
  rw [List.countP_filter]
  have e1 : (waysA [] pre).countP (W.of (stemW (waysA [] pre) s)) = (waysA [] pre).countP fun e => (fun x : Sp => decide (x.1.kd = s.1.kd) && inO s.2.1 x) e.sp := by
    refine List.countP_congr fun e he => ?_
    rw [h.stem hs0 he, Bool.and_comm]
  refine e1.trans ((countP_map_sp (fun x : Sp => decide (x.1.kd = s.1.kd) && inO s.2.1 x) _).trans ?_)
  rw [waysA_sp]
  simp

/- The place of a thing among those of its kind beside it. -/
def placeL (k : List UInt8) (x : Int) : List T → Nat
  | [] => 0
  | t :: ts => if t.id = x then 0 else (if t.kd = k then 1 else 0) + placeL k x ts
theorem placeL_at (k : List UInt8) (s : T) : ∀ (a b : List T), s.id ∉ a.map T.id → placeL k s.id (a ++ s :: b) = a.countP fun x => decide (x.kd = k)
  | [], b, _ => by simp [placeL]
  | t :: a, b, h => by
    simp only [List.map_cons, List.mem_cons, not_or] at h
    have ih := placeL_at k s a b h.2
    simp only [List.cons_append, placeL, ih, List.countP_cons]
    rw [if_neg (fun e => h.1 e.symm)]
    by_cases hk : t.kd = k <;> simp [hk, Nat.add_comm]
theorem good_of_ok {t : T} (h : okT t = true) : Good (spT t 0 1) := by
  obtain ⟨h1, h2, h3⟩ := (okT_iff t).1 h
  refine ⟨h2, fun s hs => ?_, h3, fun pre s suf e => ?_⟩
  · have := (h1 s hs).2
    obtain ⟨⟨id, kind, text, kids⟩, ov, lv⟩ := s
    simp only [T.thing_mk, thingB, Bool.and_eq_true] at this
    have hn := this.1.2
    simp only [nameL, lower, Bool.and_eq_true, List.all_eq_true] at hn
    have hl := hn.1
    show (46 : UInt8) ∉ kind ∧ (47 : UInt8) ∉ kind
    refine ⟨fun hm => ?_, fun hm => ?_⟩
    · have := hl 46 hm; revert this; decide
    · have := hl 47 hm; revert this; decide
  · rcases predT t 0 1 pre suf s e with ⟨rfl, rfl⟩ | ⟨p, hp, e'⟩
    · exact .inl ⟨rfl, rfl⟩
    · refine .inr ⟨?_, p, hp, e'⟩
      have hp1 := plainT_pos t 1 ((okT_iff' t).1 h).1 p.1.id (by rw [← spT_ids t 0 1, e]; simp; exact .inl ⟨_, _, _, hp, rfl⟩)
      omega
end Go.Cod

