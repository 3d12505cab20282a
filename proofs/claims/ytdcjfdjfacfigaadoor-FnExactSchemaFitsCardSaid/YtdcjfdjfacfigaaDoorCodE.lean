/- Own texts. -/
import Derived.Test.YtdcjfdjfacfigaaDoorChecked
import Derived.Test.YtdcjfdjfacfigaaDoorRows
import Derived.WalkKit
import Derived.LaidEql
import Derived.RowKitTokens
import Derived.Stop.LaidErr
import Derived.ProofKit
import Derived.OpenShut
import Derived.JoinedOf
import Derived.Handed
import Derived.Test.YtdcjfdjfacfigaaDoorCards
import Derived.Test.YtdcjfdjfacfigaaDoorTie
import Derived.LaidMore
import Derived.LaidOnce
import Derived.SevenTiedAt
import Derived.Test.YtdcjfdjfacfigaaDoorCodD
set_option linter.all false
namespace Go.Cod
open Go Go.Proofs
variable [Adr]
instance lam0 : Lam := ⟨fun g => match g with
  | 0 => some (sentCells 169 0)
  | 1 => some (sentCells 169 1)
  | 2 => some (sentCells 169 2)
  | 3 => some (sentCells 169 3)
  | 4 => some (sentCells 169 4)
  | 5 => some (sentCells 169 5)
  | _ => none, fun g => Nat.beq g 999999, fun g => Nat.beq g 999999⟩

def tauL : List (Nat × TI) := [
  (1, ⟨.other, 1, 8, .raw .nilFunc, [], []⟩),
  (2, ⟨.int .i64, 1, 8, .int .i64 0, [], []⟩),
  (3, ⟨.int .i64, 1, 8, .int .i64 0, [], []⟩),
  (4, ⟨.bool, 1, 1, .bool false, [], []⟩),
  (5, ⟨.int .u8, 1, 1, .int .u8 0, [], []⟩),
  (6, ⟨.int .u8, 1, 1, .int .u8 0, [], []⟩),
  (7, ⟨.agg, 4, 24, .agg [.int .i64 0, .int .i64 0, .bool false, .int .u8 0], [(0, 1, false), (1, 1, false), (2, 1, false), (3, 1, false)], []⟩),
  (8, ⟨.agg, 4, 24, .agg [.int .i64 0, .int .i64 0, .bool false, .int .u8 0], [(0, 1, false), (1, 1, false), (2, 1, false), (3, 1, false)], []⟩),
  (9, ⟨.str, 1, 16, .str [], [], []⟩),
  (10, ⟨.str, 1, 16, .str [], [], []⟩),
  (11, ⟨.str, 1, 16, .str [], [], []⟩),
  (12, ⟨.int .u64, 1, 8, .int .u64 0, [], []⟩),
  (13, ⟨.agg, 2, 24, .agg [.str [], .int .u64 0], [(0, 1, false), (1, 1, false)], []⟩),
  (14, ⟨.agg, 2, 24, .agg [.str [], .int .u64 0], [(0, 1, false), (1, 1, false)], []⟩),
  (15, ⟨.ptr, 1, 8, .raw (.pointer none), [], []⟩),
  (16, ⟨.ptr, 1, 8, .raw (.pointer none), [], []⟩),
  (17, ⟨.ptr, 1, 8, .raw (.pointer none), [], []⟩),
  (18, ⟨.agg, 1, 8, .agg [.raw (.pointer none)], [(0, 1, false)], []⟩),
  (19, ⟨.agg, 1, 8, .agg [.raw (.pointer none)], [(0, 1, false)], []⟩),
  (20, ⟨.iface, 1, 16, .raw .nilIface, [], []⟩),
  (21, ⟨.int .i32, 1, 4, .int .i32 0, [], []⟩),
  (22, ⟨.slice 111, 1, 24, .nils, [], []⟩),
  (23, ⟨.agg, 2, 40, .agg [.str [], .nils], [(0, 1, false), (1, 1, false)], []⟩),
  (24, ⟨.agg, 2, 40, .agg [.str [], .nils], [(0, 1, false), (1, 1, false)], []⟩),
  (25, ⟨.slice 27, 1, 24, .nils, [], []⟩),
  (26, ⟨.agg, 4, 64, .agg [.int .i64 0, .str [], .str [], .nils], [(0, 1, false), (1, 1, false), (2, 1, false), (3, 1, false)], []⟩),
  (27, ⟨.agg, 4, 64, .agg [.int .i64 0, .str [], .str [], .nils], [(0, 1, false), (1, 1, false), (2, 1, false), (3, 1, false)], []⟩),
  (28, ⟨.other, 1, 8, .raw .nilFunc, [], []⟩),
  (29, ⟨.other, 1, 8, .raw .nilFunc, [], []⟩),
  (30, ⟨.other, 1, 8, .raw .nilFunc, [], []⟩),
  (31, ⟨.slice 54, 1, 24, .nils, [], []⟩),
  (32, ⟨.agg, 2, 40, .agg [.str [], .nils], [(0, 1, false), (1, 1, false)], []⟩),
  (33, ⟨.agg, 2, 40, .agg [.str [], .nils], [(0, 1, false), (1, 1, false)], []⟩),
  (34, ⟨.other, 1, 8, .raw .nilFunc, [], []⟩),
  (35, ⟨.slice 37, 1, 24, .nils, [], []⟩),
  (36, ⟨.agg, 4, 64, .agg [.int .i64 0, .str [], .str [], .nils], [(0, 1, false), (1, 1, false), (2, 1, false), (3, 1, false)], []⟩),
  (37, ⟨.agg, 4, 64, .agg [.int .i64 0, .str [], .str [], .nils], [(0, 1, false), (1, 1, false), (2, 1, false), (3, 1, false)], []⟩),
  (38, ⟨.other, 1, 8, .raw .nilFunc, [], []⟩),
  (39, ⟨.other, 1, 8, .raw .nilFunc, [], []⟩),
  (40, ⟨.other, 1, 8, .raw .nilFunc, [], []⟩),
  (41, ⟨.other, 1, 8, .raw .nilFunc, [], []⟩),
  (42, ⟨.slice 5, 1, 24, .nils, [], []⟩),
  (44, ⟨.other, 1, 8, .raw .nilFunc, [], []⟩),
  (45, ⟨.other, 1, 8, .raw .nilFunc, [], []⟩),
  (46, ⟨.other, 1, 8, .raw .nilFunc, [], []⟩),
  (47, ⟨.slice 3, 1, 24, .nils, [], []⟩),
  (48, ⟨.other, 1, 8, .raw .nilFunc, [], []⟩),
  (50, ⟨.other, 1, 8, .raw .nilFunc, [], []⟩),
  (51, ⟨.slice 9, 1, 24, .nils, [], []⟩),
  (52, ⟨.slice 60, 1, 24, .nils, [], []⟩),
  (53, ⟨.agg, 3, 48, .agg [.str [], .bool false, .nils], [(0, 1, false), (1, 1, false), (2, 1, false)], []⟩),
  (54, ⟨.agg, 3, 48, .agg [.str [], .bool false, .nils], [(0, 1, false), (1, 1, false), (2, 1, false)], []⟩),
  (55, ⟨.other, 1, 8, .raw .nilFunc, [], []⟩),
  (56, ⟨.other, 1, 8, .raw .nilFunc, [], []⟩),
  (58, ⟨.other, 1, 8, .raw .nilFunc, [], []⟩),
  (59, ⟨.agg, 3, 24, .agg [.str [], .bool false, .bool false], [(0, 1, false), (1, 1, false), (2, 1, false)], []⟩),
  (60, ⟨.agg, 3, 24, .agg [.str [], .bool false, .bool false], [(0, 1, false), (1, 1, false), (2, 1, false)], []⟩),
  (61, ⟨.other, 1, 8, .raw .nilFunc, [], []⟩),
  (62, ⟨.other, 1, 8, .raw .nilFunc, [], []⟩),
  (63, ⟨.other, 1, 8, .raw .nilFunc, [], []⟩),
  (64, ⟨.other, 1, 8, .raw .nilFunc, [], []⟩),
  (65, ⟨.other, 1, 8, .raw .nilFunc, [], []⟩),
  (66, ⟨.other, 1, 8, .raw .nilFunc, [], []⟩),
  (67, ⟨.other, 1, 8, .raw .nilFunc, [], []⟩),
  (68, ⟨.other, 1, 8, .raw .nilFunc, [], []⟩),
  (69, ⟨.other, 1, 8, .raw .nilFunc, [], []⟩),
  (70, ⟨.other, 1, 8, .raw .nilFunc, [], []⟩),
  (71, ⟨.agg, 6, 80, .agg [.int .i64 0, .str [], .str [], .nils, .int .i64 0, .int .i64 0], [(0, 4, true), (4, 1, false), (5, 1, false)], []⟩),
  (72, ⟨.agg, 6, 80, .agg [.int .i64 0, .str [], .str [], .nils, .int .i64 0, .int .i64 0], [(0, 4, true), (4, 1, false), (5, 1, false)], []⟩),
  (73, ⟨.iface, 1, 16, .raw .nilIface, [], []⟩),
  (74, ⟨.iface, 1, 16, .raw .nilIface, [], []⟩),
  (75, ⟨.other, 1, 8, .raw .nilFunc, [], []⟩),
  (76, ⟨.other, 1, 8, .raw .nilFunc, [], []⟩),
  (77, ⟨.other, 1, 8, .raw .nilFunc, [], []⟩),
  (78, ⟨.ptr, 1, 8, .raw (.pointer none), [], [("loop.example/codicil/spec.of", 56), ("loop.example/codicil/spec.pick", 39)]⟩),
  (79, ⟨.other, 1, 8, .raw .nilFunc, [], []⟩),
  (80, ⟨.other, 1, 8, .raw .nilFunc, [], []⟩),
  (81, ⟨.other, 1, 8, .raw .nilFunc, [], []⟩),
  (82, ⟨.other, 1, 8, .raw .nilFunc, [], []⟩),
  (83, ⟨.other, 1, 8, .raw .nilFunc, [], []⟩),
  (84, ⟨.other, 1, 8, .raw .nilFunc, [], []⟩),
  (85, ⟨.other, 1, 8, .raw .nilFunc, [], []⟩),
  (86, ⟨.map 3 4, 1, 8, .raw (.map none), [], []⟩),
  (87, ⟨.other, 1, 8, .raw .nilFunc, [], []⟩),
  (88, ⟨.other, 1, 8, .raw .nilFunc, [], []⟩),
  (89, ⟨.other, 1, 8, .raw .nilFunc, [], []⟩),
  (90, ⟨.other, 1, 8, .raw .nilFunc, [], []⟩),
  (91, ⟨.other, 1, 8, .raw .nilFunc, [], []⟩),
  (93, ⟨.other, 1, 8, .raw .nilFunc, [], []⟩),
  (94, ⟨.other, 1, 8, .raw .nilFunc, [], []⟩),
  (96, ⟨.other, 1, 8, .raw .nilFunc, [], []⟩),
  (97, ⟨.other, 1, 8, .raw .nilFunc, [], []⟩),
  (98, ⟨.other, 1, 8, .raw .nilFunc, [], []⟩),
  (99, ⟨.other, 1, 8, .raw .nilFunc, [], []⟩),
  (100, ⟨.other, 1, 8, .raw .nilFunc, [], []⟩),
  (101, ⟨.other, 1, 8, .raw .nilFunc, [], []⟩),
  (102, ⟨.ptr, 1, 8, .raw (.pointer none), [], []⟩),
  (103, ⟨.agg, 2, 32, .agg [.raw (.pointer none), .nils], [(0, 1, false), (1, 1, false)], []⟩),
  (104, ⟨.agg, 2, 32, .agg [.raw (.pointer none), .nils], [(0, 1, false), (1, 1, false)], []⟩),
  (106, ⟨.other, 1, 8, .raw .nilFunc, [], []⟩),
  (107, ⟨.other, 1, 8, .raw .nilFunc, [], []⟩),
  (108, ⟨.other, 1, 8, .raw .nilFunc, [], []⟩),
  (109, ⟨.slice 166, 1, 24, .nils, [], []⟩),
  (110, ⟨.agg, 3, 48, .agg [.str [], .bool false, .nils], [(0, 1, false), (1, 1, false), (2, 1, false)], []⟩),
  (111, ⟨.agg, 3, 48, .agg [.str [], .bool false, .nils], [(0, 1, false), (1, 1, false), (2, 1, false)], []⟩),
  (112, ⟨.other, 1, 8, .raw .nilFunc, [], []⟩),
  (113, ⟨.other, 1, 8, .raw .nilFunc, [], []⟩),
  (114, ⟨.other, 1, 8, .raw .nilFunc, [], []⟩),
  (115, ⟨.other, 1, 8, .raw .nilFunc, [], []⟩),
  (116, ⟨.other, 1, 8, .raw .nilFunc, [], []⟩),
  (117, ⟨.other, 1, 8, .raw .nilFunc, [], []⟩),
  (118, ⟨.agg, 2, 32, .agg [.nils, .int .i64 0], [(0, 1, false), (1, 1, false)], []⟩),
  (119, ⟨.agg, 2, 32, .agg [.nils, .int .i64 0], [(0, 1, false), (1, 1, false)], []⟩),
  (120, ⟨.other, 1, 8, .raw .nilFunc, [], []⟩),
  (121, ⟨.ptr, 1, 8, .raw (.pointer none), [], []⟩),
  (122, ⟨.other, 1, 8, .raw .nilFunc, [], []⟩),
  (123, ⟨.other, 1, 8, .raw .nilFunc, [], []⟩),
  (124, ⟨.other, 1, 8, .raw .nilFunc, [], []⟩),
  (125, ⟨.agg, 8, 104, .agg [.int .i64 0, .int .i64 0, .int .i64 0, .int .i64 0, .str [], .str [], .nils, .str []], [(0, 1, false), (1, 1, false), (2, 1, false), (3, 4, true), (7, 1, false)], []⟩),
  (126, ⟨.agg, 8, 104, .agg [.int .i64 0, .int .i64 0, .int .i64 0, .int .i64 0, .str [], .str [], .nils, .str []], [(0, 1, false), (1, 1, false), (2, 1, false), (3, 4, true), (7, 1, false)], []⟩),
  (127, ⟨.other, 1, 8, .raw .nilFunc, [], []⟩),
  (128, ⟨.other, 1, 8, .raw .nilFunc, [], []⟩),
  (129, ⟨.other, 1, 8, .raw .nilFunc, [], []⟩),
  (130, ⟨.other, 1, 8, .raw .nilFunc, [], []⟩),
  (131, ⟨.iface, 1, 16, .raw .nilIface, [], []⟩),
  (132, ⟨.iface, 1, 16, .raw .nilIface, [], []⟩),
  (133, ⟨.other, 1, 8, .raw .nilFunc, [], []⟩),
  (134, ⟨.other, 1, 8, .raw .nilFunc, [], []⟩),
  (135, ⟨.other, 1, 8, .raw .nilFunc, [], []⟩),
  (136, ⟨.other, 1, 8, .raw .nilFunc, [], []⟩),
  (137, ⟨.other, 1, 8, .raw .nilFunc, [], []⟩),
  (138, ⟨.other, 1, 8, .raw .nilFunc, [], []⟩),
  (139, ⟨.other, 1, 8, .raw .nilFunc, [], []⟩),
  (140, ⟨.ptr, 1, 8, .raw (.pointer none), [], []⟩),
  (141, ⟨.other, 1, 8, .raw .nilFunc, [], []⟩),
  (142, ⟨.other, 1, 8, .raw .nilFunc, [], []⟩),
  (143, ⟨.other, 1, 8, .raw .nilFunc, [], []⟩),
  (144, ⟨.other, 1, 8, .raw .nilFunc, [], []⟩),
  (145, ⟨.other, 1, 8, .raw .nilFunc, [], []⟩),
  (146, ⟨.other, 1, 8, .raw .nilFunc, [], []⟩),
  (147, ⟨.other, 1, 8, .raw .nilFunc, [], []⟩),
  (148, ⟨.other, 1, 8, .raw .nilFunc, [], []⟩),
  (149, ⟨.other, 1, 8, .raw .nilFunc, [], []⟩),
  (150, ⟨.other, 1, 8, .raw .nilFunc, [], []⟩),
  (151, ⟨.agg, 1, 8, .agg [.raw (.pointer none)], [(0, 1, false)], []⟩),
  (152, ⟨.agg, 1, 8, .agg [.raw (.pointer none)], [(0, 1, false)], []⟩),
  (153, ⟨.ptr, 1, 8, .raw (.pointer none), [], []⟩),
  (154, ⟨.iface, 1, 16, .raw .nilIface, [], []⟩),
  (156, ⟨.other, 1, 8, .raw .nilFunc, [], []⟩),
  (157, ⟨.iface, 1, 16, .raw .nilIface, [], []⟩),
  (158, ⟨.other, 1, 8, .raw .nilFunc, [], []⟩),
  (159, ⟨.iface, 1, 16, .raw .nilIface, [], []⟩),
  (160, ⟨.slice 74, 1, 24, .nils, [], []⟩),
  (161, ⟨.other, 1, 8, .raw .nilFunc, [], []⟩),
  (162, ⟨.other, 1, 8, .raw .nilFunc, [], []⟩),
  (164, ⟨.other, 1, 8, .raw .nilFunc, [], []⟩),
  (165, ⟨.other, 1, 8, .raw .nilFunc, [], []⟩),
  (166, ⟨.agg, 3, 24, .agg [.str [], .bool false, .bool false], [(0, 1, false), (1, 1, false), (2, 1, false)], []⟩),
  (167, ⟨.other, 1, 8, .raw .nilFunc, [], []⟩),
  (168, ⟨.other, 1, 8, .raw .nilFunc, [], []⟩),
  (169, ⟨.ptr, 1, 8, .raw (.pointer none), [], []⟩),
  (170, ⟨.agg, 4, 40, .agg [.raw (.pointer none), .raw (.pointer none), .raw (.pointer none), .str []], [(0, 1, false), (1, 1, false), (2, 1, false), (3, 1, false)], []⟩),
  (171, ⟨.agg, 4, 40, .agg [.raw (.pointer none), .raw (.pointer none), .raw (.pointer none), .str []], [(0, 1, false), (1, 1, false), (2, 1, false), (3, 1, false)], []⟩),
  (175, ⟨.other, 1, 8, .raw .nilFunc, [], []⟩),
  (176, ⟨.int .u32, 1, 4, .int .u32 0, [], []⟩),
  (177, ⟨.int .u8, 1, 1, .int .u8 0, [], []⟩),
  (178, ⟨.int .u8, 1, 1, .int .u8 0, [], []⟩),
  (179, ⟨.other, 1, 8, .raw .nilFunc, [], []⟩),
  (180, ⟨.int .i32, 1, 4, .int .i32 0, [], []⟩),
  (181, ⟨.int .i32, 1, 4, .int .i32 0, [], []⟩),
  (182, ⟨.agg, 11, 48, .agg [.int .u64 0, .int .u64 0, .int .u32 0, .int .u8 0, .int .u8 0, .int .u8 0, .int .u8 0, .raw .nilFunc, .raw (.pointer none), .int .i32 0, .int .i32 0], [(0, 1, false), (1, 1, false), (2, 1, false), (3, 1, false), (4, 1, false), (5, 1, false), (6, 1, false), (7, 1, false), (8, 1, false), (9, 1, false), (10, 1, false)], []⟩),
  (183, ⟨.agg, 11, 48, .agg [.int .u64 0, .int .u64 0, .int .u32 0, .int .u8 0, .int .u8 0, .int .u8 0, .int .u8 0, .raw .nilFunc, .raw (.pointer none), .int .i32 0, .int .i32 0], [(0, 1, false), (1, 1, false), (2, 1, false), (3, 1, false), (4, 1, false), (5, 1, false), (6, 1, false), (7, 1, false), (8, 1, false), (9, 1, false), (10, 1, false)], []⟩),
  (184, ⟨.other, 1, 8, .raw .nilFunc, [], []⟩),
  (185, ⟨.other, 1, 8, .raw .nilFunc, [], []⟩),
  (186, ⟨.other, 1, 8, .raw .nilFunc, [], []⟩),
  (187, ⟨.other, 1, 8, .raw .nilFunc, [], []⟩),
  (188, ⟨.other, 1, 8, .raw .nilFunc, [], []⟩),
  (189, ⟨.other, 1, 8, .raw .nilFunc, [], []⟩),
  (190, ⟨.agg, 2, 24, .agg [.str [], .int .u8 0], [(0, 1, false), (1, 1, false)], []⟩),
  (191, ⟨.agg, 2, 24, .agg [.str [], .int .u8 0], [(0, 1, false), (1, 1, false)], []⟩),
  (192, ⟨.agg, 1, 16, .agg [.str []], [(0, 1, false)], []⟩),
  (193, ⟨.agg, 1, 16, .agg [.str []], [(0, 1, false)], []⟩),
  (194, ⟨.ptr, 1, 8, .raw (.pointer none), [], []⟩),
  (195, ⟨.other, 1, 8, .raw .nilFunc, [], []⟩),
  (196, ⟨.int .u16, 1, 2, .int .u16 0, [], []⟩),
  (197, ⟨.agg, 5, 16, .agg [.int .i32 0, .int .u16 0, .int .u16 0, .int .u32 0, .int .u32 0], [(0, 1, false), (1, 1, false), (2, 1, false), (3, 1, false), (4, 1, false)], []⟩),
  (198, ⟨.agg, 5, 16, .agg [.int .i32 0, .int .u16 0, .int .u16 0, .int .u32 0, .int .u32 0], [(0, 1, false), (1, 1, false), (2, 1, false), (3, 1, false), (4, 1, false)], []⟩),
  (199, ⟨.slice 202, 1, 24, .nils, [], []⟩),
  (200, ⟨.int .i32, 1, 4, .int .i32 0, [], []⟩),
  (201, ⟨.agg, 4, 16, .agg [.int .i32 0, .int .i32 0, .int .i32 0, .int .i32 0], [(0, 1, false), (1, 1, false), (2, 1, false), (3, 1, false)], []⟩),
  (202, ⟨.agg, 4, 16, .agg [.int .i32 0, .int .i32 0, .int .i32 0, .int .i32 0], [(0, 1, false), (1, 1, false), (2, 1, false), (3, 1, false)], []⟩),
  (203, ⟨.other, 1, 8, .raw .nilFunc, [], []⟩)]
set_option maxRecDepth 100000 in
theorem good : TauGood Tryd.prog (tauOf tauL) := tauGood (by kernel_rfl) (by kernel_rfl) (by decide)
end Go.Cod

set_option linter.all false
namespace Go.Cod
variable [Adr]
open Go Go.Proofs Go.ChangeShapes Go.RowKit
set_option maxRecDepth 100000

/-- What '(rtype).Comparable' is in the model. -/
def compM : Array Value → Sem Value := Extern.ReflectliteType.method fun t => do Extern.Rtype.noPackHeld "Comparable" t; pure (.bool (← typeInfo t).comparable)
/- errors.Is, of an error that a listed variable holds. -/
theorem is_same (a : Addr) (w : World) :
    Calls Tryd.prog 54 #[.iface 169 (.pointer (some a)), .iface 169 (.pointer (some a))] w fun e w' => e = .returned (.bool true) ∧ w' = w := by
  obtain ⟨i, hi, hcmp⟩ := Option.map_eq_some_iff.1 (show (Tryd.prog.info? 169).map (·.comparable) = some true by kernel_rfl)
  obtain ⟨j, hj, hjs⟩ := Option.map_eq_some_iff.1 (show (Tryd.prog.info? 193).map (·.size) = some 1 by kernel_rfl)
  have h8 := @run_callFunc_extern Tryd.prog 80 _ Extern.ReflectliteType.typeOf Tryd.func80 (by kernel_rfl) (by kernel_rfl) (by kernel_rfl) (by kernel_rfl)
  have h32 := @run_callFunc_extern Tryd.prog 126 _ compM Tryd.func126 (by kernel_rfl) (by kernel_rfl) (by kernel_rfl) (by kernel_rfl)
  have tT : ∀ (v : Value) (w : World), (Extern.ReflectliteType.typeOf #[.iface 169 v]).run Tryd.prog w = .ok (.iface 152 (.agg #[.pointer (some ⟨6, 169, none⟩)])) w := fun v w => by kernel_rfl
  have cT : ∀ (w : World), (compM #[.agg #[.pointer (some ⟨6, 169, none⟩)]]).run Tryd.prog w = .ok (.bool true) w := fun w => by kernel_rfl
  have mR : ∀ (v : Value) (w : World), (Go.method 304 152 v "Comparable").run Tryd.prog w = .ok (126, v) w := fun v w => by kernel_rfl
  have heq := run_eql_iface_ptr_same (P := Tryd.prog) w a Tryd.underlying74 Tryd.underlying169 hi hcmp hj
  go_enter Tryd.func54, Tryd.ntmps54
  go_wp2
  refine wp_loop_rounds 1 ?_
  rw [rounds_succ]
  go_wp2
  go_ret
  exact ⟨rfl, rfl⟩

theorem is_nil (b : Addr) (w : World) :
    Calls Tryd.prog 54 #[.nilIface, .iface 169 (.pointer (some b))] w fun e w' => e = .returned (.bool false) ∧ w' = w := by
  have hn := run_eql_iface_nil_left (P := Tryd.prog) w 169 (.pointer (some b)) Tryd.underlying74
  go_enter Tryd.func54, Tryd.ntmps54
  go_wp2
  go_ret
  exact ⟨rfl, rfl⟩

/-- An error that a variable holds. -/
abbrev errV (g : Nat) : V := .raw (.iface 169 (.pointer (some (Adr.a g))))
abbrev nilErr : V := .raw .nilIface
theorem repL_raw2 {Pr : Nat → Nat → Prop} {γ : List G} {w : World} {a b : Value} {cs : List Value} (h : RepL Pr γ w [.raw a, .raw b] cs) : cs = [a, b] := by
  have := h.1
  match cs, this with
  | [x, y], _ =>
    have h0 := h.2 0 _ _ rfl rfl
    have h1 := h.2 1 _ _ rfl rfl
    cases h0
    cases h1
    rfl
theorem errorsIs_same (g : Nat) : Pure Tryd.prog 54 [errV g, errV g] (· = .bool true) := by
  refine pure_of_still (r := .bool true) ⟨_, Tryd.func54, by kernel_rfl, by kernel_rfl⟩ rfl fun Pr γ w cs h => ?_
  obtain rfl := repL_raw2 h
  exact ⟨.bool true, fun _ => .bool true, is_same _ w⟩
theorem errorsIs_nil (g : Nat) : Pure Tryd.prog 54 [nilErr, errV g] (· = .bool false) := by
  refine pure_of_still (r := .bool false) ⟨_, Tryd.func54, by kernel_rfl, by kernel_rfl⟩ rfl fun Pr γ w cs h => ?_
  obtain rfl := repL_raw2 h
  exact ⟨.bool false, fun _ => .bool false, is_nil _ w⟩

omit [Adr] in
theorem star : "*" ++ "errors.errorString" = "*errors.errorString" := by decide
omit [Adr] in
theorem rowErr (u : TypeId) (h : Tryd.prog.typeName? 3 u = some "*errors.errorString") : u = 169 :=
  typeName_ptr_named (nm := "errors.errorString") (by rw [star]; kernel_rfl) (by kernel_rfl) (by decide) u (by rw [star]; exact h)
omit [Adr] in
/-- A listed error, the first of a list. -/
theorem laid_err {n : String} {text : List UInt8} {r : List (String × DataW Unit)} {W : World} {g : Nat} (h : laidMet Tryd.prog ((n, .iface "*errors.errorString" (.ptr (.agg [.lit (.string text)]))) :: r) W) (hg : Tryd.prog.globalNamed n = some g)
    (ht : (Tryd.prog.globals[g]?).map (·.type) = some 74) : (∃ a : Addr, W.cell? ⟨g, 0, none⟩ = some (.iface 169 (.pointer (some a))) ∧ g < W.heap.size) ∧ laidMet Tryd.prog r W := by
  obtain ⟨a, s, hv, _⟩ := laid_sentinel h hg ht Tryd.underlying74 rowErr Tryd.underlying169 Tryd.underlying193 rfl rfl Tryd.underlying9 (by kernel_rfl) (by kernel_rfl)
  exact ⟨⟨a, laid_cell hg hv⟩, h.tail⟩
omit [Adr] in
theorem globals_ok : ∀ (g : Nat) x, Tryd.prog.globals[g]? = some x → x.type < Tryd.prog.types.size := by
  intro g x h
  have h1 : (Tryd.prog.globals.toList.all fun x => decide (x.type < Tryd.prog.types.size)) = true := by kernel_rfl
  exact of_decide_eq_true (List.all_eq_true.1 h1 x (by simpa using Array.mem_of_getElem? h))
end Go.Cod

set_option linter.all false
namespace Go.Cod
variable [Adr]
open Go Go.Proofs
set_option maxRecDepth 10000
theorem l1In_pure (a b c : Int) : Pure Tryd.prog 48 [.int .i64 a, .int .i64 b, .int .i64 c] (· = .bool (decide (b ≤ a ∧ a ≤ c))) := by
  refine pure_of_awp good Tryd.func48 rfl (by kernel_rfl) (by decide) ?_
  conv => whnf
  by_cases h1 : b ≤ a
  · rw [leB_t h1]
    conv => whnf
    simp [h1, leB_def]
  · rw [leB_f (by omega)]
    conv => whnf
    simp [h1]

def lowerB (c : UInt8) : Bool := decide (97 ≤ c.toNat ∧ c.toNat ≤ 122)
def lower (s : List UInt8) : Bool := s.all lowerB
def nameL (s : List UInt8) : Bool := lower s && decide (1 ≤ (s.length : Int) ∧ (s.length : Int) ≤ 8)
theorem take_all {p : UInt8 → Bool} {s : List UInt8} {i : Nat} (h : i < s.length) : (s.take (i + 1)).all p = ((s.take i).all p && p s[i]) := by
  rw [List.take_succ_eq_append_getElem h, List.all_append]; simp
theorem l2Name_pure (s : List UInt8) (hs : s.length ≤ 9223372036854775806) : Pure Tryd.prog 50 [.str s] (· = .bool (nameL s)) := by
  refine pure_of_awp good Tryd.func50 rfl (by kernel_rfl) (by decide) ?_
  conv => whnf
  refine loop_intro (fun n fr st => st = [] ∧ ∃ i : Nat, n + i = s.length ∧ lower (s.take i) = true ∧ Holds fr [(0, .str s), (3, .int .i64 i)]) s.length ⟨rfl, 0, rfl, rfl, rfl, rfl, trivial⟩ ?_
  rintro n fr st ⟨rfl, i, hi, hlow, hh⟩
  obtain ⟨fr, rfl⟩ := hh.split
  clear hh
  conv => whnf
  by_cases hlt : i < s.length
  · rw [ltB_t (by omega)]
    have hstep := take_all (p := lowerB) hlt
    conv => whnf
    refine ⟨by omega, s[i], by simp [hlt], ?_⟩
    conv => whnf
    by_cases h1 : (97 : Int) ≤ (s[i].toNat : Int)
    · rw [ltB_f (by omega)]
      conv => whnf
      refine ⟨by omega, s[i], by simp [hlt], ?_⟩
      conv => whnf
      by_cases h2 : (s[i].toNat : Int) ≤ 122
      · rw [ltB_f (by omega)]
        conv => whnf
        refine ⟨n - 1, by omega, rfl, i + 1, by omega, ?_, ?_⟩
        · unfold lower at *; rw [hstep, hlow]; simp [lowerB]; omega
        · refine ⟨rfl, ?_, trivial⟩
          show V.int .i64 (IntKind.i64.wrap (i + 1)) = _
          rw [wrap64 (by omega) (by omega)]; simp
      · rw [ltB_t (by omega)]
        conv => whnf
        have hf : lower s = false := by
          unfold lower
          rw [List.all_eq_false]
          exact ⟨s[i], List.getElem_mem _, by simp only [lowerB, decide_eq_true_eq]; omega⟩
        simp only [nameL, hf, Bool.false_and]
    · rw [ltB_t (by omega)]
      conv => whnf
      have hf : lower s = false := by
        unfold lower
        rw [List.all_eq_false]
        exact ⟨s[i], List.getElem_mem _, by simp only [lowerB, decide_eq_true_eq]; omega⟩
      simp only [nameL, hf, Bool.false_and]
  · rw [ltB_f (by omega)]
    conv => whnf
    refine .inl ((l1In_pure _ _ _).mono ?_)
    rintro r rfl
    conv => whnf
    have : s.take i = s := List.take_of_length_le (by omega)
    rw [this] at hlow
    simp [nameL, hlow]
end Go.Cod

set_option linter.all false
namespace Go.Cod
variable [Adr]
open Go Go.Proofs Go.ChangeShapes Go.WideShapes Go.ChangeAt Go.RowKit
set_option maxRecDepth 10000

/-- A tree. -/
inductive T where
  | mk (id : Int) (kind text : List UInt8) (kids : List T)

mutual
def T.cells : T → List V
  | .mk id kind text kids => [.int .i64 id, .str kind, .str text, .sl (T.rows kids)]
def T.rows : List T → List (List V)
  | [] => []
  | t :: ts => t.cells :: T.rows ts
end
theorem T.rows_eq (ts : List T) : T.rows ts = ts.map T.cells := by
  induction ts with
  | nil => rfl
  | cons t ts ih => simp [T.rows, ih]

/-- What a number, a text and a list may be at most. -/
inductive T.Ok : T → Prop
  | mk {id kind text kids} (h1 : -9223372036854775808 ≤ id ∧ id ≤ 9223372036854775807) (h2 : kind.length ≤ maxLen) (h3 : text.length ≤ maxLen) (h4 : kids.length ≤ maxLen) (h5 : ∀ t ∈ kids, T.Ok t) : T.Ok (.mk id kind text kids)

theorem map_of_forall {α β : Type} {f : α → β} {p : α → Prop} : ∀ {es : List β}, (∀ e ∈ es, ∃ a, e = f a ∧ p a) → ∃ xs : List α, es = xs.map f ∧ ∀ a ∈ xs, p a
  | [], _ => ⟨[], rfl, by simp⟩
  | e :: es, h => by
    obtain ⟨a, rfl, hp⟩ := h e (by simp)
    obtain ⟨xs, rfl, hq⟩ := map_of_forall (es := es) fun e he => h e (by simp [he])
    exact ⟨a :: xs, rfl, by simpa using ⟨hp, hq⟩⟩

theorem kids : Kids Tryd.prog (· < Tryd.prog.types.size) := kids_rows (by kernel_rfl) (by kernel_rfl)
theorem full : ∀ t e, t < Tryd.prog.types.size → Tryd.prog.underlying t = some (.slice e) → 0 < Tryd.prog.cellsOf e := slices_full_of Tryd.prog (by kernel_rfl)

theorem reads_tree {H : Type} {enc : TypeId × Value → H} {w : World} : ∀ n : Nat, Reads enc Tryd.prog w n 27 fun vs => ∃ t : T, vs = t.cells ∧ t.Ok := by
  intro n
  induction n using Nat.strongRecOn with
  | ind n ih =>
    have hS := reads_struct (enc := enc) (P := Tryd.prog) (w := w) (n := n) (t := 27)
      (Ss := [fun vs => ∃ i, vs = [.int .i64 i] ∧ IntKind.i64.min ≤ i ∧ i ≤ IntKind.i64.max, fun vs => ∃ s, vs = [.str s] ∧ s.length ≤ maxLen, fun vs => ∃ s, vs = [.str s] ∧ s.length ≤ maxLen,
        fun vs => ∃ es, vs = [.sl es] ∧ es.length ≤ maxLen ∧ ∀ r ∈ es, (∃ t : T, r = t.cells ∧ t.Ok) ∧ r.length = Tryd.prog.cellsOf 27 ∧ (∀ v ∈ r, v.leaf = true) ∧ V.clean.cleanL 0 r = true])
      kids (by decide +kernel) Tryd.underlying27 rfl ?_
    · intro cs x h
      obtain ⟨vs, ⟨_, _, rfl, ⟨i, rfl, hi⟩, _, _, rfl, ⟨s, rfl, hs⟩, _, _, rfl, ⟨s', rfl, hs'⟩, _, _, rfl, ⟨es, rfl, hes, hr⟩, rfl⟩, h2⟩ := hS cs x h
      obtain ⟨ts, rfl, hts⟩ := map_of_forall (f := T.cells) (p := T.Ok) fun e he => (hr e he).1
      refine ⟨_, ⟨.mk i s s' ts, ?_, .mk hi hs hs' (by simpa using hes) hts⟩, h2⟩
      simp [T.cells, T.rows_eq]
    · intro m hm j f S h1 h2
      match j with
      | 0 => simp at h1 h2; subst h1 h2; exact reads_int Tryd.underlying3
      | 1 => simp at h1 h2; subst h1 h2; exact reads_str Tryd.underlying9
      | 2 => simp at h1 h2; subst h1 h2; exact reads_str Tryd.underlying9
      | 3 => simp at h1 h2; subst h1 h2; exact reads_slice Tryd.underlying25 (by decide +kernel) fun m' hm' => ih m' (by omega)
      | j + 4 => simp at h1

end Go.Cod

set_option linter.all false
namespace Go.Cod
variable [Adr]
open Go Go.Proofs
set_option maxRecDepth 10000

def T.kids : T → List T
  | .mk _ _ _ kids => kids
mutual
def szT : T → Int → Int
  | .mk _ kind text kids, left =>
    if left - kind.length < 0 then -1 else
    if left - kind.length - text.length < 0 then -1 else
    let l := if left - kind.length - text.length - kids.length < 0 then -1 else szGo kids (left - kind.length - text.length - kids.length)
    if l < 0 then -1 else l
def szGo : List T → Int → Int
  | [], l => l
  | t :: ts, l => if szT t l < 0 then -1 else szGo ts (szT t l)
end
def szL (ts : List T) (left : Int) : Int := if left - ts.length < 0 then -1 else szGo ts (left - ts.length)

mutual
theorem szT_le : ∀ (t : T) (left : Int), 0 ≤ left → szT t left ≤ left ∧ -1 ≤ szT t left
  | .mk id kind text kids, left, h => by
    simp only [szT]
    have := szGo_le kids (left - kind.length - text.length - kids.length)
    split
    · omega
    split
    · omega
    split
    · simp; omega
    · split <;> omega
theorem szGo_le : ∀ (ts : List T) (left : Int), 0 ≤ left → szGo ts left ≤ left ∧ -1 ≤ szGo ts left
  | [], left, h => by simp [szGo]; omega
  | t :: ts, left, h => by
    simp only [szGo]
    have := szT_le t left h
    split
    · omega
    · have := szGo_le ts (szT t left) (by omega)
      omega
end
theorem szL_le (ts : List T) (left : Int) (h : 0 ≤ left) : szL ts left ≤ left ∧ -1 ≤ szL ts left := by
  unfold szL
  split
  · omega
  · have := szGo_le ts (left - ts.length) (by omega)
    omega

theorem szT_pure1 (t : T) (ht : t.Ok) (left : Int) (h0 : 0 ≤ left) (h1 : left ≤ 4611686018427387904)
    (hL : ∀ left : Int, 0 ≤ left → left ≤ 4611686018427387904 → Pure Tryd.prog 27 [.sl (T.rows t.kids), .int .i64 left] (· = .int .i64 (szL t.kids left))) :
    Pure Tryd.prog 8 [.agg t.cells, .int .i64 left] (· = .int .i64 (szT t left)) := by
  cases ht with
  | @mk id kind text kids g1 g2 g3 g4 g5 =>
  simp only [maxLen] at g2 g3 g4
  refine pure_of_awp good Tryd.func8 rfl (by kernel_rfl) (by decide) ?_
  conv => whnf
  rw [wrap64 (by omega) (by omega)]
  by_cases a1 : left - kind.length < 0
  · rw [ltB_t (by omega)]
    conv => whnf
    simp [szT, a1]
  rw [ltB_f (by omega)]
  conv => whnf
  rw [wrap64 (by omega) (by omega)]
  by_cases a2 : left - kind.length - text.length < 0
  · rw [ltB_t (by omega)]
    conv => whnf
    simp [szT, a1, a2]
  rw [ltB_f (by omega)]
  conv => whnf
  refine .inl ((hL (left - kind.length - text.length) (by omega) (by omega)).mono ?_)
  rintro r rfl
  simp only [T.kids]
  have hb := szL_le kids (left - kind.length - text.length) (by omega)
  have he : szT (.mk id kind text kids) left = if szL kids (left - kind.length - text.length) < 0 then -1 else szL kids (left - kind.length - text.length) := by
    simp only [szT, szL, if_neg a1, if_neg a2]
    rfl
  conv => whnf
  by_cases a3 : szL kids (left - kind.length - text.length) < 0
  · rw [ltB_t (by omega)]
    conv => whnf
    rw [he, if_pos a3]
  rw [ltB_f (by omega)]
  conv => whnf
  rw [he, if_neg a3]

theorem rows_get (ts : List T) (i : Nat) (h : i < ts.length) : (T.rows ts)[i]? = some ts[i].cells := by
  rw [T.rows_eq]; simp [h]
theorem rows_len (ts : List T) : (T.rows ts).length = ts.length := by rw [T.rows_eq]; simp
theorem cells_len (t : T) : t.cells.length = 4 := by cases t; rfl

theorem szGo_drop (ts : List T) (i : Nat) (h : i < ts.length) (l : Int) : szGo (ts.drop i) l = if szT ts[i] l < 0 then -1 else szGo (ts.drop (i + 1)) (szT ts[i] l) := by
  rw [List.drop_eq_getElem_cons h]; simp [szGo]

theorem szL_pure1 (ts : List T) (hl : ts.length ≤ 9223372036854775807) (left : Int) (h0 : 0 ≤ left) (h1 : left ≤ 4611686018427387904)
    (hT : ∀ t ∈ ts, ∀ left : Int, 0 ≤ left → left ≤ 4611686018427387904 → Pure Tryd.prog 8 [.agg t.cells, .int .i64 left] (· = .int .i64 (szT t left))) :
    Pure Tryd.prog 27 [.sl (T.rows ts), .int .i64 left] (· = .int .i64 (szL ts left)) := by
  have hlr := rows_len ts
  refine pure_of_awp good Tryd.func27 rfl (by kernel_rfl) (by decide) ?_
  conv => whnf
  rw [wrap64 (by omega) (by omega)]
  by_cases a1 : left - ts.length < 0
  · rw [ltB_t (by omega)]
    conv => whnf
    simp [szL, a1]
  rw [ltB_f (by omega)]
  conv => whnf
  refine loop_intro (fun n fr st => st = [] ∧ ∃ (i : Nat) (l : Int), n + i = ts.length ∧ 0 ≤ l ∧ l ≤ 4611686018427387904 ∧ szL ts left = szGo (ts.drop i) l ∧ Holds fr [(0, .sl (T.rows ts)), (1, .int .i64 l), (5, .int .i64 i)]) ts.length
    ⟨rfl, 0, left - (T.rows ts).length, by simp, by omega, by omega, by simp [szL, hlr, a1], rfl, rfl, rfl, trivial⟩ ?_
  rintro n fr st ⟨rfl, i, l, hi, b0, b1, hsz, hh⟩
  obtain ⟨fr, rfl⟩ := hh.split
  clear hh
  conv => whnf
  by_cases hlt : i < ts.length
  · rw [ltB_t (by omega)]
    conv => whnf
    refine ⟨by omega, T.rows ts, ts[i].cells, 4, rfl, rows_get ts i hlt, rfl, cells_len _, ?_⟩
    have hc := hT ts[i] (List.getElem_mem _) l b0 b1
    have hb := szT_le ts[i] l b0
    rw [szGo_drop ts i hlt] at hsz
    generalize hg : ts[i] = t at hc hb hsz ⊢
    cases t with
    | mk id kind text kids =>
    conv => whnf
    refine .inl (hc.mono ?_)
    rintro r rfl
    conv => whnf
    by_cases a3 : szT (.mk id kind text kids) l < 0
    · rw [ltB_t (by omega)]
      conv => whnf
      rw [hsz, if_pos a3]
    rw [ltB_f (by omega)]
    conv => whnf
    refine ⟨n - 1, by omega, rfl, i + 1, szT (.mk id kind text kids) l, by omega, by omega, by omega, ?_, rfl, rfl, ?_, trivial⟩
    · rw [hsz, if_neg a3]
    · show V.int .i64 (IntKind.i64.wrap (i + 1)) = _
      rw [wrap64 (by omega) (by omega)]; simp
  · rw [ltB_f (by omega)]
    conv => whnf
    rw [hsz, List.drop_of_length_le (by omega)]
    rfl

theorem szT_pure (t : T) (ht : t.Ok) : ∀ (left : Int), 0 ≤ left → left ≤ 4611686018427387904 → Pure Tryd.prog 8 [.agg t.cells, .int .i64 left] (· = .int .i64 (szT t left)) := by
  induction ht with
  | @mk id kind text kids g1 g2 g3 g4 g5 ih =>
    intro left h0 h1
    exact szT_pure1 _ (.mk g1 g2 g3 g4 g5) left h0 h1 fun left h0 h1 => szL_pure1 kids (by simpa [maxLen] using g4) left h0 h1 ih
end Go.Cod

set_option linter.all false
namespace Go.Cod
variable [Adr]
open Go Go.Proofs
set_option maxRecDepth 10000

inductive T.Small : T → Prop
  | mk {id kind text kids} (h1 : -9223372036854775808 ≤ id ∧ id ≤ 9223372036854775807) (h2 : kind.length ≤ 1048576) (h3 : text.length ≤ 1048576) (h4 : kids.length ≤ 1048576) (h5 : ∀ t ∈ kids, T.Small t) : T.Small (.mk id kind text kids)

def zrow : List V := [.int .i64 0, .str [], .str [], .nils]
def mix (ts : List T) (i : Nat) : List (List V) := (T.rows ts).take i ++ List.replicate (ts.length - i) zrow
theorem mix_get (ts : List T) (i : Nat) (h : i < ts.length) : (mix ts i)[i]? = some zrow := by
  unfold mix
  rw [List.getElem?_append_right (by rw [List.length_take, rows_len]; omega)]
  rw [List.length_take, rows_len, Nat.min_eq_left (by omega), Nat.sub_self, List.getElem?_replicate, if_pos (by omega)]
theorem mix_set (ts : List T) (i : Nat) (h : i < ts.length) : (mix ts i).set i ts[i].cells = mix ts (i + 1) := by
  unfold mix
  rw [List.set_append_right _ _ (by rw [List.length_take, rows_len]; omega), List.length_take, rows_len, Nat.min_eq_left (by omega), Nat.sub_self]
  rw [show ts.length - i = (ts.length - (i + 1)) + 1 by omega, List.replicate_succ, List.set_cons_zero, List.take_add_one, rows_get ts i h]
  simp
theorem toTreeS_pure1 (ts : List T) (hl : ts.length ≤ 1048576) (hT : ∀ t ∈ ts, Pure Tryd.prog 11 [.agg t.cells] (· = .agg t.cells)) :
    Pure Tryd.prog 30 [.sl (T.rows ts)] (· = .sl (T.rows ts)) := by
  have hlr := rows_len ts
  refine pure_of_awp good Tryd.func30 rfl (by kernel_rfl) (by decide) ?_
  conv => whnf
  refine ⟨by omega, by omega, ?_⟩
  conv => whnf
  refine ⟨by show (Int.toNat _) * 64 ≤ _; omega, by omega, ?_⟩
  conv => whnf
  refine loop_intro (fun n fr st => ∃ i : Nat, n + i = ts.length ∧ st = [⟨mix ts i, 4, true, true, false, .cell⟩] ∧ Holds fr [(0, .sl (T.rows ts)), (3, .own 0), (4, .int .i64 i)]) ts.length
    ⟨0, rfl, by simp [mix, hlr, zrow, V.cells], rfl, rfl, rfl, trivial⟩ ?_
  rintro n fr st ⟨i, hi, rfl, hh⟩
  obtain ⟨fr, rfl⟩ := hh.split
  clear hh
  conv => whnf
  by_cases hlt : i < ts.length
  · rw [ltB_t (by omega)]
    conv => whnf
    refine ⟨by omega, T.rows ts, ts[i].cells, 4, rfl, rows_get ts i hlt, rfl, cells_len _, ?_⟩
    have hc := hT ts[i] (List.getElem_mem _)
    have hm := mix_set ts i hlt
    have hmg := mix_get ts i hlt
    generalize ts[i] = t at hc hm
    cases t with
    | mk id kind text kids =>
    conv => whnf
    refine .inl (hc.mono ?_)
    rintro r rfl
    conv => whnf
    refine ⟨by omega, mix ts i, zrow, 4, rfl, hmg, rfl, rfl, ?_⟩
    conv => whnf
    refine AtRow_intro zrow hmg ?_
    conv => whnf
    refine ⟨n - 1, by omega, i + 1, by omega, ?_, rfl, rfl, ?_, trivial⟩
    · rw [← hm]; rfl
    · show V.int .i64 (IntKind.i64.wrap (i + 1)) = _
      rw [wrap64 (by omega) (by omega)]; simp
  · rw [ltB_f (by omega)]
    conv => whnf
    show V.sl (mix ts i) = _
    rw [mix, show ts.length - i = 0 by omega, List.take_of_length_le (by rw [hlr]; omega)]
    simp

theorem toTree_pure1 (t : T) (ht : t.Small)
    (hL : Pure Tryd.prog 30 [.sl (T.rows t.kids)] (· = .sl (T.rows t.kids))) :
    Pure Tryd.prog 11 [.agg t.cells] (· = .agg t.cells) := by
  cases ht with
  | @mk id kind text kids g1 g2 g3 g4 g5 =>
  simp only [T.kids] at hL
  refine pure_of_awp good Tryd.func11 rfl (by kernel_rfl) (by decide) ?_
  conv => whnf
  refine .inl (hL.mono ?_)
  rintro r rfl
  conv => whnf
  rfl
end Go.Cod

set_option linter.all false
namespace Go.Cod
variable [Adr]
open Go Go.Proofs
set_option maxRecDepth 10000

theorem eqB_refl (a : Int) : eqB a a = true := by rw [eqB_def]; simp
theorem eqS_refl (a : List UInt8) : eqS a a = true := by rw [eqS_def]; simp

theorem eqTreeS_pure1 (ts : List T) (hl : ts.length ≤ 1048576) (hT : ∀ t ∈ ts, Pure Tryd.prog 14 [.agg t.cells, .agg t.cells] (· = .bool true)) :
    Pure Tryd.prog 35 [.sl (T.rows ts), .sl (T.rows ts)] (· = .bool true) := by
  have hlr := rows_len ts
  refine pure_of_awp good Tryd.func35 rfl (by kernel_rfl) (by decide) ?_
  conv => whnf
  rw [eqB_refl]
  conv => whnf
  refine loop_intro (fun n fr st => ∃ i : Nat, n + i = ts.length ∧ st = [] ∧ Holds fr [(0, .sl (T.rows ts)), (1, .sl (T.rows ts)), (5, .int .i64 i)]) ts.length
    ⟨0, rfl, rfl, rfl, rfl, rfl, trivial⟩ ?_
  rintro n fr st ⟨i, hi, rfl, hh⟩
  obtain ⟨fr, rfl⟩ := hh.split
  clear hh
  conv => whnf
  by_cases hlt : i < ts.length
  · rw [ltB_t (by omega)]
    conv => whnf
    refine ⟨by omega, T.rows ts, ts[i].cells, 4, rfl, rows_get ts i hlt, rfl, cells_len _, ?_⟩
    have hc := hT ts[i] (List.getElem_mem _)
    have hmg := rows_get ts i hlt
    generalize ts[i] = t at hc hmg
    cases t with
    | mk id kind text kids =>
    conv => whnf
    refine ⟨by omega, T.rows ts, _, 4, rfl, hmg, rfl, rfl, ?_⟩
    conv => whnf
    refine ⟨_, .inl hc, ?_⟩
    conv => whnf
    refine ⟨n - 1, by omega, i + 1, by omega, rfl, rfl, rfl, ?_, trivial⟩
    · show V.int .i64 (IntKind.i64.wrap (i + 1)) = _
      rw [wrap64 (by omega) (by omega)]; simp
  · rw [ltB_f (by omega)]
    conv => whnf

theorem eqTree_pure1 (t : T) (hL : Pure Tryd.prog 35 [.sl (T.rows t.kids), .sl (T.rows t.kids)] (· = .bool true)) :
    Pure Tryd.prog 14 [.agg t.cells, .agg t.cells] (· = .bool true) := by
  cases t with
  | mk id kind text kids =>
  simp only [T.kids] at hL
  refine pure_of_awp good Tryd.func14 rfl (by kernel_rfl) (by decide) ?_
  conv => whnf
  rw [eqB_refl]
  conv => whnf
  rw [eqS_refl]
  conv => whnf
  rw [eqS_refl]
  conv => whnf
  refine .inl (hL.mono ?_)
  rintro r rfl
  conv => whnf

theorem toTree_pure (t : T) (ht : t.Small) : Pure Tryd.prog 11 [.agg t.cells] (· = .agg t.cells) := by
  induction ht with
  | @mk id kind text kids g1 g2 g3 g4 g5 ih => exact toTree_pure1 _ (.mk g1 g2 g3 g4 g5) (toTreeS_pure1 kids g4 ih)
theorem eqTree_pure (t : T) (ht : t.Small) : Pure Tryd.prog 14 [.agg t.cells, .agg t.cells] (· = .bool true) := by
  induction ht with
  | @mk id kind text kids g1 g2 g3 g4 g5 ih => exact eqTree_pure1 _ (eqTreeS_pure1 kids g4 ih)

mutual
theorem small_of_sz : ∀ (t : T), t.Ok → ∀ left : Int, left ≤ 1048576 → 0 ≤ szT t left → t.Small
  | .mk id kind text kids, ht, left, h1, h2 => by
    cases ht with
    | mk g1 g2 g3 g4 g5 =>
      simp only [szT] at h2
      split at h2
      · omega
      split at h2
      · omega
      split at h2
      · simp at h2
      rename_i a1 a2 a3
      split at h2
      · omega
      refine .mk g1 (by omega) (by omega) (by omega) (small_of_szGo kids g5 _ (by omega) h2)
theorem small_of_szGo : ∀ (ts : List T), (∀ t ∈ ts, t.Ok) → ∀ left : Int, left ≤ 1048576 → 0 ≤ szGo ts left → ∀ t ∈ ts, t.Small
  | [], _, _, _, _ => by simp
  | t :: ts, h, left, h1, h2 => by
    simp only [szGo] at h2
    split at h2
    · omega
    rename_i a1
    by_cases h0 : 0 ≤ left
    · have h3 := (szT_le t left h0).1
      intro t' ht'
      have hh := small_of_sz t (h _ (by simp)) left h1 (by omega)
      rcases List.mem_cons.1 ht' with rfl | ht'
      · exact hh
      · exact small_of_szGo ts (fun t ht => h t (by simp [ht])) _ (by omega) h2 t' ht'
    · exfalso
      have : szT t left < 0 := by
        cases t with
        | mk id kind text kids => simp only [szT]; rw [if_pos (by omega)]; omega
      omega
end

end Go.Cod

set_option linter.all false
namespace Go.Cod
variable [Adr]
open Go Go.Proofs
set_option maxRecDepth 10000

/-- Rows of numbers. -/
def irows (ns : List Int) : List (List V) := ns.map fun n => [.int .i64 n]
theorem irows_len (ns : List Int) : (irows ns).length = ns.length := by simp [irows]
theorem irows_get (ns : List Int) (i : Nat) (h : i < ns.length) : (irows ns)[i]? = some [.int .i64 ns[i]] := by simp [irows, h]

theorem l2Has_pure (ns : List Int) (x : Int) (hl : ns.length ≤ 9223372036854775806) : Pure Tryd.prog 47 [.sl (irows ns), .int .i64 x] (· = .bool (decide (x ∈ ns))) := by
  have hlr := irows_len ns
  refine pure_of_awp good Tryd.func47 rfl (by kernel_rfl) (by decide) ?_
  conv => whnf
  refine loop_intro (fun n fr st => ∃ i : Nat, n + i = ns.length ∧ st = [] ∧ x ∉ ns.take i ∧ Holds fr [(0, .sl (irows ns)), (1, .int .i64 x), (5, .int .i64 i)]) ns.length
    ⟨0, rfl, rfl, by simp, rfl, rfl, rfl, trivial⟩ ?_
  rintro n fr st ⟨i, hi, rfl, hx, hh⟩
  obtain ⟨fr, rfl⟩ := hh.split
  clear hh
  conv => whnf
  by_cases hlt : i < ns.length
  · rw [ltB_t (by omega)]
    conv => whnf
    refine ⟨by omega, irows ns, _, 1, rfl, irows_get ns i hlt, rfl, rfl, ?_⟩
    conv => whnf
    by_cases he : ns[i] = x
    · rw [eqB_t he]
      conv => whnf
      have : x ∈ ns := he ▸ List.getElem_mem _
      simp [this]
    · rw [eqB_f he]
      conv => whnf
      refine ⟨n - 1, by omega, i + 1, by omega, rfl, ?_, rfl, rfl, ?_, trivial⟩
      · rw [List.take_succ_eq_append_getElem hlt]
        simp only [List.mem_append, List.mem_singleton, not_or]
        exact ⟨hx, fun h => he h.symm⟩
      · show V.int .i64 (IntKind.i64.wrap (i + 1)) = _
        rw [wrap64 (by omega) (by omega)]; simp
  · rw [ltB_f (by omega)]
    conv => whnf
    rw [List.take_of_length_le (by omega)] at hx
    simp [hx]

mutual
def T.ids : T → List Int
  | .mk id _ _ kids => id :: T.idsL kids
def T.idsL : List T → List Int
  | [] => []
  | t :: ts => t.ids ++ T.idsL ts
end
theorem idsL_append (a b : List T) : T.idsL (a ++ b) = T.idsL a ++ T.idsL b := by
  induction a with
  | nil => rfl
  | cons x xs ih => simp [T.idsL, ih]
theorem idsL_take (ts : List T) (i : Nat) (h : i < ts.length) : T.idsL (ts.take (i + 1)) = T.idsL (ts.take i) ++ ts[i].ids := by
  rw [List.take_succ_eq_append_getElem h, idsL_append]; simp [T.idsL]
def textB (c : UInt8) : Bool := decide (32 ≤ c.toNat ∧ c.toNat ≤ 126 ∧ c.toNat ≠ 34)
def textL (s : List UInt8) : Bool := s.all textB && decide ((s.length : Int) ≤ 12)
theorem l2Text_pure (s : List UInt8) (hs : s.length ≤ 9223372036854775806) : Pure Tryd.prog 79 [.str s] (· = .bool (textL s)) := by
  have hno : ∀ (i : Nat) (h : i < s.length), textB s[i] = false → textL s = false := by
    intro i h hb
    have : s.all textB = false := by rw [List.all_eq_false]; exact ⟨s[i], List.getElem_mem _, by simp [hb]⟩
    simp only [textL, this, Bool.false_and]
  refine pure_of_awp good Tryd.func79 rfl (by kernel_rfl) (by decide) ?_
  conv => whnf
  refine loop_intro (fun n fr st => st = [] ∧ ∃ i : Nat, n + i = s.length ∧ (s.take i).all textB = true ∧ Holds fr [(0, .str s), (3, .int .i64 i)]) s.length ⟨rfl, 0, rfl, rfl, rfl, rfl, trivial⟩ ?_
  rintro n fr st ⟨rfl, i, hi, hlow, hh⟩
  obtain ⟨fr, rfl⟩ := hh.split
  clear hh
  conv => whnf
  by_cases hlt : i < s.length
  · rw [ltB_t (by omega)]
    have hstep := take_all (p := textB) hlt
    have hn := hno i hlt
    conv => whnf
    refine ⟨by omega, s[i], by simp [hlt], ?_⟩
    conv => whnf
    by_cases h1 : (s[i].toNat : Int) < 32
    · rw [ltB_t h1]
      conv => whnf
      rw [hn (by simp only [textB, decide_eq_false_iff_not]; omega)]
    rw [ltB_f (by omega)]
    conv => whnf
    refine ⟨by omega, s[i], by simp [hlt], ?_⟩
    conv => whnf
    by_cases h2 : (126 : Int) < s[i].toNat
    · rw [ltB_t h2]
      conv => whnf
      rw [hn (by simp only [textB, decide_eq_false_iff_not]; omega)]
    rw [ltB_f (by omega)]
    conv => whnf
    refine ⟨by omega, s[i], by simp [hlt], ?_⟩
    conv => whnf
    by_cases h3 : (s[i].toNat : Int) = 34
    · rw [eqB_t h3]
      conv => whnf
      rw [hn (by simp only [textB, decide_eq_false_iff_not]; omega)]
    rw [eqB_f h3]
    conv => whnf
    refine ⟨n - 1, by omega, rfl, i + 1, by omega, ?_, rfl, ?_, trivial⟩
    · rw [hstep, hlow]; simp only [textB, Bool.true_and, decide_eq_true_eq]; omega
    · show V.int .i64 (IntKind.i64.wrap (i + 1)) = _
      rw [wrap64 (by omega) (by omega)]; simp
  · rw [ltB_f (by omega)]
    conv => whnf
    rw [List.take_of_length_le (by omega)] at hlow
    show V.bool (leB _ _) = _
    simp [textL, hlow, leB_def]
end Go.Cod

set_option linter.all false
namespace Go.Cod
variable [Adr]
open Go Go.Proofs
set_option maxRecDepth 10000

mutual
def plainT : T → Int → Bool
  | .mk id kind text kids, lv => !decide (6 < lv) && decide (1 ≤ id ∧ id ≤ 999) && nameL kind && textL text && plainL kids (lv + 1)
def plainL : List T → Int → Bool
  | [], _ => true
  | t :: ts, lv => plainT t lv && plainL ts lv
end
theorem plainL_eq (ts : List T) (lv : Int) : plainL ts lv = ts.all fun t => plainT t lv := by
  induction ts with
  | nil => rfl
  | cons t ts ih => simp [plainL, ih]

theorem l2Plain_pure1 (t : T) (hs : t.Small) (lv : Int) (h0 : 0 ≤ lv) (h7 : lv ≤ 1000) (hT : lv ≤ 6 → ∀ t' ∈ t.kids, Pure Tryd.prog 45 [.agg t'.cells, .int .i64 (lv + 1)] (· = .bool (plainT t' (lv + 1)))) :
    Pure Tryd.prog 45 [.agg t.cells, .int .i64 lv] (· = .bool (plainT t lv)) := by
  cases hs with
  | @mk id kind text kids g1 g2 g3 g4 g5 =>
  simp only [T.kids] at hT
  have hlr := rows_len kids
  refine pure_of_awp good Tryd.func45 rfl (by kernel_rfl) (by decide) ?_
  conv => whnf
  by_cases a1 : 6 < lv
  · rw [ltB_t a1]
    conv => whnf
    simp [plainT, a1]
  rw [ltB_f (by omega)]
  conv => whnf
  refine .inl ((l1In_pure _ _ _).mono ?_)
  rintro r rfl
  by_cases a2 : 1 ≤ id ∧ id ≤ 999
  case neg =>
    rw [decide_eq_false a2]
    conv => whnf
    simp [plainT, a2]
  rw [decide_eq_true a2]
  conv => whnf
  refine .inl ((l2Name_pure kind (by omega)).mono ?_)
  rintro r rfl
  cases a3 : nameL kind
  · conv => whnf
    simp [plainT, a3]
  conv => whnf
  refine .inl ((l2Text_pure text (by omega)).mono ?_)
  rintro r rfl
  cases a4 : textL text
  · conv => whnf
    simp [plainT, a4]
  conv => whnf
  have hp : plainT (.mk id kind text kids) lv = plainL kids (lv + 1) := by simp [plainT, a1, a2, a3, a4]
  rw [plainL_eq] at hp
  refine loop_intro (fun n fr st => ∃ i : Nat, n + i = kids.length ∧ st = [⟨[[.int .i64 id, .str kind, .str text, .sl (T.rows kids)]], 4, true, true, true, .cell⟩] ∧ (kids.take i).all (fun t => plainT t (lv + 1)) = true ∧ Holds fr [(1, .int .i64 lv), (2, .ptr 0 0 0), (5, .int .i64 i)]) kids.length
    ⟨0, rfl, rfl, rfl, rfl, rfl, rfl, trivial⟩ ?_
  rintro n fr st ⟨i, hi, rfl, hx, hh⟩
  obtain ⟨fr, rfl⟩ := hh.split
  clear hh
  conv => whnf
  by_cases hlt : i < kids.length
  · rw [ltB_t (by omega)]
    conv => whnf
    refine ⟨by omega, T.rows kids, kids[i].cells, 4, rfl, rows_get kids i hlt, rfl, cells_len _, ?_⟩
    have hc := hT (by omega) kids[i] (List.getElem_mem _)
    have hst : (kids.take (i + 1)).all (fun t => plainT t (lv + 1)) = plainT kids[i] (lv + 1) := by
      rw [List.take_succ_eq_append_getElem hlt, List.all_append, hx]; simp
    have hno : plainT kids[i] (lv + 1) = false → kids.all (fun t => plainT t (lv + 1)) = false := by
      intro h; rw [List.all_eq_false]; exact ⟨kids[i], List.getElem_mem _, by simp [h]⟩
    generalize kids[i] = t at hc hst hno ⊢
    cases t with
    | mk id' kind' text' kids' =>
    conv => whnf
    rw [wrap64 (by omega) (by omega)]
    refine .inl (hc.mono ?_)
    rintro r rfl
    cases a5 : plainT (.mk id' kind' text' kids') (lv + 1)
    · conv => whnf
      rw [hp, hno a5]
    conv => whnf
    refine ⟨n - 1, by omega, i + 1, by omega, rfl, by rw [hst, a5], rfl, rfl, ?_, trivial⟩
    show V.int .i64 (IntKind.i64.wrap (i + 1)) = _
    rw [wrap64 (by omega) (by omega)]; simp
  · rw [ltB_f (by omega)]
    conv => whnf
    rw [List.take_of_length_le (by omega)] at hx
    rw [hp, hx]

theorem l2Plain_pure (t : T) (hs : t.Small) : ∀ lv : Int, 0 ≤ lv → lv ≤ 1000 → Pure Tryd.prog 45 [.agg t.cells, .int .i64 lv] (· = .bool (plainT t lv)) := by
  induction hs with
  | @mk id kind text kids g1 g2 g3 g4 g5 ih =>
    intro lv h0 h7
    exact l2Plain_pure1 _ (.mk g1 g2 g3 g4 g5) lv h0 h7 fun h t' ht' => ih t' ht' (lv + 1) (by omega) (by omega)
end Go.Cod

set_option linter.all false
namespace Go.Cod
variable [Adr]
open Go Go.Proofs
set_option maxRecDepth 10000

mutual
theorem ids_sz : ∀ (t : T) (left : Int), 0 ≤ szT t left → szT t left + t.ids.length ≤ left + 1
  | .mk id kind text kids, left, h => by
    simp only [szT] at h ⊢
    split at h
    · omega
    split at h
    · omega
    split at h
    · simp at h
    rename_i a1 a2 a3
    rw [if_neg a1, if_neg a2, if_neg a3]
    split at h
    · omega
    rename_i a4
    rw [if_neg a4]
    have := ids_szGo kids _ h
    simp only [T.ids, List.length_cons]
    omega
theorem ids_szGo : ∀ (ts : List T) (left : Int), 0 ≤ szGo ts left → szGo ts left + (T.idsL ts).length ≤ left + ts.length
  | [], left, h => by simp [szGo, T.idsL]
  | t :: ts, left, h => by
    simp only [szGo] at h ⊢
    split at h
    · omega
    rename_i a1
    rw [if_neg a1]
    have h1 := ids_sz t left (by omega)
    have h2 := ids_szGo ts _ h
    simp only [T.idsL, List.length_append, List.length_cons]
    omega
end
theorem idsL_split (ts : List T) (i : Nat) : T.idsL ts = T.idsL (ts.take i) ++ T.idsL (ts.drop i) := by
  induction ts generalizing i with
  | nil => simp [T.idsL]
  | cons t ts ih => cases i with
    | zero => simp [T.idsL]
    | succ i => simp only [List.take_succ_cons, List.drop_succ_cons, T.idsL, List.append_assoc]; rw [← ih i]
theorem irows_wid (l : List Int) : ∀ m ∈ irows l, m.length = 1 := by simp [irows]

theorem l2Ids_pure1 (t : T) (hs : t.Small) (hn : t.ids.length ≤ 1048577) (hT : ∀ t' ∈ t.kids, (t'.ids).length ≤ 1048577 → Pure Tryd.prog 46 [.agg t'.cells] (· = .sl (irows (t'.ids)))) :
    Pure Tryd.prog 46 [.agg t.cells] (· = .sl (irows t.ids)) := by
  cases hs with
  | @mk id kind text kids g1 g2 g3 g4 g5 =>
  simp only [T.kids, T.ids, List.length_cons] at hT hn ⊢
  have hlr := rows_len kids
  refine pure_of_awp good Tryd.func46 rfl (by kernel_rfl) (by decide) ?_
  conv => whnf
  refine loop_drop (fun n fr st => ∃ i : Nat, n + i = kids.length ∧ st = [⟨[[.int .i64 id, .str kind, .str text, .sl (T.rows kids)]], 4, true, true, true, .cell⟩, ⟨irows (id :: T.idsL (kids.take i)), 1, true, true, false, .cell⟩] ∧ Holds fr [(1, .ptr 0 0 0), (3, .own 1), (4, .int .i64 i)]) kids.length none
    ⟨0, rfl, rfl, rfl, rfl, rfl, trivial⟩ ?_
  rintro n fr st ⟨i, hi, rfl, hh⟩
  obtain ⟨fr, rfl⟩ := hh.split
  clear hh
  conv => whnf
  by_cases hlt : i < kids.length
  · rw [ltB_t (by omega)]
    conv => whnf
    refine ⟨by omega, T.rows kids, kids[i].cells, 4, rfl, rows_get kids i hlt, rfl, cells_len _, ?_⟩
    have hsp := idsL_split kids (i + 1)
    have htk := idsL_take kids i hlt
    have hl1 : (T.idsL kids).length = (T.idsL (kids.take (i + 1))).length + (T.idsL (kids.drop (i + 1))).length := by rw [hsp]; simp
    have hl2 : (T.idsL (kids.take (i + 1))).length = (T.idsL (kids.take i)).length + (kids[i].ids).length := by rw [htk]; simp
    have hc := hT kids[i] (List.getElem_mem _) (by omega)
    generalize kids[i] = t at hc htk hl2 ⊢
    cases t with
    | mk id' kind' text' kids' =>
    conv => whnf
    refine .inl (hc.mono ?_)
    rintro r rfl
    conv => whnf
    refine ⟨irows_wid _, ?_⟩
    conv => whnf
    refine ⟨by rw [irows_len, irows_len]; show (_ + _) * 8 ≤ _; simp only [List.length_cons]; omega, ?_⟩
    conv => whnf
    refine ⟨n - 1, by omega, some [0, 2], ?_⟩
    conv => whnf
    refine ⟨i + 1, by omega, ?_, rfl, rfl, ?_, trivial⟩
    · show [_, _] = [_, _]
      rw [htk]
      simp only [irows, List.map_cons, List.map_append]
      rfl
    · show V.int .i64 (IntKind.i64.wrap (i + 1)) = _
      rw [wrap64 (by omega) (by omega)]; simp
  · rw [ltB_f (by omega)]
    conv => whnf
    rw [List.take_of_length_le (by omega)]

theorem l2Ids_pure (t : T) (hs : t.Small) : t.ids.length ≤ 1048577 → Pure Tryd.prog 46 [.agg t.cells] (· = .sl (irows t.ids)) := by
  induction hs with
  | @mk id kind text kids g1 g2 g3 g4 g5 ih =>
    intro hn
    exact l2Ids_pure1 _ (.mk g1 g2 g3 g4 g5) hn fun t' ht' h => ih t' ht' h

theorem nodup_take {l : List Int} {i : Nat} (h : i < l.length) : (l.take (i + 1)).Nodup ↔ (l.take i).Nodup ∧ l[i] ∉ l.take i := by
  rw [List.take_succ_eq_append_getElem h, List.nodup_append]
  simp
  intro _
  constructor
  · intro h h2; exact h _ h2 rfl
  · intro h a ha e; exact h (e ▸ ha)

def okT (t : T) : Bool := plainT t 1 && decide t.ids.Nodup && decide (t.ids.length ≤ 20)

theorem specTreeOk_pure (t : T) (hs : t.Small) (hn : t.ids.length ≤ 1048577) : Pure Tryd.prog 17 [.agg t.cells] (· = .bool (okT t)) := by
  have hp := l2Plain_pure t hs 1 (by omega) (by omega)
  have hi := l2Ids_pure t hs hn
  have hok : okT t = (plainT t 1 && decide t.ids.Nodup && decide (t.ids.length ≤ 20)) := rfl
  generalize okT t = ok at *
  generalize plainT t 1 = pl at *
  generalize t.ids = ids at *
  cases t with
  | mk id kind text kids =>
  refine pure_of_awp good Tryd.func17 rfl (by kernel_rfl) (by decide) ?_
  conv => whnf
  refine .inl (hp.mono ?_)
  rintro r rfl
  cases pl
  · conv => whnf
    simp at hok; rw [hok]
  conv => whnf
  refine .inl (hi.mono ?_)
  rintro r rfl
  conv => whnf
  refine loop_intro (fun n fr st => ∃ i : Nat, n + i = ids.length ∧ st = [⟨[[.int .i64 id, .str kind, .str text, .sl (T.rows kids)]], 4, true, true, true, .cell⟩] ∧ (ids.take i).Nodup ∧ Holds fr [(3, .sl (irows ids)), (4, .int .i64 i)]) ids.length
    ⟨0, rfl, rfl, by simp, rfl, rfl, trivial⟩ ?_
  rintro n fr st ⟨i, hi, rfl, hx, hh⟩
  obtain ⟨fr, rfl⟩ := hh.split
  clear hh
  conv => whnf
  have hlr := irows_len ids
  by_cases hlt : i < ids.length
  · rw [ltB_t (by omega)]
    conv => whnf
    refine ⟨irows_wid _, ?_⟩
    conv => whnf
    refine ⟨by omega, by show Int.toNat (i : Int) ≤ _; rw [hlr]; omega, rfl, ?_⟩
    conv => whnf
    refine ⟨by omega, irows ids, _, 1, rfl, irows_get ids i hlt, rfl, rfl, ?_⟩
    conv => whnf
    have hcut : ((irows ids).take (Int.toNat (i : Int))).drop 0 = irows (ids.take i) := by simp [irows]
    have hc := l2Has_pure (ids.take i) ids[i] (by simp; omega)
    rw [← hcut] at hc
    refine ⟨_, .inl hc, ?_⟩
    have hnd := nodup_take hlt
    by_cases hm : ids[i] ∈ ids.take i
    · rw [decide_eq_true hm]
      conv => whnf
      have : ¬ ids.Nodup := fun h => (hnd.1 (h.sublist (List.take_sublist _ _))).2 hm
      simp [this] at hok; rw [hok]
    · rw [decide_eq_false hm]
      conv => whnf
      refine ⟨n - 1, by omega, i + 1, by omega, rfl, hnd.2 ⟨hx, hm⟩, rfl, ?_, trivial⟩
      show V.int .i64 (IntKind.i64.wrap (i + 1)) = _
      rw [wrap64 (by omega) (by omega)]; simp
  · rw [ltB_f (by omega)]
    conv => whnf
    rw [List.take_of_length_le (by omega)] at hx
    simp only [hx, decide_true, Bool.true_and, Bool.and_true] at hok
    rw [hok, leB_def, hlr]
    congr 1
    exact decide_eq_decide.2 (by omega)
end Go.Cod

set_option linter.all false
namespace Go.Cod
variable [Adr]
open Go Go.Proofs
set_option maxRecDepth 10000

theorem textHasOnly_pure (s : List UInt8) (hs : s.length ≤ 9223372036854775806) (g : Nat) (p : UInt8 → Bool) (hp : ∀ b : UInt8, Pure Tryd.prog g [cellB b] (· = .bool (p b))) :
    Pure Tryd.prog 77 [.str s, .fn g []] (· = .bool (s.all p)) := by
  refine pure_of_awp good Tryd.func77 rfl (by kernel_rfl) (by decide) ?_
  conv => whnf
  refine loop_intro (fun n fr st => st = [] ∧ ∃ i : Nat, n + i = s.length ∧ (s.take i).all p = true ∧ Holds fr [(0, .str s), (1, .fn g []), (7, .int .i64 s.length), (8, .int .i64 i)]) s.length ⟨rfl, 0, rfl, rfl, rfl, rfl, rfl, rfl, trivial⟩ ?_
  rintro n fr st ⟨rfl, i, hi, hx, hh⟩
  obtain ⟨fr, rfl⟩ := hh.split
  clear hh
  conv => whnf
  by_cases hlt : i < s.length
  · rw [ltB_t (by omega)]
    conv => whnf
    refine ⟨by omega, s[i], by simp [hlt], ?_⟩
    conv => whnf
    have hst := take_all (p := p) hlt
    have hno : p s[i] = false → s.all p = false := by
      intro h; rw [List.all_eq_false]; exact ⟨s[i], List.getElem_mem _, by simp [h]⟩
    refine .inl ((hp s[i]).mono ?_)
    rintro r rfl
    cases a : p s[i]
    · conv => whnf
      rw [hno a]
    conv => whnf
    refine ⟨n - 1, by omega, rfl, i + 1, by omega, by rw [hst, hx, a]; rfl, rfl, rfl, rfl, ?_, trivial⟩
    show V.int .i64 (IntKind.i64.wrap (i + 1)) = _
    rw [wrap64 (by omega) (by omega)]; simp
  · rw [ltB_f (by omega)]
    conv => whnf
    rw [List.take_of_length_le (by omega)] at hx
    rw [hx]

theorem isLetter_pure (b : UInt8) : Pure Tryd.prog 96 [cellB b] (· = .bool (lowerB b)) := by
  refine pure_of_awp good Tryd.func96 rfl (by kernel_rfl) (by decide) ?_
  conv => whnf
  by_cases h1 : (97 : Int) ≤ (b.toNat : Int)
  · rw [leB_t (by omega)]
    conv => whnf
    congr 1
    rw [leB_def, lowerB]
    exact decide_eq_decide.2 (by omega)
  · rw [leB_f (by omega)]
    conv => whnf
    have : lowerB b = false := by unfold lowerB; simp; omega
    rw [this]
theorem isTreeText_pure (b : UInt8) : Pure Tryd.prog 78 [cellB b] (· = .bool (textB b)) := by
  refine pure_of_awp good Tryd.func78 rfl (by kernel_rfl) (by decide) ?_
  conv => whnf
  by_cases h1 : (32 : Int) ≤ (b.toNat : Int)
  · rw [leB_t (by omega)]
    conv => whnf
    by_cases h2 : (b.toNat : Int) ≤ 126
    · rw [leB_t (by omega)]
      conv => whnf
      congr 1
      rw [eqB_def]
      have : negB (decide ((b.toNat : Int) = 34)) = decide (b.toNat ≠ 34) := by
        by_cases h : b.toNat = 34
        · simp [h, negB]
        · have : ¬ (b.toNat : Int) = 34 := by omega
          simp [h, this, negB]
      rw [this, textB]
      exact decide_eq_decide.2 (by omega)
    · rw [leB_f (by omega)]
      conv => whnf
      have : textB b = false := by unfold textB; simp; omega
      rw [this]
  · rw [leB_f (by omega)]
    conv => whnf
    have : textB b = false := by unfold textB; simp; omega
    rw [this]
theorem nameOk_pure (s : List UInt8) (hs : s.length ≤ 9223372036854775806) : Pure Tryd.prog 76 [.str s] (· = .bool (nameL s)) := by
  refine pure_of_awp good Tryd.func76 rfl (by kernel_rfl) (by decide) ?_
  conv => whnf
  by_cases h1 : (1 : Int) ≤ (s.length : Int)
  case neg =>
    rw [leB_f (by omega)]
    conv => whnf
    simp [nameL]; omega
  rw [leB_t (by omega)]
  conv => whnf
  by_cases h2 : (s.length : Int) ≤ 8
  case neg =>
    rw [leB_f (by omega)]
    conv => whnf
    simp [nameL]; omega
  rw [leB_t (by omega)]
  conv => whnf
  refine .inl ((textHasOnly_pure s hs _ lowerB isLetter_pure).mono ?_)
  rintro r rfl
  conv => whnf
  simp [nameL, lower, h1, h2]

def thingB (id : Int) (kind text : List UInt8) : Bool := decide (1 ≤ id ∧ id ≤ 999) && nameL kind && textL text
theorem treeThingOk_pure (id : Int) (kind text : List UInt8) (kids : List T) (h2 : kind.length ≤ 9223372036854775806) (h3 : text.length ≤ 9223372036854775806) :
    Pure Tryd.prog 44 [.agg (T.mk id kind text kids).cells] (· = .bool (thingB id kind text)) := by
  refine pure_of_awp good Tryd.func44 rfl (by kernel_rfl) (by decide) ?_
  conv => whnf
  by_cases a1 : 1 ≤ id
  case neg =>
    rw [leB_f (by omega)]
    conv => whnf
    simp [thingB]; omega
  rw [leB_t (by omega)]
  conv => whnf
  by_cases a2 : id ≤ 999
  case neg =>
    rw [leB_f (by omega)]
    conv => whnf
    simp [thingB]; omega
  rw [leB_t (by omega)]
  conv => whnf
  refine .inl ((nameOk_pure kind (by omega)).mono ?_)
  rintro r rfl
  cases a3 : nameL kind
  · conv => whnf
    simp [thingB, a3]
  conv => whnf
  by_cases a4 : (text.length : Int) ≤ 12
  case neg =>
    rw [leB_f (by omega)]
    conv => whnf
    simp [thingB, textL]; omega
  rw [leB_t (by omega)]
  conv => whnf
  refine .inl ((textHasOnly_pure text (by omega) _ textB isTreeText_pure).mono ?_)
  rintro r rfl
  conv => whnf
  simp [thingB, textL, a1, a2, a3, a4]
end Go.Cod

set_option linter.all false
namespace Go.Cod
variable [Adr]
open Go Go.Proofs
set_option maxRecDepth 10000

/-- A thing, that in which it is, its level. -/
abbrev Sp := T × Int × Int
def spV (s : Sp) : V := .agg (s.1.cells ++ [.int .i64 s.2.1, .int .i64 s.2.2])
mutual
def spT : T → Int → Int → List Sp
  | .mk id kind text kids, ov, lv => (.mk id kind text kids, ov, lv) :: spL kids id (IntKind.i64.wrap (lv + 1))
def spL : List T → Int → Int → List Sp
  | [], _, _ => []
  | t :: ts, ov, lv => spT t ov lv ++ spL ts ov lv
end
theorem spL_append (a b : List T) (ov lv : Int) : spL (a ++ b) ov lv = spL a ov lv ++ spL b ov lv := by
  induction a with
  | nil => rfl
  | cons t ts ih => simp [spL, ih]
def spRows (l : List Sp) : List (List V) := l.map fun s => [spV s]
theorem spRows_append (a b : List Sp) : spRows (a ++ b) = spRows a ++ spRows b := by simp [spRows]

/-- What is yielded in order is taken. -/
def Takes (ok : OkY) (log : List (List V)) (l : List Sp) : Prop := ∀ pre v suf, l = pre ++ v :: suf → ok (log ++ spRows pre) [spV v]
theorem Takes.left {ok : OkY} {log : List (List V)} {a b : List Sp} (h : Takes ok log (a ++ b)) : Takes ok log a := fun pre v suf e => h pre v (suf ++ b) (by rw [e]; simp)
theorem Takes.right {ok : OkY} {log : List (List V)} {a b : List Sp} (h : Takes ok log (a ++ b)) : Takes ok (log ++ spRows a) b := fun pre v suf e => by
  have := h (a ++ pre) v suf (by rw [e]; simp)
  rwa [spRows_append, ← List.append_assoc] at this
def Walked (log : List (List V)) (l : List Sp) (o : Out) (st' : St) : Prop := ∃ b log', o = .ret (.bool b) ∧ st' = [logO log' b] ∧ (b = true → log' = log ++ spRows l)

theorem treeWalk_full1 (t : T) (hs : t.Small) (ov lv : Int) (ok : OkY) (log : List (List V)) (hok : Takes ok log (spT t ov lv))
    (hT : ∀ t' ∈ t.kids, ∀ (ov lv : Int) (log : List (List V)), Takes ok log (spT t' ov lv) → Full Tryd.prog ok 66 [spV (t', ov, lv), .yld 0] [logO log true] (Walked log (spT t' ov lv))) :
    Full Tryd.prog ok 66 [spV (t, ov, lv), .yld 0] [logO log true] (Walked log (spT t ov lv)) := by
  cases hs with
  | @mk id kind text kids g1 g2 g3 g4 g5 =>
  simp only [T.kids] at hT
  have hlr := rows_len kids
  have hok0 : ok log [spV (.mk id kind text kids, ov, lv)] := by simpa [spRows] using hok [] _ _ rfl
  have hokL : Takes ok (log ++ [[spV (.mk id kind text kids, ov, lv)]]) (spL kids id (IntKind.i64.wrap (lv + 1))) := Takes.right (a := [(.mk id kind text kids, ov, lv)]) hok
  refine full_of_awp good Tryd.func66 rfl (by kernel_rfl) (by decide) ?_
  conv => whnf
  refine ⟨hok0, ?_⟩
  intro b
  have hfin : log ++ [[spV (.mk id kind text kids, ov, lv)]] ++ spRows (spL kids id (IntKind.i64.wrap (lv + 1))) = log ++ spRows (spT (.mk id kind text kids) ov lv) := by simp [spT, spRows]
  cases b
  · conv => whnf
    refine ⟨[], false, ?_⟩
    conv => whnf
    exact ⟨false, _, rfl, rfl, by simp⟩
  conv => whnf
  refine loop_drop (fun n fr st => ∃ i : Nat, n + i = kids.length ∧ st = [logO (log ++ [[spV (.mk id kind text kids, ov, lv)]] ++ spRows (spL (kids.take i) id (IntKind.i64.wrap (lv + 1)))) true, ⟨[[.int .i64 id, .str kind, .str text, .sl (T.rows kids), .int .i64 ov, .int .i64 lv]], 6, true, true, true, .cell⟩] ∧ Holds fr [(1, .yld 0), (2, .ptr 1 0 0), (13, .sl (T.rows kids)), (14, .int .i64 kids.length), (15, .int .i64 i)]) kids.length none
    ⟨0, rfl, by show [_, _] = [logO (_ ++ []) true, _]; rw [List.append_nil]; rfl, rfl, rfl, rfl, by rw [← hlr]; rfl, rfl, trivial⟩ ?_
  rintro n fr st ⟨i, hi, rfl, hh⟩
  obtain ⟨fr, rfl⟩ := hh.split
  clear hh
  conv => whnf
  by_cases hlt : i < kids.length
  · rw [ltB_t (by omega)]
    conv => whnf
    refine ⟨by omega, T.rows kids, kids[i].cells, 4, rfl, rows_get kids i hlt, rfl, cells_len _, ?_⟩
    have hc := hT kids[i] (List.getElem_mem _) id (IntKind.i64.wrap (lv + 1)) (log ++ [[spV (.mk id kind text kids, ov, lv)]] ++ spRows (spL (kids.take i) id (IntKind.i64.wrap (lv + 1)))) (by
      refine Takes.right (Takes.left (b := spL (kids.drop (i + 1)) id (IntKind.i64.wrap (lv + 1))) ?_)
      refine cast ?_ hokL
      congr 1
      conv => lhs; rw [← List.take_append_drop i kids, List.drop_eq_getElem_cons hlt]
      rw [spL_append]; simp [spL])
    have htk : spL (kids.take (i + 1)) id (IntKind.i64.wrap (lv + 1)) = spL (kids.take i) id (IntKind.i64.wrap (lv + 1)) ++ spT kids[i] id (IntKind.i64.wrap (lv + 1)) := by
      rw [List.take_succ_eq_append_getElem hlt, spL_append]; simp [spL]
    generalize kids[i] = t at hc htk ⊢
    cases t with
    | mk id' kind' text' kids' =>
    conv => whnf
    refine ⟨[0], false, ?_⟩
    conv => whnf
    refine hc.mono ?_
    rintro o st' ⟨b, log', rfl, rfl, hl⟩
    cases b
    · conv => whnf
      refine ⟨[], false, ?_⟩
      conv => whnf
      exact ⟨false, _, rfl, rfl, by simp⟩
    conv => whnf
    refine ⟨n - 1, by omega, some [0, 1], ?_⟩
    conv => whnf
    refine ⟨i + 1, by omega, ?_, rfl, rfl, rfl, rfl, ?_, trivial⟩
    · show [logO _ _, _] = [logO _ _, _]
      rw [hl rfl, htk, spRows_append, List.append_assoc]
      rfl
    · show V.int .i64 (IntKind.i64.wrap (i + 1)) = _
      rw [wrap64 (by omega) (by omega)]; simp
  · rw [ltB_f (by omega)]
    conv => whnf
    rw [List.take_of_length_le (by omega)]
    refine ⟨[], false, ?_⟩
    conv => whnf
    exact ⟨true, _, rfl, rfl, fun _ => hfin⟩
theorem treeWalk_full (t : T) (hs : t.Small) (ok : OkY) : ∀ (ov lv : Int) (log : List (List V)), Takes ok log (spT t ov lv) → Full Tryd.prog ok 66 [spV (t, ov, lv), .yld 0] [logO log true] (Walked log (spT t ov lv)) := by
  induction hs with
  | @mk id kind text kids g1 g2 g3 g4 g5 ih =>
    intro ov lv log hok
    exact treeWalk_full1 _ (.mk g1 g2 g3 g4 g5) ov lv ok log hok fun t' ht' => ih t' ht'
end Go.Cod

set_option linter.all false
namespace Go.Cod
variable [Adr]
open Go Go.Proofs
set_option maxRecDepth 10000

def boxT (t : T) : O := ⟨[t.cells], 4, true, true, true, .cell⟩
theorem treeSpots1_full (t : T) (hs : t.Small) (ok : OkY) (hok : Takes ok [] (spT t 0 1)) : Full Tryd.prog ok 65 [.yld 0, .ptr 1 0 0] [logO [] true, boxT t] (fun o st' => ∃ r b log', o = .ret r ∧ st' = [logO log' b, boxT t] ∧ (b = true → log' = spRows (spT t 0 1))) := by
  have hc := treeWalk_full t hs ok 0 1 [] hok
  cases t with
  | mk id kind text kids =>
  refine full_of_awp good Tryd.func65 rfl (by kernel_rfl) (by decide) ?_
  conv => whnf
  refine ⟨[0], false, ?_⟩
  conv => whnf
  refine hc.mono ?_
  rintro o st' ⟨b, log', rfl, rfl, hl⟩
  conv => whnf
  refine ⟨[], false, ?_⟩
  conv => whnf
  exact ⟨_, b, log', rfl, rfl, hl⟩

theorem treeSpots_full (t : T) : Full Tryd.prog noY 32 [.agg t.cells] [] (fun o st' => o = .ret (.fn 65 [.ptr 0 0 0]) ∧ st' = [boxT t]) := by
  cases t with
  | mk id kind text kids =>
  refine full_of_awp good Tryd.func32 rfl (by kernel_rfl) (by decide) ?_
  conv => whnf
  refine ⟨[0], false, ?_⟩
  conv => whnf
  exact ⟨rfl, rfl⟩
end Go.Cod

set_option linter.all false
namespace Go.Cod
variable [Adr]
open Go Go.Proofs
set_option maxRecDepth 10000

def T.id : T → Int
  | .mk id _ _ _ => id
def T.thing : T → Bool
  | .mk id kind text _ => thingB id kind text
def idS (s : Sp) : Int := s.1.id
theorem T.thing_mk (id : Int) (kind text : List UInt8) (kids : List T) : (T.mk id kind text kids).thing = thingB id kind text := rfl
mutual
theorem spT_ids : ∀ (t : T) (ov lv : Int), (spT t ov lv).map idS = t.ids
  | .mk id kind text kids, ov, lv => by simp [spT, T.ids, spL_ids kids, idS, T.id]
theorem spL_ids : ∀ (ts : List T) (ov lv : Int), (spL ts ov lv).map idS = T.idsL ts
  | [], _, _ => rfl
  | t :: ts, ov, lv => by simp [spL, T.idsL, spT_ids t, spL_ids ts]
end
mutual
theorem plainT_sp : ∀ (t : T) (ov lv : Int), 0 ≤ lv → lv ≤ 7 → (plainT t lv = true ↔ ∀ s ∈ spT t ov lv, s.2.2 ≤ 6 ∧ s.1.thing = true)
  | .mk id kind text kids, ov, lv, h0, h7 => by
    have hw : IntKind.i64.wrap (lv + 1) = lv + 1 := wrap64 (by omega) (by omega)
    simp only [plainT, spT, hw, List.mem_cons, forall_eq_or_imp, T.thing_mk, thingB, Bool.and_eq_true]
    by_cases h6 : lv ≤ 6
    · rw [plainL_sp kids id (lv + 1) (by omega) (by omega)]
      have : ¬ 6 < lv := by omega
      simp [this, h6, and_assoc]
    · have : 6 < lv := by omega
      simp [this, h6]
theorem plainL_sp : ∀ (ts : List T) (ov lv : Int), 0 ≤ lv → lv ≤ 7 → (plainL ts lv = true ↔ ∀ s ∈ spL ts ov lv, s.2.2 ≤ 6 ∧ s.1.thing = true)
  | [], _, _, _, _ => by simp [plainL, spL]
  | t :: ts, ov, lv, h0, h7 => by
    simp only [plainL, spL, Bool.and_eq_true, List.mem_append, plainT_sp t ov lv h0 h7, plainL_sp ts ov lv h0 h7]
    constructor
    · rintro ⟨a, b⟩ s (h | h)
      · exact a s h
      · exact b s h
    · intro h
      exact ⟨fun s hs => h s (.inl hs), fun s hs => h s (.inr hs)⟩
end
def AllOk (l : List Sp) : Prop := (∀ s ∈ l, s.2.2 ≤ 6 ∧ s.1.thing = true) ∧ (l.map idS).Nodup ∧ l.length ≤ 20
theorem AllOk.pre {a b : List Sp} (h : AllOk (a ++ b)) : AllOk a := by
  obtain ⟨h1, h2, h3⟩ := h
  refine ⟨fun s hs => h1 s (by simp [hs]), ?_, by simp at h3; omega⟩
  rw [List.map_append, List.nodup_append] at h2
  exact h2.1
theorem okT_iff (t : T) : okT t = true ↔ AllOk (spT t 0 1) := by
  have h := spT_ids t 0 1
  unfold okT AllOk
  rw [h]
  simp only [Bool.and_eq_true, decide_eq_true_eq, plainT_sp t 0 1 (by omega) (by omega), and_assoc]
  rw [← h, List.length_map]
theorem AllOk.snoc {l : List Sp} {s : Sp} : AllOk (l ++ [s]) ↔ AllOk l ∧ s.2.2 ≤ 6 ∧ s.1.thing = true ∧ idS s ∉ l.map idS ∧ l.length ≠ 20 := by
  unfold AllOk
  simp only [List.mem_append, List.mem_singleton, List.map_append, List.map_cons, List.map_nil, List.nodup_append, List.length_append, List.length_singleton]
  constructor
  · rintro ⟨h1, ⟨h2, _, h3⟩, h4⟩
    refine ⟨⟨fun s hs => h1 s (.inl hs), h2, by omega⟩, (h1 s (.inr rfl)).1, (h1 s (.inr rfl)).2, fun hm => h3 _ hm _ (by simp) rfl, by omega⟩
  · rintro ⟨⟨h1, h2, h4⟩, h5, h6, h7, h8⟩
    refine ⟨?_, ⟨h2, by simp, ?_⟩, by omega⟩
    · rintro s' (h | rfl)
      · exact h1 s' h
      · exact ⟨h5, h6⟩
    · intro a ha b hb e
      subst e; rw [hb] at ha; exact h7 ha

def seenRows (l : List Int) : List (List V) := l.map fun i => [.int .i64 i, .bool true]
theorem seenRows_len (l : List Int) : (seenRows l).length = l.length := by simp [seenRows]
theorem findRow_seen (l : List Int) (x : Int) : findRow (.int .i64 x) (seenRows l) = if x ∈ l then some (.bool true) else none := by
  induction l with
  | nil => rfl
  | cons a l ih =>
    by_cases h : a = x
    · subst h; simp [seenRows, findRow, rowKey, keyEq, rowVal]
    · have : ¬ x = a := fun e => h e.symm
      have e : findRow (.int .i64 x) ([.int .i64 a, .bool true] :: seenRows l) = findRow (.int .i64 x) (seenRows l) := by
        show (if decide (a = x) = true then _ else _) = _
        rw [if_neg (by simpa using h)]
      refine e.trans (ih.trans ?_)
      simp [this]
theorem putRow_seen (l : List Int) (x : Int) (h : x ∉ l) : putRow (.int .i64 x) (.bool true) (seenRows l) = seenRows (l ++ [x]) := by
  induction l with
  | nil => rfl
  | cons a l ih =>
    simp only [List.mem_cons, not_or] at h
    simp only [seenRows, List.map_cons, List.cons_append] at ih ⊢
    have h' : ¬ a = x := fun e => h.1 e.symm
    simp only [putRow, rowKey, keyEq, h', decide_false, Bool.false_eq_true, if_false, ih h.2]

def okbT (t : T) : OkY := fun log vs => ∃ pre s suf, spT t 0 1 = pre ++ s :: suf ∧ log = spRows pre ∧ vs = [spV s]
theorem okbT_takes (t : T) : Takes (okbT t) [] (spT t 0 1) := fun pre v suf e => ⟨pre, v, suf, e, by simp, rfl⟩
theorem spRows_len (l : List Sp) : (spRows l).length = l.length := by simp [spRows]
theorem implTreeOk_pure (t : T) (hs : t.Small) (hsps : ∀ s ∈ spT t 0 1, s.1.Small) : Pure Tryd.prog 16 [.agg t.cells] (· = .bool (okT t)) := by
  have hsp := treeSpots_full t
  have hok := okT_iff t
  have hcl := treeSpots1_full t hs _ (okbT_takes t)
  have hbox : boxT t = ⟨[t.cells], 4, true, true, true, .cell⟩ := rfl
  generalize okT t = okt at *
  have hobt : okbT t = fun log vs => ∃ pre s suf, spT t 0 1 = pre ++ s :: suf ∧ log = spRows pre ∧ vs = [spV s] := rfl
  generalize okbT t = okb at *
  generalize spT t 0 1 = sps at *
  cases t with
  | mk id kind text kids =>
  refine pure_of_awp good Tryd.func16 rfl (by kernel_rfl) (by decide) ?_
  conv => whnf
  refine .inr (.inl ⟨[], false, ?_⟩)
  conv => whnf
  refine hsp.mono ?_
  rintro o st' ⟨rfl, rfl⟩
  conv => whnf
  refine ⟨[4], false, okb, fun log st' => AllOk (sps.take log.length) ∧ st' = [⟨[(T.mk id kind text kids).cells], 4, true, true, true, .cell⟩, ⟨[[.bool false]], 1, true, true, true, .cell⟩, ⟨seenRows ((sps.take log.length).map idS), kindCode .i64, false, true, false, .map⟩, ⟨[[.map 2]], 1, true, true, true, .cell⟩, ⟨[(T.mk id kind text kids).cells], 4, false, true, true, .cell⟩], ?_⟩
  conv => whnf
  refine ⟨⟨⟨by simp, by simp, by simp⟩, rfl⟩, ?_, ?_⟩
  · rintro log vs st' ⟨hall, rfl⟩ ho
    rw [hobt] at ho
    obtain ⟨pre, s, suf, rfl, rfl, rfl⟩ := ho
    have htk : (pre ++ s :: suf).take (spRows pre).length = pre := by rw [spRows_len]; simp
    have htk1 : (pre ++ s :: suf).take (spRows pre ++ [[spV s]]).length = pre ++ [s] := by rw [List.length_append, spRows_len]; show List.take (pre.length + 1) _ = _; rw [List.take_append, List.take_of_length_le (by omega)]; simp
    rw [htk] at hall ⊢
    refine ⟨rfl, ?_⟩
    have hsn := AllOk.snoc (l := pre) (s := s)
    have hno : ¬ AllOk (pre ++ [s]) → okt = false := fun h => by
      cases e : okt
      · rfl
      · exact absurd (AllOk.pre (b := suf) (by simpa using hok.1 e)) h
    obtain ⟨⟨id', kind', text', kids'⟩, ov, lv⟩ := s
    simp only [T.thing_mk, idS, T.id] at hsn
    have hfr := findRow_seen (pre.map idS) id'
    have hpr := putRow_seen (pre.map idS) id'
    conv => whnf
    by_cases a1 : 6 < lv
    · rw [ltB_t a1]
      conv => whnf
      rw [hno fun h => by have : lv ≤ 6 := (hsn.1 h).2.1; omega]
    rw [ltB_f (show lv ≤ 6 by omega)]
    conv => whnf
    rw [seenRows_len, List.length_map]
    by_cases a2 : pre.length = 20
    · rw [eqB_t (by omega)]
      conv => whnf
      rw [hno fun h => by have := (hsn.1 h).2.2.2.2; omega]
    rw [eqB_f (by omega)]
    conv => whnf
    by_cases a3 : id' ∈ pre.map idS
    · rw [if_pos a3] at hfr
      refine AtKey_intro _ hfr ?_
      conv => whnf
      rw [hno fun h => (hsn.1 h).2.2.2.1 a3]
    rw [if_neg a3] at hfr
    refine AtKey_intro _ hfr ?_
    conv => whnf
    obtain ⟨b2, b3⟩ : kind'.length ≤ 1048576 ∧ text'.length ≤ 1048576 := by
      have h := hsps (.mk id' kind' text' kids', ov, lv) (by simp)
      cases h
      exact ⟨by assumption, by assumption⟩
    refine .inl ((treeThingOk_pure id' kind' text' kids' (by omega) (by omega)).mono ?_)
    rintro r rfl
    cases a4 : thingB id' kind' text'
    · conv => whnf
      rw [hno fun h => by have := (hsn.1 h).2.2.1; rw [a4] at this; cases this]
    conv => whnf
    refine ⟨some [0, 1, 2, 3, 4], ?_⟩
    conv => whnf
    have hall' : AllOk (pre ++ [(.mk id' kind' text' kids', ov, lv)]) := hsn.2 ⟨hall, (show lv ≤ 6 by omega), a4, a3, a2⟩
    have hpr := hpr a3
    rw [htk1]
    refine ⟨hall', ?_⟩
    have hse : seenRows ((pre ++ [((.mk id' kind' text' kids', ov, lv) : Sp)]).map idS) = putRow (.int .i64 id') (.bool true) (seenRows (pre.map idS)) := by
      rw [hpr, List.map_append]; rfl
    rw [hse]
    rfl
  · refine hcl.mono ?_
    rintro o st' ⟨r, b, log', rfl, rfl, hl⟩
    refine ⟨_, _, _, rfl, rfl, fun hb st' hI => ?_⟩
    obtain ⟨hall, rfl⟩ := hI
    rw [hl hb, List.take_of_length_le (by rw [spRows_len]; omega)] at hall
    conv => whnf
    rw [hok.2 hall]
end Go.Cod

set_option linter.all false
namespace Go.Cod
variable [Adr]
open Go Go.Proofs
set_option maxRecDepth 10000

mutual
theorem spT_small : ∀ (t : T) (ov lv : Int), t.Small → ∀ s ∈ spT t ov lv, s.1.Small
  | .mk id kind text kids, ov, lv, h => by
    intro s hs
    rcases List.mem_cons.1 hs with rfl | hs
    · exact h
    · cases h with
      | mk g1 g2 g3 g4 g5 => exact spL_small kids _ _ g5 s hs
theorem spL_small : ∀ (ts : List T) (ov lv : Int), (∀ t ∈ ts, t.Small) → ∀ s ∈ spL ts ov lv, s.1.Small
  | [], _, _, _ => by simp [spL]
  | t :: ts, ov, lv, h => by
    intro s hs
    rcases List.mem_append.1 hs with hs | hs
    · exact spT_small t ov lv (h t (by simp)) s hs
    · exact spL_small ts ov lv (fun t ht => h t (by simp [ht])) s hs
end
theorem implTreeOk (t : T) (hs : t.Small) : Pure Tryd.prog 16 [.agg t.cells] (· = .bool (okT t)) := implTreeOk_pure t hs (spT_small t 0 1 hs)

end Go.Cod

set_option linter.all false
namespace Go.Cod
variable [Adr]
open Go Go.Proofs Go.ChangeShapes Go.WideShapes Go.ChangeAt Go.RowKit
set_option maxRecDepth 10000

/- Schemas ys arguments. -/
/- Lists of structs. -/
def rws {α : Type} (c : α → List V) (ys : List α) : List (List V) := ys.map c
theorem rws_len {α : Type} (c : α → List V) (ys : List α) : (rws c ys).length = ys.length := by simp [rws]
theorem rws_get {α : Type} (c : α → List V) (ys : List α) (i : Nat) (h : i < ys.length) : (rws c ys)[i]? = some (c ys[i]) := by simp [rws, h]
theorem rws_take {α : Type} (c : α → List V) (ys : List α) (i : Nat) : (rws c ys).take i = rws c (ys.take i) := by simp [rws]
theorem rws_wid {α : Type} (c : α → List V) {k : Nat} (hk : ∀ a, (c a).length = k) (ys : List α) : ∀ r ∈ rws c ys, r.length = k := fun r hr => by
  obtain ⟨a, _, rfl⟩ := List.mem_map.1 hr
  exact hk a
def mixR {α : Type} (c : α → List V) (z : List V) (ys : List α) (i : Nat) : List (List V) := (rws c ys).take i ++ List.replicate (ys.length - i) z
theorem mixR_get {α : Type} (c : α → List V) (z : List V) (ys : List α) (i : Nat) (h : i < ys.length) : (mixR c z ys i)[i]? = some z := by
  unfold mixR
  rw [List.getElem?_append_right (by rw [List.length_take, rws_len]; omega), List.length_take, rws_len, Nat.min_eq_left (by omega), Nat.sub_self, List.getElem?_replicate, if_pos (by omega)]
theorem mixR_set {α : Type} (c : α → List V) (z : List V) (ys : List α) (i : Nat) (h : i < ys.length) : (mixR c z ys i).set i (c ys[i]) = mixR c z ys (i + 1) := by
  unfold mixR
  rw [List.set_append_right _ _ (by rw [List.length_take, rws_len]; omega), List.length_take, rws_len, Nat.min_eq_left (by omega), Nat.sub_self]
  rw [show ys.length - i = (ys.length - (i + 1)) + 1 by omega, List.replicate_succ, List.set_cons_zero, List.take_add_one, rws_get c ys i h]
  simp
theorem mixR_all {α : Type} (c : α → List V) (z : List V) (ys : List α) (i : Nat) (h : ys.length ≤ i) : mixR c z ys i = rws c ys := by
  unfold mixR
  rw [show ys.length - i = 0 by omega, List.take_of_length_le (by rw [rws_len]; omega)]
  simp
theorem mixR_none {α : Type} (c : α → List V) (z : List V) (ys : List α) : mixR c z ys 0 = List.replicate ys.length z := by simp [mixR]
def szW {α : Type} (f : α → Int → Int) : List α → Int → Int
  | [], l => l
  | a :: ys, l => if f a l < 0 then -1 else szW f ys (f a l)
def szWL {α : Type} (f : α → Int → Int) (ys : List α) (l : Int) : Int := if l - ys.length < 0 then -1 else szW f ys (l - ys.length)
theorem szW_drop {α : Type} (f : α → Int → Int) (ys : List α) (i : Nat) (h : i < ys.length) (l : Int) : szW f (ys.drop i) l = if f ys[i] l < 0 then -1 else szW f (ys.drop (i + 1)) (f ys[i] l) := by
  rw [List.drop_eq_getElem_cons h]; rfl
theorem szW_le {α : Type} {f : α → Int → Int} (hf : ∀ a l, 0 ≤ l → f a l ≤ l ∧ -1 ≤ f a l) : ∀ (ys : List α) (l : Int), 0 ≤ l → szW f ys l ≤ l ∧ -1 ≤ szW f ys l
  | [], l, h => by simp only [szW]; omega
  | a :: ys, l, h => by
    simp only [szW]
    have h1 := hf a l h
    split
    · omega
    · have := szW_le hf ys (f a l) (by omega); omega
theorem szWL_le {α : Type} {f : α → Int → Int} (hf : ∀ a l, 0 ≤ l → f a l ≤ l ∧ -1 ≤ f a l) (ys : List α) (l : Int) (h : 0 ≤ l) : szWL f ys l ≤ l ∧ -1 ≤ szWL f ys l := by
  unfold szWL
  split
  · omega
  · have := szW_le hf ys (l - ys.length) (by omega); omega
theorem szW_small {α : Type} {f : α → Int → Int} (hf : ∀ a l, 0 ≤ l → f a l ≤ l ∧ -1 ≤ f a l) : ∀ (ys : List α) (l : Int), 0 ≤ l → 0 ≤ szW f ys l → ∀ a ∈ ys, ∃ m, 0 ≤ m ∧ m ≤ l ∧ 0 ≤ f a m
  | [], _, _, _ => fun s h => (by cases h)
  | a :: ys, l, h0, h => by
    simp only [szW] at h
    split at h
    · omega
    rename_i hn
    have h1 := hf a l h0
    intro u hu
    rcases List.mem_cons.1 hu with rfl | hu
    · exact ⟨l, h0, by omega, by omega⟩
    · obtain ⟨m, a1, a2, a3⟩ := szW_small hf ys (f a l) (by omega) h u hu
      exact ⟨m, a1, by omega, a3⟩
theorem szWL_small {α : Type} {f : α → Int → Int} (hf : ∀ a l, 0 ≤ l → f a l ≤ l ∧ -1 ≤ f a l) (ys : List α) (l : Int) (h0 : 0 ≤ l) (h : 0 ≤ szWL f ys l) : (ys.length : Int) ≤ l ∧ ∀ a ∈ ys, ∃ m, 0 ≤ m ∧ m ≤ l ∧ 0 ≤ f a m := by
  unfold szWL at h
  split at h
  · omega
  refine ⟨by omega, fun a ha => ?_⟩
  obtain ⟨m, a1, a2, a3⟩ := szW_small hf ys _ (by omega) h a ha
  exact ⟨m, a1, by omega, a3⟩
theorem rws_of {α : Type} (c : α → List V) {p : α → Prop} : ∀ (es : List (List V)), (∀ r ∈ es, ∃ a, r = c a ∧ p a) → ∃ ys : List α, es = rws c ys ∧ ∀ a ∈ ys, p a
  | [], _ => ⟨[], rfl, fun s h => (by cases h)⟩
  | r :: rs, h => by
    obtain ⟨s, rfl, hs⟩ := h r (by simp)
    obtain ⟨ss, rfl, hl⟩ := rws_of c rs fun r hr => h r (List.mem_cons_of_mem _ hr)
    refine ⟨s :: ss, rfl, fun u hu => ?_⟩
    rcases List.mem_cons.1 hu with rfl | hu
    · exact hs
    · exact hl u hu

structure It where
  kind : List UInt8
  many : Bool
  may : Bool
  deriving DecidableEq
def It.cells (a : It) : List V := [.str a.kind, .bool a.many, .bool a.may]
structure Ru where
  kind : List UInt8
  text : Bool
  kids : List It
  deriving DecidableEq
def Ru.cells (a : Ru) : List V := [.str a.kind, .bool a.text, .sl (rws It.cells a.kids)]
structure Sc where
  root : List UInt8
  rules : List Ru
  deriving DecidableEq
def Sc.cells (a : Sc) : List V := [.str a.root, .sl (rws Ru.cells a.rules)]
def It.Ok (a : It) : Prop := a.kind.length ≤ maxLen
def Ru.Ok (a : Ru) : Prop := a.kind.length ≤ maxLen ∧ a.kids.length ≤ maxLen ∧ ∀ x ∈ a.kids, x.Ok
def Sc.Ok (a : Sc) : Prop := a.root.length ≤ maxLen ∧ a.rules.length ≤ maxLen ∧ ∀ x ∈ a.rules, x.Ok
theorem It.len (a : It) : a.cells.length = 3 := rfl
theorem Ru.len (a : Ru) : a.cells.length = 3 := rfl

theorem reads_item {H : Type} {enc : TypeId × Value → H} {w : World} (n : Nat) : Reads enc Tryd.prog w n 166 fun vs => ∃ a : It, vs = a.cells ∧ a.Ok := by
  have hS := reads_struct (enc := enc) (P := Tryd.prog) (w := w) (n := n) (t := 166)
    (Ss := [fun vs => ∃ s, vs = [.str s] ∧ s.length ≤ maxLen, fun vs => ∃ b, vs = [.bool b], fun vs => ∃ b, vs = [.bool b]])
    kids (by decide +kernel) Tryd.underlying166 rfl ?_
  · intro cs x h
    obtain ⟨vs, ⟨_, _, rfl, ⟨s, rfl, hs⟩, _, _, rfl, ⟨b, rfl⟩, _, _, rfl, ⟨d, rfl⟩, rfl⟩, h2⟩ := hS cs x h
    exact ⟨_, ⟨⟨s, b, d⟩, by simp [It.cells], hs⟩, h2⟩
  · intro m hm j f S h1 h2
    match j with
    | 0 => simp at h1 h2; subst h1 h2; exact reads_str Tryd.underlying9
    | 1 => obtain rfl := Option.some.inj h1; obtain rfl := Option.some.inj h2; exact reads_bool Tryd.underlying4
    | 2 => obtain rfl := Option.some.inj h1; obtain rfl := Option.some.inj h2; exact reads_bool Tryd.underlying4
    | j + 3 => simp at h1
theorem reads_rule {H : Type} {enc : TypeId × Value → H} {w : World} (n : Nat) : Reads enc Tryd.prog w n 111 fun vs => ∃ a : Ru, vs = a.cells ∧ a.Ok := by
  have hS := reads_struct (enc := enc) (P := Tryd.prog) (w := w) (n := n) (t := 111)
    (Ss := [fun vs => ∃ s, vs = [.str s] ∧ s.length ≤ maxLen, fun vs => ∃ b, vs = [.bool b],
      fun vs => ∃ es, vs = [.sl es] ∧ es.length ≤ maxLen ∧ ∀ r ∈ es, (∃ a : It, r = a.cells ∧ a.Ok) ∧ r.length = Tryd.prog.cellsOf 166 ∧ (∀ v ∈ r, v.leaf = true) ∧ V.clean.cleanL 0 r = true])
    kids (by decide +kernel) Tryd.underlying111 rfl ?_
  · intro cs x h
    obtain ⟨vs, ⟨_, _, rfl, ⟨s, rfl, hs⟩, _, _, rfl, ⟨b, rfl⟩, _, _, rfl, ⟨es, rfl, hel, her⟩, rfl⟩, h2⟩ := hS cs x h
    obtain ⟨ys, rfl, has⟩ := rws_of It.cells es fun r hr => (her r hr).1
    exact ⟨_, ⟨⟨s, b, ys⟩, by simp [Ru.cells], hs, by rw [rws_len] at hel; exact hel, has⟩, h2⟩
  · intro m hm j f S h1 h2
    match j with
    | 0 => simp at h1 h2; subst h1 h2; exact reads_str Tryd.underlying9
    | 1 => obtain rfl := Option.some.inj h1; obtain rfl := Option.some.inj h2; exact reads_bool Tryd.underlying4
    | 2 => simp at h1 h2; subst h1 h2; exact reads_slice Tryd.underlying109 (by decide +kernel) fun m _ => reads_item m
    | j + 3 => simp at h1
theorem reads_schema {H : Type} {enc : TypeId × Value → H} {w : World} (n : Nat) : Reads enc Tryd.prog w n 24 fun vs => ∃ a : Sc, vs = a.cells ∧ a.Ok := by
  have hS := reads_struct (enc := enc) (P := Tryd.prog) (w := w) (n := n) (t := 24)
    (Ss := [fun vs => ∃ s, vs = [.str s] ∧ s.length ≤ maxLen,
      fun vs => ∃ es, vs = [.sl es] ∧ es.length ≤ maxLen ∧ ∀ r ∈ es, (∃ a : Ru, r = a.cells ∧ a.Ok) ∧ r.length = Tryd.prog.cellsOf 111 ∧ (∀ v ∈ r, v.leaf = true) ∧ V.clean.cleanL 0 r = true])
    kids (by decide +kernel) Tryd.underlying24 rfl ?_
  · intro cs x h
    obtain ⟨vs, ⟨_, _, rfl, ⟨s, rfl, hs⟩, _, _, rfl, ⟨es, rfl, hel, her⟩, rfl⟩, h2⟩ := hS cs x h
    obtain ⟨ys, rfl, has⟩ := rws_of Ru.cells es fun r hr => (her r hr).1
    exact ⟨_, ⟨⟨s, ys⟩, by simp [Sc.cells], hs, by rw [rws_len] at hel; exact hel, has⟩, h2⟩
  · intro m hm j f S h1 h2
    match j with
    | 0 => simp at h1 h2; subst h1 h2; exact reads_str Tryd.underlying9
    | 1 => simp at h1 h2; subst h1 h2; exact reads_slice Tryd.underlying22 (by decide +kernel) fun m _ => reads_rule m
    | j + 2 => simp at h1
theorem argSchema {H : Type} {enc : TypeId × Value → H} {W : World} : ReadsA enc Tryd.prog W 24 fun x => ∃ vs, x = .agg vs ∧ ∃ c : Sc, vs = c.cells ∧ c.Ok := readsA_agg Tryd.underlying24 fun n => reads_schema n
end Go.Cod

set_option linter.all false
namespace Go.Cod
variable [Adr]
open Go Go.Proofs
set_option maxRecDepth 10000

abbrev sCells : List UInt8 → List V := fun s => [.str s]
def szStr (s : List UInt8) (l : Int) : Int := if l - s.length < 0 then -1 else l - s.length
def szIt (a : It) (l : Int) : Int := szStr a.kind l
def szRu (a : Ru) (l : Int) : Int := if szStr a.kind l < 0 then -1 else szWL szIt a.kids (szStr a.kind l)
def szSc (a : Sc) (l : Int) : Int := if szStr a.root l < 0 then -1 else szWL szRu a.rules (szStr a.root l)
theorem szStr_le (s : List UInt8) (l : Int) (h : 0 ≤ l) : szStr s l ≤ l ∧ -1 ≤ szStr s l := by
  unfold szStr
  split <;> omega
theorem szStr_small (s : List UInt8) (l : Int) (h : 0 ≤ szStr s l) : (s.length : Int) ≤ l := by
  unfold szStr at h
  split at h <;> omega
theorem szIt_le (a : It) (l : Int) (h : 0 ≤ l) : szIt a l ≤ l ∧ -1 ≤ szIt a l := szStr_le a.kind l h
theorem szRu_le (a : Ru) (l : Int) (h : 0 ≤ l) : szRu a l ≤ l ∧ -1 ≤ szRu a l := by
  unfold szRu
  have h1 := szStr_le a.kind l h
  split
  · omega
  · have := szWL_le szIt_le a.kids _ (show 0 ≤ szStr a.kind l by omega); omega
theorem szSc_le (a : Sc) (l : Int) (h : 0 ≤ l) : szSc a l ≤ l ∧ -1 ≤ szSc a l := by
  unfold szSc
  have h1 := szStr_le a.root l h
  split
  · omega
  · have := szWL_le szRu_le a.rules _ (show 0 ≤ szStr a.root l by omega); omega
def It.Sm (a : It) : Prop := a.kind.length ≤ 1048576
def Ru.Sm (a : Ru) : Prop := a.kind.length ≤ 1048576 ∧ a.kids.length ≤ 1048576 ∧ ∀ x ∈ a.kids, x.Sm
def Sc.Sm (a : Sc) : Prop := a.root.length ≤ 1048576 ∧ a.rules.length ≤ 1048576 ∧ ∀ x ∈ a.rules, x.Sm
theorem szRu_small (a : Ru) (l : Int) (h0 : 0 ≤ l) (hl : l ≤ 1048576) (h : 0 ≤ szRu a l) : a.Sm := by
  unfold szRu at h
  have h1 := szStr_le a.kind l h0
  split at h
  · omega
  rename_i hn
  have h2 := szStr_small a.kind l (by omega)
  obtain ⟨h3, h4⟩ := szWL_small szIt_le a.kids _ (by omega) h
  refine ⟨by omega, by omega, fun x hx => ?_⟩
  obtain ⟨m, a1, a2, a3⟩ := h4 x hx
  have := szStr_small x.kind m a3
  unfold It.Sm
  omega
theorem szSc_small (a : Sc) (l : Int) (h0 : 0 ≤ l) (hl : l ≤ 1048576) (h : 0 ≤ szSc a l) : a.Sm := by
  unfold szSc at h
  have h1 := szStr_le a.root l h0
  split at h
  · omega
  rename_i hn
  have h2 := szStr_small a.root l (by omega)
  obtain ⟨h3, h4⟩ := szWL_small szRu_le a.rules _ (by omega) h
  refine ⟨by omega, by omega, fun x hx => ?_⟩
  obtain ⟨m, a1, a2, a3⟩ := h4 x hx
  exact szRu_small x m a1 (by omega) a3
/- One thing. -/
theorem szItem_pure (a : It) (ha : a.Ok) (left : Int) (h0 : 0 ≤ left) (h1 : left ≤ 1048576) : Pure Tryd.prog 100 [.agg a.cells, .int .i64 left] (· = .int .i64 (szIt a left)) := by
  have hd : szIt a left = if left - a.kind.length < 0 then -1 else left - a.kind.length := rfl
  have hk : a.kind.length ≤ maxLen := ha
  simp only [maxLen] at hk
  generalize szIt a left = res at *
  obtain ⟨kind, many, may⟩ := a
  simp only [It.cells] at hk hd ⊢
  refine pure_of_awp good Tryd.func100 rfl (by kernel_rfl) (by decide) ?_
  conv => whnf
  rw [wrap64 (by omega) (by omega)]
  by_cases a1 : left - kind.length < 0
  · rw [ltB_t a1]
    conv => whnf
    rw [hd, if_pos a1]
  rw [ltB_f (by omega)]
  conv => whnf
  rw [hd, if_neg a1]
theorem toItem_pure (a : It) : Pure Tryd.prog 101 [.agg a.cells] (· = .agg a.cells) := by
  obtain ⟨kind, many, may⟩ := a
  simp only [It.cells]
  refine pure_of_awp good Tryd.func101 rfl (by kernel_rfl) (by decide) ?_
  conv => whnf
  rfl
theorem eqItem_pure (a : It) : Pure Tryd.prog 102 [.agg a.cells, .agg a.cells] (· = .bool true) := by
  obtain ⟨kind, many, may⟩ := a
  simp only [It.cells]
  refine pure_of_awp good Tryd.func102 rfl (by kernel_rfl) (by decide) ?_
  conv => whnf
  rw [eqS_refl]
  cases many <;> cases may <;> conv => whnf

set_option maxHeartbeats 4000000 in
theorem szItemS_pure (ys : List It) (hl : ys.length ≤ maxLen) (ho : ∀ s ∈ ys, s.Ok) (left : Int) (h0 : 0 ≤ left) (h1 : left ≤ 1048576) : Pure Tryd.prog 85 [.sl (rws It.cells ys), .int .i64 left] (· = .int .i64 (szWL szIt ys left)) := by
  have hlen := rws_len It.cells ys
  have hget := rws_get It.cells ys
  have hd : szWL szIt ys left = if left - ys.length < 0 then -1 else szW szIt (ys.drop 0) (left - ys.length) := rfl
  have hml : (ys.length : Int) ≤ 9223372036854775807 := by simp only [maxLen] at hl; omega
  generalize szWL szIt ys left = res at *
  generalize rws It.cells ys = rows at *
  refine pure_of_awp good Tryd.func85 rfl (by kernel_rfl) (by decide) ?_
  conv => whnf
  rw [hlen, wrap64 (by omega) (by omega)]
  by_cases a1 : left - ys.length < 0
  · rw [ltB_t a1]
    conv => whnf
    rw [hd, if_pos a1]
  rw [ltB_f (by omega)]
  conv => whnf
  rw [if_neg a1] at hd
  refine loop_intro (fun n fr st => ∃ (i : Nat) (l : Int), n + i = ys.length ∧ 0 ≤ l ∧ l ≤ 1048576 ∧ res = szW szIt (ys.drop i) l ∧ st = [] ∧ Holds fr [(0, .sl rows), (1, .int .i64 l), (5, .int .i64 i)]) ys.length
    ⟨0, _, rfl, by omega, by omega, hd, rfl, rfl, rfl, rfl, trivial⟩ ?_
  rintro n fr st ⟨i, l, hi, l0, l1, hr, rfl, hh⟩
  obtain ⟨fr, rfl⟩ := hh.split
  clear hh
  conv => whnf
  by_cases hlt : i < ys.length
  · rw [hlen, ltB_t (by omega)]
    have hg := hget i hlt
    have hs := szW_drop szIt ys i hlt l
    have hm := ho ys[i] (List.getElem_mem _)
    generalize ys[i] = s at *
    have hle := szIt_le s l l0
    have hc := szItem_pure s hm l l0 l1
    generalize szIt s l = v at *
    obtain ⟨kind, many, may⟩ := s
    simp only [It.cells] at hg hc
    conv => whnf
    refine ⟨by omega, rows, _, 3, rfl, hg, rfl, rfl, ?_⟩
    conv => whnf
    refine .inl (hc.mono ?_)
    rintro r rfl
    conv => whnf
    by_cases a2 : v < 0
    · rw [ltB_t a2]
      conv => whnf
      rw [hr, hs, if_pos a2]
    rw [ltB_f (by omega)]
    conv => whnf
    rw [if_neg a2] at hs
    refine ⟨n - 1, by omega, i + 1, v, by omega, by omega, by omega, hr.trans hs, rfl, rfl, rfl, ?_, trivial⟩
    show V.int .i64 (IntKind.i64.wrap (i + 1)) = _
    rw [wrap64 (by omega) (by omega)]; simp
  · rw [hlen, ltB_f (by omega)]
    conv => whnf
    rw [hr, List.drop_of_length_le (by omega)]
    rfl

set_option maxHeartbeats 4000000 in
theorem toItemS_pure (ys : List It) (hl : ys.length ≤ 1048576) : Pure Tryd.prog 86 [.sl (rws It.cells ys)] (· = .sl (rws It.cells ys)) := by
  have hlen := rws_len It.cells ys
  have hget := rws_get It.cells ys
  have hz := mixR_get It.cells [.str [], .bool false, .bool false] ys
  have hset := mixR_set It.cells [.str [], .bool false, .bool false] ys
  have hall := mixR_all It.cells [.str [], .bool false, .bool false] ys ys.length (Nat.le_refl _)
  have hini := mixR_none It.cells [.str [], .bool false, .bool false] ys
  refine pure_of_awp good Tryd.func86 rfl (by kernel_rfl) (by decide) ?_
  conv => whnf
  refine ⟨by omega, by omega, ?_⟩
  conv => whnf
  refine ⟨by show (Int.toNat _) * 24 ≤ _; omega, by omega, ?_⟩
  conv => whnf
  refine loop_drop (fun n fr st => ∃ i : Nat, n + i = ys.length ∧ st = [⟨mixR It.cells [.str [], .bool false, .bool false] ys i, 3, true, true, false, .cell⟩] ∧ Holds fr [(0, .sl (rws It.cells ys)), (3, .own 0), (4, .int .i64 i)]) ys.length none
    ⟨0, rfl, by rw [hini, ← hlen]; rfl, rfl, rfl, rfl, trivial⟩ ?_
  rintro n fr st ⟨i, hi, rfl, hh⟩
  obtain ⟨fr, rfl⟩ := hh.split
  clear hh
  conv => whnf
  by_cases hlt : i < ys.length
  · rw [ltB_t (by omega)]
    conv => whnf
    have hg := hget i hlt
    have hzi := hz i hlt
    have hsi := hset i hlt
    have hc := toItem_pure ys[i]
    generalize ys[i] = s at *
    obtain ⟨kind, many, may⟩ := s
    simp only [It.cells] at hg hc hsi
    refine ⟨by omega, _, _, 3, rfl, hg, rfl, rfl, ?_⟩
    conv => whnf
    refine .inl (hc.mono ?_)
    rintro r rfl
    conv => whnf
    refine ⟨by omega, _, _, 3, rfl, hzi, rfl, rfl, ?_⟩
    conv => whnf
    refine AtRow_intro _ hzi ?_
    conv => whnf
    refine ⟨n - 1, by omega, none, i + 1, by omega, ?_, rfl, rfl, ?_, trivial⟩
    · rw [← hsi]; rfl
    · show V.int .i64 (IntKind.i64.wrap (i + 1)) = _
      rw [wrap64 (by omega) (by omega)]; simp
  · rw [ltB_f (by omega)]
    have hil : i = ys.length := by omega
    subst hil
    rw [hall]
    conv => whnf

set_option maxHeartbeats 4000000 in
theorem eqItemS_pure (ys : List It) (hl : ys.length ≤ 1048576) : Pure Tryd.prog 89 [.sl (rws It.cells ys), .sl (rws It.cells ys)] (· = .bool true) := by
  have hlr := rws_len It.cells ys
  have hget := rws_get It.cells ys
  generalize rws It.cells ys = rows at *
  refine pure_of_awp good Tryd.func89 rfl (by kernel_rfl) (by decide) ?_
  conv => whnf
  rw [eqB_refl]
  conv => whnf
  refine loop_intro (fun n fr st => ∃ i : Nat, n + i = ys.length ∧ st = [] ∧ Holds fr [(0, .sl rows), (1, .sl rows), (5, .int .i64 i)]) ys.length
    ⟨0, rfl, rfl, rfl, rfl, rfl, trivial⟩ ?_
  rintro n fr st ⟨i, hi, rfl, hh⟩
  obtain ⟨fr, rfl⟩ := hh.split
  clear hh
  conv => whnf
  by_cases hlt : i < ys.length
  · rw [hlr, ltB_t (by omega)]
    conv => whnf
    have hg := hget i hlt
    have hc := eqItem_pure ys[i]
    generalize ys[i] = s at *
    obtain ⟨kind, many, may⟩ := s
    simp only [It.cells] at hg hc
    refine ⟨by omega, rows, _, 3, rfl, hg, rfl, rfl, ?_⟩
    conv => whnf
    refine ⟨by omega, rows, _, 3, rfl, hg, rfl, rfl, ?_⟩
    conv => whnf
    refine ⟨_, .inl hc, ?_⟩
    conv => whnf
    refine ⟨n - 1, by omega, i + 1, by omega, rfl, rfl, rfl, ?_, trivial⟩
    show V.int .i64 (IntKind.i64.wrap (i + 1)) = _
    rw [wrap64 (by omega) (by omega)]; simp
  · rw [hlr, ltB_f (by omega)]
    conv => whnf

theorem szRule_pure (a : Ru) (ha : a.Ok) (left : Int) (h0 : 0 ≤ left) (h1 : left ≤ 1048576) : Pure Tryd.prog 62 [.agg a.cells, .int .i64 left] (· = .int .i64 (szRu a left)) := by
  have hd : szRu a left = if (if left - a.kind.length < 0 then -1 else left - a.kind.length) < 0 then -1 else szWL szIt a.kids (if left - a.kind.length < 0 then -1 else left - a.kind.length) := rfl
  obtain ⟨hk, hn, hx⟩ := ha
  have hc := fun h1 h2 => szItemS_pure a.kids hn hx (left - a.kind.length) h1 h2
  have hle := fun h => szWL_le szIt_le a.kids (left - a.kind.length) h
  simp only [maxLen] at hk
  generalize szRu a left = res at *
  obtain ⟨kind, text, kids⟩ := a
  simp only [Ru.cells] at hk hd hc hle ⊢
  generalize rws It.cells kids = rows at *
  refine pure_of_awp good Tryd.func62 rfl (by kernel_rfl) (by decide) ?_
  conv => whnf
  rw [wrap64 (by omega) (by omega)]
  by_cases a1 : left - kind.length < 0
  · rw [ltB_t a1]
    conv => whnf
    rw [hd, if_pos a1]; rfl
  rw [ltB_f (by omega)]
  rw [if_neg a1, if_neg a1] at hd
  have hc := hc (by omega) (by omega)
  have hle := hle (by omega)
  generalize szWL szIt kids (left - kind.length) = v at *
  conv => whnf
  refine .inl (hc.mono ?_)
  rintro r rfl
  conv => whnf
  by_cases a2 : v < 0
  · rw [ltB_t a2]
    conv => whnf
    rw [hd, show v = -1 by omega]
  rw [ltB_f (by omega)]
  conv => whnf
  rw [hd]
theorem toRule_pure (a : Ru) (ha : a.Sm) : Pure Tryd.prog 63 [.agg a.cells] (· = .agg a.cells) := by
  obtain ⟨_, hn, hx⟩ := ha
  have hc := toItemS_pure a.kids hn
  obtain ⟨kind, text, kids⟩ := a
  simp only [Ru.cells] at hc ⊢
  generalize rws It.cells kids = rows at *
  refine pure_of_awp good Tryd.func63 rfl (by kernel_rfl) (by decide) ?_
  conv => whnf
  refine .inl (hc.mono ?_)
  rintro r rfl
  conv => whnf
  rfl
theorem eqRule_pure (a : Ru) (ha : a.Sm) : Pure Tryd.prog 68 [.agg a.cells, .agg a.cells] (· = .bool true) := by
  obtain ⟨_, hn, hx⟩ := ha
  have hc := eqItemS_pure a.kids hn
  obtain ⟨kind, text, kids⟩ := a
  simp only [Ru.cells] at hc ⊢
  generalize rws It.cells kids = rows at *
  refine pure_of_awp good Tryd.func68 rfl (by kernel_rfl) (by decide) ?_
  conv => whnf
  rw [eqS_refl]
  cases text
  all_goals (conv => whnf)
  all_goals (refine .inl (hc.mono ?_))
  all_goals (rintro r rfl)
  all_goals (conv => whnf)

set_option maxHeartbeats 4000000 in
theorem szRuleS_pure (ys : List Ru) (hl : ys.length ≤ maxLen) (ho : ∀ s ∈ ys, s.Ok) (left : Int) (h0 : 0 ≤ left) (h1 : left ≤ 1048576) : Pure Tryd.prog 26 [.sl (rws Ru.cells ys), .int .i64 left] (· = .int .i64 (szWL szRu ys left)) := by
  have hlen := rws_len Ru.cells ys
  have hget := rws_get Ru.cells ys
  have hd : szWL szRu ys left = if left - ys.length < 0 then -1 else szW szRu (ys.drop 0) (left - ys.length) := rfl
  have hml : (ys.length : Int) ≤ 9223372036854775807 := by simp only [maxLen] at hl; omega
  generalize szWL szRu ys left = res at *
  generalize rws Ru.cells ys = rows at *
  refine pure_of_awp good Tryd.func26 rfl (by kernel_rfl) (by decide) ?_
  conv => whnf
  rw [hlen, wrap64 (by omega) (by omega)]
  by_cases a1 : left - ys.length < 0
  · rw [ltB_t a1]
    conv => whnf
    rw [hd, if_pos a1]
  rw [ltB_f (by omega)]
  conv => whnf
  rw [if_neg a1] at hd
  refine loop_intro (fun n fr st => ∃ (i : Nat) (l : Int), n + i = ys.length ∧ 0 ≤ l ∧ l ≤ 1048576 ∧ res = szW szRu (ys.drop i) l ∧ st = [] ∧ Holds fr [(0, .sl rows), (1, .int .i64 l), (5, .int .i64 i)]) ys.length
    ⟨0, _, rfl, by omega, by omega, hd, rfl, rfl, rfl, rfl, trivial⟩ ?_
  rintro n fr st ⟨i, l, hi, l0, l1, hr, rfl, hh⟩
  obtain ⟨fr, rfl⟩ := hh.split
  clear hh
  conv => whnf
  by_cases hlt : i < ys.length
  · rw [hlen, ltB_t (by omega)]
    have hg := hget i hlt
    have hs := szW_drop szRu ys i hlt l
    have hm := ho ys[i] (List.getElem_mem _)
    generalize ys[i] = s at *
    have hle := szRu_le s l l0
    have hc := szRule_pure s hm l l0 l1
    generalize szRu s l = v at *
    obtain ⟨kind, text, kids⟩ := s
    simp only [Ru.cells] at hg hc
    conv => whnf
    refine ⟨by omega, rows, _, 3, rfl, hg, rfl, rfl, ?_⟩
    conv => whnf
    refine .inl (hc.mono ?_)
    rintro r rfl
    conv => whnf
    by_cases a2 : v < 0
    · rw [ltB_t a2]
      conv => whnf
      rw [hr, hs, if_pos a2]
    rw [ltB_f (by omega)]
    conv => whnf
    rw [if_neg a2] at hs
    refine ⟨n - 1, by omega, i + 1, v, by omega, by omega, by omega, hr.trans hs, rfl, rfl, rfl, ?_, trivial⟩
    show V.int .i64 (IntKind.i64.wrap (i + 1)) = _
    rw [wrap64 (by omega) (by omega)]; simp
  · rw [hlen, ltB_f (by omega)]
    conv => whnf
    rw [hr, List.drop_of_length_le (by omega)]
    rfl

set_option maxHeartbeats 4000000 in
theorem toRuleS_pure (ys : List Ru) (hl : ys.length ≤ 1048576) (hs : ∀ s ∈ ys, s.Sm) : Pure Tryd.prog 29 [.sl (rws Ru.cells ys)] (· = .sl (rws Ru.cells ys)) := by
  have hlen := rws_len Ru.cells ys
  have hget := rws_get Ru.cells ys
  have hz := mixR_get Ru.cells [.str [], .bool false, .nils] ys
  have hset := mixR_set Ru.cells [.str [], .bool false, .nils] ys
  have hall := mixR_all Ru.cells [.str [], .bool false, .nils] ys ys.length (Nat.le_refl _)
  have hini := mixR_none Ru.cells [.str [], .bool false, .nils] ys
  refine pure_of_awp good Tryd.func29 rfl (by kernel_rfl) (by decide) ?_
  conv => whnf
  refine ⟨by omega, by omega, ?_⟩
  conv => whnf
  refine ⟨by show (Int.toNat _) * 48 ≤ _; omega, by omega, ?_⟩
  conv => whnf
  refine loop_drop (fun n fr st => ∃ i : Nat, n + i = ys.length ∧ st = [⟨mixR Ru.cells [.str [], .bool false, .nils] ys i, 3, true, true, false, .cell⟩] ∧ Holds fr [(0, .sl (rws Ru.cells ys)), (3, .own 0), (4, .int .i64 i)]) ys.length none
    ⟨0, rfl, by rw [hini, ← hlen]; rfl, rfl, rfl, rfl, trivial⟩ ?_
  rintro n fr st ⟨i, hi, rfl, hh⟩
  obtain ⟨fr, rfl⟩ := hh.split
  clear hh
  conv => whnf
  by_cases hlt : i < ys.length
  · rw [ltB_t (by omega)]
    conv => whnf
    have hg := hget i hlt
    have hzi := hz i hlt
    have hsi := hset i hlt
    have hc := toRule_pure ys[i] (hs _ (List.getElem_mem _))
    generalize ys[i] = s at *
    obtain ⟨kind, text, kids⟩ := s
    simp only [Ru.cells] at hg hc hsi
    refine ⟨by omega, _, _, 3, rfl, hg, rfl, rfl, ?_⟩
    conv => whnf
    refine .inl (hc.mono ?_)
    rintro r rfl
    conv => whnf
    refine ⟨by omega, _, _, 3, rfl, hzi, rfl, rfl, ?_⟩
    conv => whnf
    refine AtRow_intro _ hzi ?_
    conv => whnf
    refine ⟨n - 1, by omega, none, i + 1, by omega, ?_, rfl, rfl, ?_, trivial⟩
    · rw [← hsi]; rfl
    · show V.int .i64 (IntKind.i64.wrap (i + 1)) = _
      rw [wrap64 (by omega) (by omega)]; simp
  · rw [ltB_f (by omega)]
    have hil : i = ys.length := by omega
    subst hil
    rw [hall]
    conv => whnf

set_option maxHeartbeats 4000000 in
theorem eqRuleS_pure (ys : List Ru) (hl : ys.length ≤ 1048576) (hs : ∀ s ∈ ys, s.Sm) : Pure Tryd.prog 34 [.sl (rws Ru.cells ys), .sl (rws Ru.cells ys)] (· = .bool true) := by
  have hlr := rws_len Ru.cells ys
  have hget := rws_get Ru.cells ys
  generalize rws Ru.cells ys = rows at *
  refine pure_of_awp good Tryd.func34 rfl (by kernel_rfl) (by decide) ?_
  conv => whnf
  rw [eqB_refl]
  conv => whnf
  refine loop_intro (fun n fr st => ∃ i : Nat, n + i = ys.length ∧ st = [] ∧ Holds fr [(0, .sl rows), (1, .sl rows), (5, .int .i64 i)]) ys.length
    ⟨0, rfl, rfl, rfl, rfl, rfl, trivial⟩ ?_
  rintro n fr st ⟨i, hi, rfl, hh⟩
  obtain ⟨fr, rfl⟩ := hh.split
  clear hh
  conv => whnf
  by_cases hlt : i < ys.length
  · rw [hlr, ltB_t (by omega)]
    conv => whnf
    have hg := hget i hlt
    have hc := eqRule_pure ys[i] (hs _ (List.getElem_mem _))
    generalize ys[i] = s at *
    obtain ⟨kind, text, kids⟩ := s
    simp only [Ru.cells] at hg hc
    refine ⟨by omega, rows, _, 3, rfl, hg, rfl, rfl, ?_⟩
    conv => whnf
    refine ⟨by omega, rows, _, 3, rfl, hg, rfl, rfl, ?_⟩
    conv => whnf
    refine ⟨_, .inl hc, ?_⟩
    conv => whnf
    refine ⟨n - 1, by omega, i + 1, by omega, rfl, rfl, rfl, ?_, trivial⟩
    show V.int .i64 (IntKind.i64.wrap (i + 1)) = _
    rw [wrap64 (by omega) (by omega)]; simp
  · rw [hlr, ltB_f (by omega)]
    conv => whnf

theorem szSchema_pure (a : Sc) (ha : a.Ok) (left : Int) (h0 : 0 ≤ left) (h1 : left ≤ 1048576) : Pure Tryd.prog 7 [.agg a.cells, .int .i64 left] (· = .int .i64 (szSc a left)) := by
  have hd : szSc a left = if (if left - a.root.length < 0 then -1 else left - a.root.length) < 0 then -1 else szWL szRu a.rules (if left - a.root.length < 0 then -1 else left - a.root.length) := rfl
  obtain ⟨hk, hn, hx⟩ := ha
  have hc := fun h1 h2 => szRuleS_pure a.rules hn hx (left - a.root.length) h1 h2
  have hle := fun h => szWL_le szRu_le a.rules (left - a.root.length) h
  simp only [maxLen] at hk
  generalize szSc a left = res at *
  obtain ⟨root, rules⟩ := a
  simp only [Sc.cells] at hk hd hc hle ⊢
  generalize rws Ru.cells rules = rows at *
  refine pure_of_awp good Tryd.func7 rfl (by kernel_rfl) (by decide) ?_
  conv => whnf
  rw [wrap64 (by omega) (by omega)]
  by_cases a1 : left - root.length < 0
  · rw [ltB_t a1]
    conv => whnf
    rw [hd, if_pos a1]; rfl
  rw [ltB_f (by omega)]
  rw [if_neg a1, if_neg a1] at hd
  have hc := hc (by omega) (by omega)
  have hle := hle (by omega)
  generalize szWL szRu rules (left - root.length) = v at *
  conv => whnf
  refine .inl (hc.mono ?_)
  rintro r rfl
  conv => whnf
  by_cases a2 : v < 0
  · rw [ltB_t a2]
    conv => whnf
    rw [hd, show v = -1 by omega]
  rw [ltB_f (by omega)]
  conv => whnf
  rw [hd]
theorem toSchema_pure (a : Sc) (ha : a.Sm) : Pure Tryd.prog 10 [.agg a.cells] (· = .agg a.cells) := by
  obtain ⟨_, hn, hx⟩ := ha
  have hc := toRuleS_pure a.rules hn hx
  obtain ⟨root, rules⟩ := a
  simp only [Sc.cells] at hc ⊢
  generalize rws Ru.cells rules = rows at *
  refine pure_of_awp good Tryd.func10 rfl (by kernel_rfl) (by decide) ?_
  conv => whnf
  refine .inl (hc.mono ?_)
  rintro r rfl
  conv => whnf
  rfl
theorem eqSchema_pure (a : Sc) (ha : a.Sm) : Pure Tryd.prog 13 [.agg a.cells, .agg a.cells] (· = .bool true) := by
  obtain ⟨_, hn, hx⟩ := ha
  have hc := eqRuleS_pure a.rules hn hx
  obtain ⟨root, rules⟩ := a
  simp only [Sc.cells] at hc ⊢
  generalize rws Ru.cells rules = rows at *
  refine pure_of_awp good Tryd.func13 rfl (by kernel_rfl) (by decide) ?_
  conv => whnf
  rw [eqS_refl]
  skip
  all_goals (conv => whnf)
  all_goals (refine .inl (hc.mono ?_))
  all_goals (rintro r rfl)
  all_goals (conv => whnf)

end Go.Cod

set_option linter.all false
namespace Go.Cod
variable [Adr]
open Go Go.Proofs
set_option maxRecDepth 10000

/- What a schema must be. -/
def hasR (rs : List Ru) (k : List UInt8) : Bool := rs.any fun r => decide (r.kind = k)
def idxR (k : List UInt8) : List Ru → Int → Int
  | [], _ => -1
  | r :: rs, n => if r.kind = k then n else idxR k rs (n + 1)
def textW : List UInt8 := [116, 101, 120, 116]
def itemB (rs : List Ru) (x : It) : Bool := hasR rs x.kind && !(x.many && x.may)
def ruleB (rs : List Ru) (r : Ru) : Bool := nameL r.kind && decide (r.kind ≠ textW) && decide (r.kids.length ≤ 4) && r.kids.all (itemB rs)
def okS (s : Sc) : Bool := decide (s.rules.length ≤ 6) && hasR s.rules s.root && s.rules.all (ruleB s.rules) && decide ((s.rules.map (·.kind)).Nodup)
theorem idxR_drop (k : List UInt8) (rs : List Ru) (i : Nat) (h : i < rs.length) (n : Int) : idxR k (rs.drop i) n = if rs[i].kind = k then n else idxR k (rs.drop (i + 1)) (n + 1) := by
  rw [List.drop_eq_getElem_cons h]; rfl
theorem idxR_has (k : List UInt8) : ∀ (rs : List Ru) (n : Int), 0 ≤ n → (idxR k rs n < 0 ↔ hasR rs k = false) ∧ (hasR rs k = true → n ≤ idxR k rs n)
  | [], n, h => by simp [idxR, hasR]
  | r :: rs, n, h => by
    have ih := idxR_has k rs (n + 1) (by omega)
    have he : hasR (r :: rs) k = (decide (r.kind = k) || hasR rs k) := rfl
    simp only [idxR]
    rw [he]
    by_cases hk : r.kind = k
    · simp [hk]; omega
    · rw [if_neg hk]
      simp only [hk, decide_false, Bool.false_or]
      exact ⟨ih.1, fun h => by have := ih.2 h; omega⟩
theorem idxR_neg (k : List UInt8) (rs : List Ru) : idxR k rs 0 < 0 ↔ hasR rs k = false := (idxR_has k rs 0 (by omega)).1
theorem hasR_get {rs : List Ru} {i : Nat} (h : i < rs.length) : hasR rs rs[i].kind = true := by
  unfold hasR
  rw [List.any_eq_true]
  exact ⟨rs[i], List.getElem_mem _, by simp⟩
theorem hasR_iff (rs : List Ru) (k : List UInt8) : hasR rs k = true ↔ k ∈ rs.map (·.kind) := by
  unfold hasR
  rw [List.any_eq_true]
  simp only [List.mem_map, decide_eq_true_eq]
/-- The first rule of a kind. -/
theorem idxR_at (k : List UInt8) : ∀ (rs : List Ru) (n : Int), 0 ≤ n → hasR rs k = true → ∃ (i : Nat) (h : i < rs.length), idxR k rs n = n + i ∧ rs[i].kind = k ∧ hasR (rs.take i) k = false
  | [], n, _, h => by simp [hasR] at h
  | r :: rs, n, hn, h => by
    have he : hasR (r :: rs) k = (decide (r.kind = k) || hasR rs k) := rfl
    rw [he] at h
    by_cases hk : r.kind = k
    · exact ⟨0, by simp, by simp [idxR, hk], by simpa using hk, rfl⟩
    · simp only [hk, decide_false, Bool.false_or] at h
      obtain ⟨i, hi, h1, h2, h3⟩ := idxR_at k rs (n + 1) (by omega) h
      refine ⟨i + 1, by simpa using hi, ?_, by simpa using h2, ?_⟩
      · simp only [idxR, if_neg hk, h1]; omega
      · have : hasR ((r :: rs).take (i + 1)) k = (decide (r.kind = k) || hasR (rs.take i) k) := rfl
        rw [this, h3]; simp [hk]
theorem idxR_first (rs : List Ru) (i : Nat) (h : i < rs.length) : idxR rs[i].kind rs 0 = i ↔ hasR (rs.take i) rs[i].kind = false := by
  obtain ⟨j, hj, h1, h2, h3⟩ := idxR_at rs[i].kind rs 0 (by omega) (hasR_get h)
  rw [h1]
  constructor
  · intro e
    obtain rfl : j = i := by omega
    exact h3
  · intro e
    rcases Nat.lt_trichotomy j i with hlt | rfl | hlt
    · exfalso
      have : hasR (rs.take i) rs[i].kind = true := by
        unfold hasR
        rw [List.any_eq_true]
        exact ⟨rs[j], List.mem_take_iff_getElem.2 ⟨j, by omega, rfl⟩, by simpa using h2⟩
      rw [e] at this; cases this
    · omega
    · exfalso
      have : hasR (rs.take j) rs[i].kind = true := by
        unfold hasR
        rw [List.any_eq_true]
        exact ⟨rs[i], List.mem_take_iff_getElem.2 ⟨i, by omega, rfl⟩, by simp⟩
      rw [h3] at this; cases this
theorem kinds_take {rs : List Ru} {i : Nat} (h : i < rs.length) : ((rs.take (i + 1)).map (·.kind)).Nodup ↔ ((rs.take i).map (·.kind)).Nodup ∧ hasR (rs.take i) rs[i].kind = false := by
  rw [List.take_succ_eq_append_getElem h, List.map_append, List.nodup_append]
  simp only [List.map_cons, List.map_nil, List.nodup_cons, List.not_mem_nil, not_false_eq_true, List.nodup_nil, and_self, List.mem_singleton, forall_eq, true_and]
  rw [← Bool.not_eq_true, hasR_iff]
  exact ⟨fun ⟨a, b⟩ => ⟨a, fun h => b _ h rfl⟩, fun ⟨a, b⟩ => ⟨a, fun x hx e => b (e ▸ hx)⟩⟩
theorem kinds_no {rs : List Ru} {i : Nat} (h : i < rs.length) (hh : hasR (rs.take i) rs[i].kind = true) : ¬ (rs.map (·.kind)).Nodup := fun hd => by
  have h3 : ((rs.take (i + 1)).map (·.kind)).Nodup := hd.sublist ((List.take_sublist _ _).map _)
  rw [(kinds_take h).1 h3 |>.2] at hh; cases hh
theorem all_take {α : Type} {p : α → Bool} {s : List α} {i : Nat} (h : i < s.length) : (s.take (i + 1)).all p = ((s.take i).all p && p s[i]) := by
  rw [List.take_succ_eq_append_getElem h, List.all_append]; simp
theorem all_no {α : Type} {p : α → Bool} {s : List α} {i : Nat} (h : i < s.length) (hp : p s[i] = false) : s.all p = false := by
  rw [List.all_eq_false]; exact ⟨s[i], List.getElem_mem _, by simp [hp]⟩

/- spec's. -/
set_option maxHeartbeats 4000000 in
theorem l3Rule_pure (s : Sc) (k : List UInt8) (hn : s.rules.length ≤ 1048576) : Pure Tryd.prog 49 [.agg s.cells, .str k] (· = .int .i64 (idxR k s.rules 0)) := by
  have hd : idxR k s.rules 0 = idxR k (s.rules.drop 0) ((0 : Nat) : Int) := rfl
  generalize idxR k s.rules 0 = res at *
  obtain ⟨root, rules⟩ := s
  simp only [Sc.cells] at hn hd ⊢
  have hlr := rws_len Ru.cells rules
  have hgr := rws_get Ru.cells rules
  generalize rws Ru.cells rules = rows at *
  refine pure_of_awp good Tryd.func49 rfl (by kernel_rfl) (by decide) ?_
  conv => whnf
  refine loop_intro (fun n fr st => st = [⟨[[.str root, .sl rows]], 2, true, true, true, .cell⟩] ∧ ∃ i : Nat, n + i = rules.length ∧ res = idxR k (rules.drop i) i ∧ Holds fr [(1, .str k), (2, .ptr 0 0 0), (5, .int .i64 i)]) rules.length ⟨rfl, 0, rfl, hd, rfl, rfl, rfl, trivial⟩ ?_
  rintro n fr st ⟨rfl, i, hi, hr, hh⟩
  obtain ⟨fr, rfl⟩ := hh.split
  clear hh
  conv => whnf
  by_cases hlt : i < rules.length
  · rw [hlr, ltB_t (by omega)]
    conv => whnf
    have hg := hgr i hlt
    have hs := idxR_drop k rules i hlt i
    generalize rules[i] = x at *
    obtain ⟨kind, text, kids⟩ := x
    simp only [Ru.cells] at hg hs
    refine ⟨by omega, rows, _, 3, rfl, hg, rfl, rfl, ?_⟩
    conv => whnf
    by_cases hk : kind = k
    · rw [eqS_t hk]
      conv => whnf
      rw [hr, hs, if_pos hk]
    · rw [eqS_f hk]
      conv => whnf
      refine ⟨n - 1, by omega, rfl, i + 1, by omega, ?_, rfl, rfl, ?_, trivial⟩
      · rw [hr, hs, if_neg hk]; rfl
      · show V.int .i64 (IntKind.i64.wrap (i + 1)) = _
        rw [wrap64 (by omega) (by omega)]; simp
  · rw [hlr, ltB_f (by omega)]
    conv => whnf
    rw [hr, List.drop_of_length_le (by omega)]
    rfl
end Go.Cod

set_option linter.all false
namespace Go.Cod
variable [Adr]
open Go Go.Proofs
set_option maxRecDepth 10000

theorem itemB_def (rs : List Ru) (x : It) : itemB rs x = (hasR rs x.kind && !(x.many && x.may)) := rfl
theorem okS_def (s : Sc) : okS s = (decide (s.rules.length ≤ 6) && hasR s.rules s.root && s.rules.all (ruleB s.rules) && decide ((s.rules.map (·.kind)).Nodup)) := rfl
set_option maxHeartbeats 8000000 in
theorem specSchemaOk_pure (s : Sc) (hs : s.Sm) : Pure Tryd.prog 18 [.agg s.cells] (· = .bool (okS s)) := by
  have f1 := fun k => l3Rule_pure s k hs.2.1
  have hO := okS_def s
  generalize okS s = res at *
  obtain ⟨root, rules⟩ := s
  obtain ⟨_, hn, hx⟩ := hs
  simp only [Sc.cells] at f1 hn hx hO ⊢
  have hlr := rws_len Ru.cells rules
  have hgr := rws_get Ru.cells rules
  have hneg := fun k => idxR_neg k rules
  have hfst := idxR_first rules
  have hkt := fun i (h : i < rules.length) => kinds_take h
  have hkn := fun i (h : i < rules.length) => kinds_no h
  generalize rws Ru.cells rules = rows at *
  refine pure_of_awp good Tryd.func18 rfl (by kernel_rfl) (by decide) ?_
  conv => whnf
  refine .inl ((l1In_pure _ _ _).mono ?_)
  rintro r rfl
  rw [hlr]
  by_cases hA : 1 ≤ (rules.length : Int) ∧ (rules.length : Int) ≤ 6
  case neg =>
    rw [decide_eq_false hA]
    conv => whnf
    rw [hO]
    by_cases h6 : rules.length ≤ 6
    · have : rules = [] := List.length_eq_zero_iff.1 (by omega)
      subst this
      rfl
    · rw [decide_eq_false h6]; rfl
  rw [decide_eq_true hA]
  conv => whnf
  refine .inl ((f1 root).mono ?_)
  rintro r rfl
  by_cases hB : idxR root rules 0 < 0
  · have hb := (hneg root).1 hB
    generalize idxR root rules 0 = v at *
    conv => whnf
    rw [ltB_t hB]
    conv => whnf
    rw [hO, hb]; simp
  have hb : hasR rules root = true := by
    cases h : hasR rules root with
    | true => rfl
    | false => exact absurd ((hneg root).2 h) hB
  generalize idxR root rules 0 = v at *
  conv => whnf
  rw [ltB_f (by omega)]
  rw [hb, decide_eq_true (show rules.length ≤ 6 by omega), Bool.true_and, Bool.true_and] at hO
  conv => whnf
  refine loop_drop (fun n fr st => ∃ i : Nat, n + i = rules.length ∧ (rules.take i).all (ruleB rules) = true ∧ ((rules.take i).map (·.kind)).Nodup ∧ st = [⟨[[.str root, .sl rows]], 2, true, true, true, .cell⟩] ∧ Holds fr [(1, .ptr 0 0 0), (3, .int .i64 i)]) rules.length none ⟨0, rfl, rfl, by simp, rfl, rfl, rfl, trivial⟩ ?_
  rintro n fr st ⟨i, hi, hal, hnd, rfl, hh⟩
  obtain ⟨fr, rfl⟩ := hh.split
  clear hh
  conv => whnf
  by_cases hlt : i < rules.length
  · rw [hlr, ltB_t (by omega)]
    conv => whnf
    have hg := hgr i hlt
    have hxi := hx rules[i] (List.getElem_mem _)
    have hat := all_take (p := ruleB rules) hlt
    have hano := all_no (p := ruleB rules) hlt
    have hf := hfst i hlt
    have hk1 := hkt i hlt
    have hk2 := hkn i hlt
    have hrd : ruleB rules rules[i] = (nameL rules[i].kind && decide (rules[i].kind ≠ textW) && decide (rules[i].kids.length ≤ 4) && rules[i].kids.all (itemB rules)) := rfl
    generalize rules[i] = x at *
    obtain ⟨kind, text, kids⟩ := x
    obtain ⟨g1, g2, g3⟩ := hxi
    simp only [Ru.cells] at hg hat hano hf hk1 hk2 hrd g1 g2 g3
    have hlk := rws_len It.cells kids
    have hgk := rws_get It.cells kids
    generalize rws It.cells kids = krows at *
    refine ⟨by omega, rows, _, 3, rfl, hg, rfl, rfl, ?_⟩
    conv => whnf
    refine .inl ((l2Name_pure kind (by omega)).mono ?_)
    rintro r rfl
    cases hN : nameL kind with
    | false =>
      conv => whnf
      rw [hO, hano (by rw [hrd, hN]; rfl)]; rfl
    | true =>
      conv => whnf
      by_cases hT : kind = [116, 101, 120, 116]
      · rw [eqS_t hT]
        conv => whnf
        rw [hO, hano (by rw [hrd, hN, decide_eq_false (by simp [textW, hT])]; rfl)]; rfl
      rw [eqS_f hT]
      rw [hN, decide_eq_true (show kind ≠ textW from hT), Bool.true_and, Bool.true_and] at hrd
      conv => whnf
      refine .inl ((f1 kind).mono ?_)
      rintro r rfl
      by_cases hF : idxR kind rules 0 = i
      case neg =>
        have hh : hasR (rules.take i) kind = true := by
          cases h : hasR (rules.take i) kind with
          | true => rfl
          | false => exact absurd (hf.2 h) hF
        generalize idxR kind rules 0 = v at *
        conv => whnf
        rw [eqB_f hF]
        conv => whnf
        rw [hO, decide_eq_false (hk2 hh)]; simp
      have hh := hf.1 hF
      generalize idxR kind rules 0 = v at *
      subst hF
      conv => whnf
      rw [eqB_refl]
      conv => whnf
      rw [hlk]
      by_cases hK : (kids.length : Int) ≤ 4
      case neg =>
        rw [ltB_t (by omega)]
        conv => whnf
        rw [hO, hano (by rw [hrd, decide_eq_false (by omega)]; rfl)]; rfl
      rw [ltB_f (by omega)]
      rw [decide_eq_true (show kids.length ≤ 4 by omega), Bool.true_and] at hrd
      conv => whnf
      refine loop_intro (fun n fr st => ∃ j : Nat, n + j = kids.length ∧ (kids.take j).all (itemB rules) = true ∧ st = [⟨[[.str root, .sl rows]], 2, true, true, true, .cell⟩, ⟨[[.str kind, .bool text, .sl krows]], 3, true, true, true, .cell⟩] ∧ Holds fr [(1, .ptr 0 0 0), (3, .int .i64 i), (4, .ptr 1 0 0), (5, .int .i64 j)]) kids.length ⟨0, rfl, rfl, rfl, rfl, rfl, rfl, rfl, trivial⟩ ?_
      rintro n2 fr st ⟨j, hj, hja, rfl, hh2⟩
      obtain ⟨fr, rfl⟩ := hh2.split
      clear hh2
      conv => whnf
      by_cases hjt : j < kids.length
      · rw [hlk, ltB_t (by omega)]
        conv => whnf
        have hgj := hgk j hjt
        have hjs := all_take (p := itemB rules) hjt
        have hjno := all_no (p := itemB rules) hjt
        have hjd := itemB_def rules kids[j]
        generalize kids[j] = y at *
        obtain ⟨yk, ym, yy⟩ := y
        simp only [It.cells] at hgj hjd
        repeat (first
          | (refine ⟨by omega, krows, _, 3, rfl, hgj, rfl, rfl, ?_⟩
             conv => whnf)
          | (refine ⟨_, .inl (f1 yk), ?_⟩
             conv => whnf))
        by_cases hY : idxR yk rules 0 < 0
        · have hy0 := (hneg yk).1 hY
          generalize idxR yk rules 0 = v at *
          rw [ltB_t hY]
          conv => whnf
          rw [hO, hano (by rw [hrd, hjno (by rw [hjd, hy0]; rfl)])]; rfl
        have hy1 : hasR rules yk = true := by
          cases h : hasR rules yk with
          | true => rfl
          | false => exact absurd ((hneg yk).2 h) hY
        generalize idxR yk rules 0 = v at *
        rw [ltB_f (by omega)]
        rw [hy1, Bool.true_and] at hjd
        conv => whnf
        refine ⟨by omega, krows, _, 3, rfl, hgj, rfl, rfl, ?_⟩
        cases ym with
        | false =>
          conv => whnf
          refine ⟨n2 - 1, by omega, j + 1, by omega, by rw [hjs, hja, hjd]; rfl, rfl, rfl, rfl, rfl, ?_, trivial⟩
          show V.int .i64 (IntKind.i64.wrap (j + 1)) = _
          rw [wrap64 (by omega) (by omega)]; simp
        | true =>
          conv => whnf
          refine ⟨by omega, krows, _, 3, rfl, hgj, rfl, rfl, ?_⟩
          cases yy with
          | true =>
            conv => whnf
            rw [hO, hano (by rw [hrd, hjno (by rw [hjd]; rfl)])]; rfl
          | false =>
            conv => whnf
            refine ⟨n2 - 1, by omega, j + 1, by omega, by rw [hjs, hja, hjd]; rfl, rfl, rfl, rfl, rfl, ?_, trivial⟩
            show V.int .i64 (IntKind.i64.wrap (j + 1)) = _
            rw [wrap64 (by omega) (by omega)]; simp
      · rw [hlk, ltB_f (by omega)]
        conv => whnf
        rw [List.take_of_length_le (by omega)] at hja
        rw [hja] at hrd
        refine ⟨n - 1, by omega, some [0], i + 1, by omega, ?_, hk1.2 ⟨hnd, hh⟩, rfl, rfl, ?_, trivial⟩
        · rw [hat, hal, hrd]; rfl
        · show V.int .i64 (IntKind.i64.wrap (i + 1)) = _
          rw [wrap64 (by omega) (by omega)]; simp
  · rw [hlr, ltB_f (by omega)]
    conv => whnf
    rw [List.take_of_length_le (by omega)] at hal hnd
    rw [hO, hal, decide_eq_true hnd]; rfl
end Go.Cod

set_option linter.all false
namespace Go.Cod
variable [Adr]
open Go Go.Proofs
set_option maxRecDepth 10000

/- impl's. -/
def noRule : List V := [.str [], .bool false, .sl []]
/-- The rule of a kind: the first one; none: an error. -/
def ruleOf (rs : List Ru) (k : List UInt8) : List V := match rs.find? fun r => decide (r.kind = k) with
  | some r => r.cells
  | none => noRule
def ruleErr (rs : List Ru) (k : List UInt8) : V := if hasR rs k = true then nilErr else errV 0
theorem find_drop (rs : List Ru) (k : List UInt8) (i : Nat) (h : i < rs.length) : ruleOf (rs.drop i) k = if rs[i].kind = k then rs[i].cells else ruleOf (rs.drop (i + 1)) k := by
  rw [List.drop_eq_getElem_cons h]
  unfold ruleOf
  by_cases hk : rs[i].kind = k
  · simp [List.find?, hk]
  · simp [List.find?, hk]
theorem hasR_drop (rs : List Ru) (k : List UInt8) (i : Nat) (h : i < rs.length) : hasR (rs.drop i) k = (decide (rs[i].kind = k) || hasR (rs.drop (i + 1)) k) := by
  rw [List.drop_eq_getElem_cons h]; rfl
set_option maxHeartbeats 4000000 in
theorem schemaRule_pure (rs : List Ru) (k : List UInt8) (hn : rs.length ≤ 1048576) : Pure Tryd.prog 53 [.sl (rws Ru.cells rs), .str k] (· = .tup [.agg (ruleOf rs k), ruleErr rs k]) := by
  have hlr := rws_len Ru.cells rs
  have hgr := rws_get Ru.cells rs
  have hd : ruleOf rs k = ruleOf (rs.drop 0) k := rfl
  have hd2 : hasR rs k = hasR (rs.drop 0) k := rfl
  have he : ruleErr rs k = if hasR rs k = true then nilErr else errV 0 := rfl
  generalize ruleErr rs k = er at *
  generalize ruleOf rs k = res at *
  generalize hasR rs k = hb at *
  generalize rws Ru.cells rs = rows at *
  refine pure_of_awp good Tryd.func53 rfl (by kernel_rfl) (by decide) ?_
  conv => whnf
  refine loop_drop (fun n fr st => ∃ i : Nat, n + i = rs.length ∧ res = ruleOf (rs.drop i) k ∧ hb = hasR (rs.drop i) k ∧ st = [⟨[[.str [], .bool false, .nils]], 3, true, true, true, .cell⟩] ∧ Holds fr [(1, .str k), (4, .ptr 0 0 0), (5, nilErr), (8, .sl rows), (9, .int .i64 rs.length), (10, .int .i64 i)]) rs.length none ⟨0, rfl, hd, hd2, rfl, rfl, rfl, rfl, rfl, by rw [← hlr]; rfl, rfl, trivial⟩ ?_
  rintro n fr st ⟨i, hi, hr, hr2, rfl, hh⟩
  obtain ⟨fr, rfl⟩ := hh.split
  clear hh
  conv => whnf
  by_cases hlt : i < rs.length
  · rw [ltB_t (by omega)]
    conv => whnf
    have hg := hgr i hlt
    have hs := find_drop rs k i hlt
    have hs2 := hasR_drop rs k i hlt
    generalize rs[i] = x at *
    obtain ⟨kind, text, kids⟩ := x
    simp only [Ru.cells] at hg hs hs2
    refine ⟨by omega, rows, _, 3, rfl, hg, rfl, rfl, ?_⟩
    conv => whnf
    by_cases hk : kind = k
    · rw [eqS_t hk]
      conv => whnf
      rw [hr, hs, if_pos hk]
      rw [hr2, hs2, decide_eq_true hk] at he
      rw [he]; rfl
    · rw [eqS_f hk]
      conv => whnf
      refine ⟨n - 1, by omega, some [0], i + 1, by omega, ?_, ?_, rfl, rfl, rfl, rfl, rfl, rfl, ?_, trivial⟩
      · rw [hr, hs, if_neg hk]
      · rw [hr2, hs2, decide_eq_false hk]; rfl
      · show V.int .i64 (IntKind.i64.wrap (i + 1)) = _
        rw [wrap64 (by omega) (by omega)]; simp
  · rw [ltB_f (by omega)]
    rw [List.drop_of_length_le (by omega)] at hr hr2
    rw [hr2] at he
    have hr : res = noRule := hr
    have he : er = errV 0 := he
    conv => whnf
    refine And.intro (by (conv => whnf); first | done | rfl) ?_
    conv => whnf
    rw [hr, he]; rfl
end Go.Cod

set_option linter.all false
namespace Go.Cod
variable [Adr]
open Go Go.Proofs
set_option maxRecDepth 10000

theorem ruleOf_cells (rs : List Ru) (k : List UInt8) : ∃ r : Ru, ruleOf rs k = r.cells := by
  unfold ruleOf
  split
  · exact ⟨_, rfl⟩
  · exact ⟨⟨[], false, []⟩, rfl⟩
theorem schemaHas_pure (rs : List Ru) (k : List UInt8) (hn : rs.length ≤ 1048576) : Pure Tryd.prog 87 [.sl (rws Ru.cells rs), .str k] (· = .bool (hasR rs k)) := by
  have f1 := schemaRule_pure rs k hn
  have he : ruleErr rs k = if hasR rs k = true then nilErr else errV 0 := rfl
  obtain ⟨r0, hr0⟩ := ruleOf_cells rs k
  rw [hr0] at f1
  generalize ruleErr rs k = er at *
  generalize hasR rs k = hb at *
  generalize rws Ru.cells rs = rows at *
  obtain ⟨a, b, c⟩ := r0
  simp only [Ru.cells] at f1
  refine pure_of_awp good Tryd.func87 rfl (by kernel_rfl) (by decide) ?_
  conv => whnf
  refine .inl (f1.mono ?_)
  rintro r rfl
  cases hb with
  | true =>
    rw [he]
    conv => whnf
    refine .inl ((errorsIs_nil 0).mono ?_)
    rintro r rfl
    conv => whnf
    rfl
  | false =>
    rw [he]
    conv => whnf
    refine .inl ((errorsIs_same 0).mono ?_)
    rintro r rfl
    conv => whnf
    rfl
/-- An error or none. -/
def isErr (x : V) : Prop := ∃ a : Addr, x = .raw (.iface 169 (.pointer (some a)))
def faultIs (b : Bool) (x : V) : Prop := match b with
  | true => x = nilErr
  | false => isErr x
set_option maxHeartbeats 8000000 in
theorem itemsFault_pure (s : Sc) (hs : s.Sm) (xs : List It) (hx : xs.length ≤ 1048576) : Pure Tryd.prog 88 [.agg s.cells, .sl (rws It.cells xs)] (faultIs (decide (xs.length ≤ 4) && xs.all (itemB s.rules))) := by
  have f1 := fun k => schemaHas_pure s.rules k hs.2.1
  have hd : ∀ x : It, itemB s.rules x = (hasR s.rules x.kind && !(x.many && x.may)) := fun x => rfl
  obtain ⟨root, rules⟩ := s
  simp only [Sc.cells] at f1 hd ⊢
  generalize rws Ru.cells rules = rrows at *
  generalize itemB rules = p at *
  have hF : faultIs (decide (xs.length ≤ 4) && xs.all p) = fun x => faultIs (decide (xs.length ≤ 4) && xs.all p) x := rfl
  generalize hres : (decide (xs.length ≤ 4) && xs.all p) = res at *
  have hlr := rws_len It.cells xs
  have hgr := rws_get It.cells xs
  generalize rws It.cells xs = rows at *
  refine pure_of_awp good Tryd.func88 rfl (by kernel_rfl) (by decide) ?_
  conv => whnf
  rw [hlr]
  by_cases a1 : (4 : Int) < (xs.length : Int)
  · rw [ltB_t a1]
    rw [decide_eq_false (by omega), Bool.false_and] at hres
    subst hres
    conv => whnf
    exact ⟨_, rfl⟩
  rw [ltB_f (by omega)]
  rw [decide_eq_true (by omega), Bool.true_and] at hres
  conv => whnf
  refine loop_drop (fun n fr st => ∃ i : Nat, n + i = xs.length ∧ (xs.take i).all p = true ∧ st = [⟨[[.str root, .sl rrows]], 2, true, true, true, .cell⟩] ∧ Holds fr [(2, .ptr 0 0 0), (11, .sl rows), (12, .int .i64 xs.length), (13, .int .i64 i)]) xs.length none ⟨0, rfl, rfl, rfl, rfl, rfl, by rw [← hlr]; rfl, rfl, trivial⟩ ?_
  rintro n fr st ⟨i, hi, hal, rfl, hh⟩
  obtain ⟨fr, rfl⟩ := hh.split
  clear hh
  conv => whnf
  by_cases hlt : i < xs.length
  · rw [ltB_t (by omega)]
    conv => whnf
    have hg := hgr i hlt
    have hat := all_take (p := p) hlt
    have hano := all_no (p := p) hlt
    have hx := hd xs[i]
    generalize xs[i] = y at *
    obtain ⟨yk, ym, yy⟩ := y
    simp only [It.cells] at hg hx
    refine ⟨by omega, rows, _, 3, rfl, hg, rfl, rfl, ?_⟩
    have h2 : ∀ b c, (b && c) = true ∨ (b && c) = false := fun b c => by cases b <;> cases c <;> simp
    have key : (∀ fr0 : Nat → V, True) := fun _ => trivial
    cases ym <;> cases yy
    case true.true =>
      conv => whnf
      rw [← hres, hano (by rw [hx]; cases hasR rules yk <;> rfl)]
      exact ⟨_, rfl⟩
    all_goals
      conv => whnf
      refine .inl ((f1 yk).mono ?_)
      rintro r rfl
      generalize hasR rules yk = hb at *
      cases hb with
      | false =>
        conv => whnf
        rw [← hres, hano (by rw [hx]; rfl)]
        exact ⟨_, rfl⟩
      | true =>
        conv => whnf
        refine ⟨n - 1, by omega, some [0], i + 1, by omega, by rw [hat, hal, hx]; rfl, rfl, rfl, rfl, rfl, ?_, trivial⟩
        show V.int .i64 (IntKind.i64.wrap (i + 1)) = _
        rw [wrap64 (by omega) (by omega)]; simp
  · rw [ltB_f (by omega)]
    rw [List.take_of_length_le (by omega)] at hal
    rw [hal] at hres
    subst hres
    conv => whnf
set_option maxHeartbeats 8000000 in
theorem schemaFault_pure (s : Sc) (hs : s.Sm) : Pure Tryd.prog 64 [.agg s.cells] (faultIs (okS s)) := by
  have f1 := fun k => schemaHas_pure s.rules k hs.2.1
  have f1t := fun i k => schemaHas_pure (s.rules.take i) k (by rw [List.length_take]; have := hs.2.1; omega)
  have f2 := itemsFault_pure s hs
  have hO := okS_def s
  generalize okS s = res at *
  obtain ⟨root, rules⟩ := s
  obtain ⟨_, hn, hx⟩ := hs
  simp only [Sc.cells] at f1 f1t f2 hn hx hO ⊢
  have hlr := rws_len Ru.cells rules
  have hgr := rws_get Ru.cells rules
  have htk := rws_take Ru.cells rules
  have hwid := rws_wid Ru.cells Ru.len rules
  have hkt := fun i (h : i < rules.length) => kinds_take h
  have hkn := fun i (h : i < rules.length) => kinds_no h
  simp only [← htk] at f1t
  generalize rws Ru.cells rules = rows at *
  refine pure_of_awp good Tryd.func64 rfl (by kernel_rfl) (by decide) ?_
  conv => whnf
  rw [hlr]
  by_cases a1 : (6 : Int) < (rules.length : Int)
  · rw [ltB_t a1]
    rw [decide_eq_false (by omega)] at hO
    conv => whnf
    rw [hO]
    exact ⟨_, rfl⟩
  rw [ltB_f (by omega)]
  rw [decide_eq_true (by omega), Bool.true_and] at hO
  conv => whnf
  refine loop_drop (fun n fr st => ∃ i : Nat, n + i = rules.length ∧ (rules.take i).all (ruleB rules) = true ∧ ((rules.take i).map (·.kind)).Nodup ∧ st = [⟨[[.str root, .sl rows]], 2, true, true, true, .cell⟩] ∧ Holds fr [(1, .ptr 0 0 0), (12, .sl rows), (13, .int .i64 rules.length), (14, .int .i64 i)]) rules.length none ⟨0, rfl, rfl, by simp, rfl, rfl, rfl, by rw [← hlr]; rfl, rfl, trivial⟩ ?_
  rintro n fr st ⟨i, hi, hal, hnd, rfl, hh⟩
  obtain ⟨fr, rfl⟩ := hh.split
  clear hh
  conv => whnf
  by_cases hlt : i < rules.length
  · rw [ltB_t (by omega)]
    conv => whnf
    have hg := hgr i hlt
    have hxi := hx rules[i] (List.getElem_mem _)
    have hat := all_take (p := ruleB rules) hlt
    have hano := all_no (p := ruleB rules) hlt
    have hk1 := hkt i hlt
    have hk2 := hkn i hlt
    have hrd : ruleB rules rules[i] = (nameL rules[i].kind && decide (rules[i].kind ≠ textW) && decide (rules[i].kids.length ≤ 4) && rules[i].kids.all (itemB rules)) := rfl
    generalize rules[i] = x at *
    obtain ⟨kind, text, kids⟩ := x
    obtain ⟨g1, g2, g3⟩ := hxi
    simp only [Ru.cells] at hg hat hano hk1 hk2 hrd g1 g2 g3
    have f2 := f2 kids (by omega)
    have f4 := f1t i kind
    generalize rws It.cells kids = krows at *
    refine ⟨by omega, rows, _, 3, rfl, hg, rfl, rfl, ?_⟩
    conv => whnf
    refine ⟨_, .inl (nameOk_pure kind (by omega)), ?_⟩
    cases hN : nameL kind with
    | false =>
      conv => whnf
      rw [hO, hano (by rw [hrd, hN]; rfl), Bool.and_false, Bool.false_and]
      exact ⟨_, rfl⟩
    | true =>
      conv => whnf
      by_cases hT : kind = [116, 101, 120, 116]
      · rw [eqS_t hT]
        conv => whnf
        rw [hO, hano (by rw [hrd, hN, decide_eq_false (by simp [textW, hT])]; rfl), Bool.and_false, Bool.false_and]
        exact ⟨_, rfl⟩
      rw [eqS_f hT]
      rw [hN, decide_eq_true (show kind ≠ textW from hT), Bool.true_and, Bool.true_and] at hrd
      conv => whnf
      refine ⟨hwid, ?_⟩
      conv => whnf
      refine ⟨by omega, by omega, ?_⟩
      conv => whnf
      refine ⟨rfl, ?_⟩
      conv => whnf
      refine ⟨_, .inl f4, ?_⟩
      generalize hasR (rules.take i) kind = hb at *
      cases hb with
      | true =>
        conv => whnf
        rw [hO, decide_eq_false (hk2 rfl), Bool.and_false]
        exact ⟨_, rfl⟩
      | false =>
        conv => whnf
        refine .inl (f2.mono ?_)
        intro r hr
        generalize hbb : (decide (kids.length ≤ 4) && kids.all (itemB rules)) = bb at *
        cases bb with
        | true =>
          obtain rfl : r = nilErr := hr
          conv => whnf
          refine ⟨n - 1, by omega, some [0], i + 1, by omega, by rw [hat, hal, hrd]; rfl, hk1.2 ⟨hnd, rfl⟩, rfl, rfl, rfl, rfl, ?_, trivial⟩
          show V.int .i64 (IntKind.i64.wrap (i + 1)) = _
          rw [wrap64 (by omega) (by omega)]; simp
        | false =>
          obtain ⟨a, rfl⟩ : isErr r := hr
          conv => whnf
          rw [hO, hano (by rw [hrd]), Bool.and_false, Bool.false_and]
          exact ⟨_, rfl⟩
  · rw [ltB_f (by omega)]
    rw [List.take_of_length_le (by omega)] at hal hnd
    rw [hal, decide_eq_true hnd, Bool.and_true, Bool.and_true] at hO
    have f1 := f1 root
    generalize hasR rules root = hb at *
    subst hO
    conv => whnf
    refine .inl (f1.mono ?_)
    rintro r rfl
    cases res with
    | false =>
      conv => whnf
      exact ⟨_, rfl⟩
    | true =>
      conv => whnf
theorem implSchemaOk_pure (s : Sc) (hs : s.Sm) : Pure Tryd.prog 31 [.agg s.cells] (· = .bool (okS s)) := by
  have f1 := schemaFault_pure s hs
  generalize okS s = res at *
  obtain ⟨root, rules⟩ := s
  simp only [Sc.cells] at f1 ⊢
  generalize rws Ru.cells rules = rows at *
  refine pure_of_awp good Tryd.func31 rfl (by kernel_rfl) (by decide) ?_
  conv => whnf
  refine .inl (f1.mono ?_)
  intro r hr
  cases res with
  | true =>
    obtain rfl : r = nilErr := hr
    conv => whnf
  | false =>
    obtain ⟨a, rfl⟩ : isErr r := hr
    conv => whnf
end Go.Cod

set_option linter.all false
namespace Go.Cod
variable [Adr]
open Go Go.Proofs
set_option maxRecDepth 10000

/- Kinds against items. -/
abbrev Ks := List (List UInt8)
def takesB (k : List UInt8) (ks : Ks) : Bool := match ks with
  | [] => false
  | y :: _ => decide (y = k)
def manyP (k : List UInt8) (p : Ks → Bool) : Ks → Bool
  | [] => p []
  | y :: ys => p (y :: ys) || (decide (y = k) && manyP k p ys)
def itemP (x : It) (p : Ks → Bool) (ks : Ks) : Bool := match x.many with
  | true => manyP x.kind p ks
  | false => match x.may with
    | true => p ks || (takesB x.kind ks && p ks.tail)
    | false => takesB x.kind ks && p ks.tail
def matchP : List It → Ks → Bool
  | [] => fun ks => decide (ks.length = 0)
  | x :: xs => itemP x (matchP xs)
theorem rws_tail {α : Type} (c : α → List V) (ys : List α) : ((rws c ys).take (rws c ys).length).drop 1 = rws c ys.tail := by
  rw [List.take_of_length_le (Nat.le_refl _)]
  cases ys <;> rfl
theorem match_cons (x : It) (xs : List It) (ks : Ks) : matchP (x :: xs) ks = (((x.many || x.may) && matchP xs ks) || (takesB x.kind ks && (if x.many = true then matchP (x :: xs) ks.tail else matchP xs ks.tail))) := by
  obtain ⟨kind, many, may⟩ := x
  show itemP _ _ _ = _
  cases many with
  | true =>
    show manyP kind (matchP xs) ks = _
    cases ks with
    | nil => simp [manyP, takesB]
    | cons y ys => simp [manyP, takesB, matchP, itemP]
  | false => cases may <;> simp [itemP]
set_option maxHeartbeats 8000000 in
theorem l3Match_pure : ∀ (n : Nat) (xs : List It) (ks : Ks), xs.length + ks.length < n → Pure Tryd.prog 57 [.sl (rws It.cells xs), .sl (rws sCells ks)] (· = .bool (matchP xs ks))
  | 0, _, _, h => by omega
  | n + 1, [], ks, h => by
    have hlk := rws_len sCells ks
    have hM : matchP [] ks = decide (ks.length = 0) := rfl
    generalize matchP [] ks = res at *
    generalize rws sCells ks = krows at *
    refine pure_of_awp good Tryd.func57 rfl (by kernel_rfl) (by decide) ?_
    conv => whnf
    rw [eqB_t (show (((rws It.cells []).length : Nat) : Int) = 0 from rfl)]
    conv => whnf
    rw [hlk, hM, eqB_def]
    congr 1
    exact decide_eq_decide.2 (by omega)
  | n + 1, x :: xs, ks, h => by
    have i1 := l3Match_pure n xs ks (by simp at h; omega)
    have i2 := fun (_ : 0 < ks.length) => l3Match_pure n (x :: xs) ks.tail (by simp at h ⊢; omega)
    have i3 := l3Match_pure n xs ks.tail (by simp at h ⊢; omega)
    have hM := match_cons x xs ks
    have hlx : (rws It.cells (x :: xs)).length = xs.length + 1 := by rw [rws_len]; rfl
    have hg : (rws It.cells (x :: xs))[0]? = some x.cells := rfl
    have ht : ((rws It.cells (x :: xs)).take (rws It.cells (x :: xs)).length).drop 1 = rws It.cells xs := rws_tail It.cells (x :: xs)
    have hw := rws_wid It.cells It.len (x :: xs)
    have hwk := rws_wid sCells (k := 1) (fun _ => rfl) ks
    rw [← ht] at i1 i3
    have htk := rws_tail sCells ks
    rw [← htk] at i2 i3
    have hlk := rws_len sCells ks
    have hgk := rws_get sCells ks
    generalize matchP (x :: xs) ks.tail = q at *
    generalize matchP (x :: xs) ks = res at *
    generalize matchP xs ks.tail = pt at *
    generalize matchP xs ks = p at *
    generalize rws It.cells (x :: xs) = rows at *
    generalize rws sCells ks = krows at *
    obtain ⟨kind, many, may⟩ := x
    simp only [It.cells] at hg hM
    refine pure_of_awp good Tryd.func57 rfl (by kernel_rfl) (by decide) ?_
    conv => whnf
    rw [hlx, eqB_f (by omega)]
    conv => whnf
    refine ⟨by omega, rows, _, 3, rfl, hg, rfl, rfl, ?_⟩
    cases many with
    | false =>
      cases may with
      | false =>
        conv => whnf
        cases ks with
        | nil =>
          rw [hlk, eqB_t (show (([] : Ks).length : Int) = 0 from rfl)]
          conv => whnf
          rw [hM]; rfl
        | cons y ys =>
          have hgy := hgk 0 (by simp)
          simp only [List.getElem_cons_zero] at hgy
          rw [hlk, eqB_f (by simp; omega)]
          conv => whnf
          refine ⟨by omega, krows, _, 1, rfl, hgy, rfl, rfl, ?_⟩
          conv => whnf
          have hl0 : 0 < (y :: ys).length := by simp
          by_cases hy : y = kind
          · rw [eqS_t hy]
            have hM : res = pt := by rw [hM]; simp [takesB, hy]
            conv => whnf
            refine ⟨hw, ?_⟩
            conv => whnf
            refine ⟨by omega, by omega, rfl, ?_⟩
            conv => whnf
            refine ⟨hwk, ?_⟩
            conv => whnf
            refine ⟨by omega, by omega, rfl, ?_⟩
            conv => whnf
            refine ⟨_, .inl i3, ?_⟩
            conv => whnf
            rw [hM]
          · rw [eqS_f hy]
            conv => whnf
            rw [hM]; simp [takesB, hy]
      | true =>
        conv => whnf
        refine ⟨hw, ?_⟩
        conv => whnf
        refine ⟨by omega, by omega, ?_⟩
        conv => whnf
        refine .inl (i1.mono ?_)
        rintro r rfl
        cases p with
        | true =>
          conv => whnf
          rw [hM]; rfl
        | false =>
          conv => whnf
          cases ks with
          | nil =>
            rw [hlk, eqB_t (show (([] : Ks).length : Int) = 0 from rfl)]
            conv => whnf
            rw [hM]; rfl
          | cons y ys =>
            have hgy := hgk 0 (by simp)
            simp only [List.getElem_cons_zero] at hgy
            rw [hlk, eqB_f (by simp; omega)]
            conv => whnf
            refine ⟨by omega, krows, _, 1, rfl, hgy, rfl, rfl, ?_⟩
            conv => whnf
            have hl0 : 0 < (y :: ys).length := by simp
            by_cases hy : y = kind
            · rw [eqS_t hy]
              have hM : res = pt := by rw [hM]; simp [takesB, hy]
              conv => whnf
              refine ⟨hw, ?_⟩
              conv => whnf
              refine ⟨by omega, by omega, rfl, ?_⟩
              conv => whnf
              refine ⟨hwk, ?_⟩
              conv => whnf
              refine ⟨by omega, by omega, rfl, ?_⟩
              conv => whnf
              refine ⟨_, .inl i3, ?_⟩
              conv => whnf
              rw [hM]
            · rw [eqS_f hy]
              conv => whnf
              rw [hM]; simp [takesB, hy]
    | true =>
      cases may with
      | false =>
        conv => whnf
        refine ⟨hw, ?_⟩
        conv => whnf
        refine ⟨by omega, by omega, ?_⟩
        conv => whnf
        refine .inl (i1.mono ?_)
        rintro r rfl
        cases p with
        | true =>
          conv => whnf
          rw [hM]; rfl
        | false =>
          conv => whnf
          cases ks with
          | nil =>
            rw [hlk, eqB_t (show (([] : Ks).length : Int) = 0 from rfl)]
            conv => whnf
            rw [hM]; rfl
          | cons y ys =>
            have hgy := hgk 0 (by simp)
            simp only [List.getElem_cons_zero] at hgy
            rw [hlk, eqB_f (by simp; omega)]
            conv => whnf
            refine ⟨by omega, krows, _, 1, rfl, hgy, rfl, rfl, ?_⟩
            conv => whnf
            have hl0 : 0 < (y :: ys).length := by simp
            by_cases hy : y = kind
            · rw [eqS_t hy]
              have hM : res = q := by rw [hM]; simp [takesB, hy]
              conv => whnf
              refine ⟨hwk, ?_⟩
              conv => whnf
              refine ⟨by omega, by omega, ?_⟩
              conv => whnf
              refine .inl ((i2 hl0).mono ?_)
              rintro r rfl
              conv => whnf
              rw [hM]
            · rw [eqS_f hy]
              conv => whnf
              rw [hM]; simp [takesB, hy]
      | true =>
        conv => whnf
        refine ⟨hw, ?_⟩
        conv => whnf
        refine ⟨by omega, by omega, ?_⟩
        conv => whnf
        refine .inl (i1.mono ?_)
        rintro r rfl
        cases p with
        | true =>
          conv => whnf
          rw [hM]; rfl
        | false =>
          conv => whnf
          cases ks with
          | nil =>
            rw [hlk, eqB_t (show (([] : Ks).length : Int) = 0 from rfl)]
            conv => whnf
            rw [hM]; rfl
          | cons y ys =>
            have hgy := hgk 0 (by simp)
            simp only [List.getElem_cons_zero] at hgy
            rw [hlk, eqB_f (by simp; omega)]
            conv => whnf
            refine ⟨by omega, krows, _, 1, rfl, hgy, rfl, rfl, ?_⟩
            conv => whnf
            have hl0 : 0 < (y :: ys).length := by simp
            by_cases hy : y = kind
            · rw [eqS_t hy]
              have hM : res = q := by rw [hM]; simp [takesB, hy]
              conv => whnf
              refine ⟨hwk, ?_⟩
              conv => whnf
              refine ⟨by omega, by omega, ?_⟩
              conv => whnf
              refine .inl ((i2 hl0).mono ?_)
              rintro r rfl
              conv => whnf
              rw [hM]
            · rw [eqS_f hy]
              conv => whnf
              rw [hM]; simp [takesB, hy]
end Go.Cod

set_option linter.all false
namespace Go.Cod
variable [Adr]
open Go Go.Proofs
set_option maxRecDepth 10000

/- impl's states. -/
/-- A function of kinds that answers p. -/
def capOk (cap : List V) : Prop := cap = [] ∨ ∃ a b, cap = [.rptr a, .rptr b] ∧ V.clean.cleanL 0 a = true ∧ V.clean.cleanL 0 b = true
def Good (v : V) (p : Ks → Bool) : Prop := ∃ (f : FuncId) (cap : List V), v = .fn f cap ∧ capOk cap ∧ ∀ ks : Ks, Pure Tryd.prog f (.sl (rws sCells ks) :: cap) (· = .bool (p ks))
theorem capOk.clean {cap : List V} (h : capOk cap) : V.clean.cleanL 0 cap = true := by
  rcases h with rfl | ⟨a, b, rfl, ha, hb⟩
  · rfl
  · simp only [V.clean.cleanL, V.clean, ha, hb, Bool.and_self]
theorem capOk.share {cap : List V} (h : capOk cap) (st : St) : share.go st cap = cap := by
  rcases h with rfl | ⟨a, b, rfl, ha, hb⟩ <;> rfl
theorem clean_cap {cap : List V} (h : capOk cap) (rows : List (List V)) : V.clean.cleanL 0 ([.sl rows] ++ cap) = true := by
  show (true && V.clean.cleanL 0 cap) = true
  rw [h.clean]; rfl
theorem share_cap {cap : List V} (h : capOk cap) (st : St) (rows : List (List V)) : share.go st ([.sl rows] ++ cap) = .sl rows :: cap := by
  show V.sl rows :: share.go st cap = _
  rw [h.share]
theorem machine1_pure (ks : Ks) : Pure Tryd.prog 97 [.sl (rws sCells ks)] (· = .bool (matchP [] ks)) := by
  have hlk := rws_len sCells ks
  have hM : matchP [] ks = decide (ks.length = 0) := rfl
  generalize matchP [] ks = res at *
  generalize rws sCells ks = krows at *
  refine pure_of_awp good Tryd.func97 rfl (by kernel_rfl) (by decide) ?_
  conv => whnf
  rw [hlk, hM, eqB_def]
  congr 1
  exact decide_eq_decide.2 (by omega)
theorem takes_pure (x : It) (ks : Ks) : Pure Tryd.prog 103 [.sl (rws sCells ks), .rptr x.cells] (· = .bool (takesB x.kind ks)) := by
  have hlk := rws_len sCells ks
  have hgk := rws_get sCells ks
  obtain ⟨kind, many, may⟩ := x
  simp only [It.cells]
  cases ks with
  | nil =>
    generalize rws sCells [] = krows at *
    refine pure_of_awp good Tryd.func103 rfl (by kernel_rfl) (by decide) ?_
    conv => whnf
    rw [hlk, ltB_f (by simp)]
    conv => whnf
    rfl
  | cons y ys =>
    have hgy := hgk 0 (by simp)
    simp only [List.getElem_cons_zero] at hgy
    generalize rws sCells (y :: ys) = krows at *
    refine pure_of_awp good Tryd.func103 rfl (by kernel_rfl) (by decide) ?_
    conv => whnf
    rw [hlk, ltB_t (by have : 0 < (y :: ys).length := (by simp); omega)]
    conv => whnf
    refine ⟨by omega, krows, _, 1, rfl, hgy, rfl, rfl, ?_⟩
    conv => whnf
    rw [eqS_def]
    rfl
theorem takes_pos {k : List UInt8} {ks : Ks} (h : takesB k ks = true) : 1 ≤ ks.length := by
  cases ks with
  | nil => cases h
  | cons y ys => simp
theorem manyP_step (k : List UInt8) (p : Ks → Bool) (ks : Ks) : manyP k p ks = (p ks || (takesB k ks && manyP k p ks.tail)) := by
  cases ks with
  | nil => simp [manyP, takesB]
  | cons y ys => rfl
set_option maxHeartbeats 4000000 in
theorem many_pure (x : It) (v : V) (p : Ks → Bool) (hv : Good v p) (ks : Ks) : Pure Tryd.prog 104 [.sl (rws sCells ks), .rptr [.fn 103 [.rptr x.cells]], .rptr [v]] (· = .bool (manyP x.kind p ks)) := by
  obtain ⟨f, cap, rfl, hcl, hp⟩ := hv
  have ht := takes_pure x
  have hs := manyP_step x.kind p
  have hpos := fun ks => takes_pos (k := x.kind) (ks := ks)
  obtain ⟨kind, many, may⟩ := x
  simp only [It.cells] at ht hs hpos ⊢
  refine pure_of_awp good Tryd.func104 rfl (by kernel_rfl) (by decide) ?_
  conv => whnf
  refine loop_intro (fun n fr st => st = [] ∧ ∃ js : Ks, js.length = n ∧ manyP kind p ks = manyP kind p js ∧ Holds fr [(0, .sl (rws sCells js)), (1, .rptr [.fn 103 [.rptr [.str kind, .bool many, .bool may]]]), (2, .rptr [.fn f cap])]) ks.length ⟨rfl, ks, rfl, rfl, rfl, rfl, rfl, trivial⟩ ?_
  rintro n fr st ⟨rfl, js, hj, hm, hh⟩
  obtain ⟨fr, rfl⟩ := hh.split
  clear hh
  have ht := ht js
  have hp0 := hp js
  have hs := hs js
  have hpos := hpos js
  have htl := rws_tail sCells js
  have hwk := rws_wid sCells (k := 1) (fun _ => rfl) js
  have hlj := rws_len sCells js
  generalize hjr : rws sCells js = jrows at *
  have hc := clean_cap hcl jrows
  have hp1 : Pure Tryd.prog f (share.go [] ([.sl jrows] ++ cap)) (· = .bool (p js)) := by rw [share_cap hcl]; exact hp0
  conv => whnf
  refine .inl (ht.mono ?_)
  rintro r rfl
  cases hT : takesB kind js with
  | false =>
    rw [hT, Bool.false_and, Bool.or_false] at hs
    conv => whnf
    refine match_true hc ?_
    refine .inl (hp1.mono ?_)
    rintro r rfl
    conv => whnf
    rw [hm, hs]
  | true =>
    rw [hT, Bool.true_and] at hs
    conv => whnf
    refine match_true hc ?_
    refine .inl (hp1.mono ?_)
    rintro r rfl
    cases hP : p js with
    | true =>
      rw [hP] at hs hp1
      conv => whnf
      refine match_true hc ?_
      refine .inl (hp1.mono ?_)
      rintro r rfl
      conv => whnf
      rw [hm, hs]; rfl
    | false =>
      rw [hP, Bool.false_or] at hs
      conv => whnf
      refine ⟨hwk, ?_⟩
      conv => whnf
      have := hpos hT
      refine ⟨by omega, by omega, ?_⟩
      conv => whnf
      refine ⟨n - 1, by omega, rfl, js.tail, by simp; omega, by rw [hm, hs], ?_, rfl, rfl, trivial⟩
      show V.sl _ = V.sl _
      rw [← htl]; rfl
set_option maxHeartbeats 4000000 in
theorem may_pure (x : It) (v : V) (p : Ks → Bool) (hv : Good v p) (ks : Ks) : Pure Tryd.prog 105 [.sl (rws sCells ks), .rptr [v], .rptr [.fn 103 [.rptr x.cells]]] (· = .bool (p ks || (takesB x.kind ks && p ks.tail))) := by
  obtain ⟨f, cap, rfl, hcl, hp⟩ := hv
  have ht := takes_pure x ks
  have hpos := takes_pos (k := x.kind) (ks := ks)
  have hp0 := hp ks
  have hp2 := hp ks.tail
  have htl := rws_tail sCells ks
  have hwk := rws_wid sCells (k := 1) (fun _ => rfl) ks
  have hlj := rws_len sCells ks
  rw [← htl] at hp2
  obtain ⟨kind, many, may⟩ := x
  simp only [It.cells] at ht hpos ⊢
  generalize rws sCells ks = jrows at *
  have hc := clean_cap hcl jrows
  have hc2 := clean_cap hcl ((jrows.take jrows.length).drop 1)
  have hp1 : Pure Tryd.prog f (share.go [] ([.sl jrows] ++ cap)) (· = .bool (p ks)) := by rw [share_cap hcl]; exact hp0
  have hp3 : Pure Tryd.prog f (share.go [] ([.sl ((jrows.take jrows.length).drop 1)] ++ cap)) (· = .bool (p ks.tail)) := by rw [share_cap hcl]; exact hp2
  generalize p ks = b1 at *
  generalize p ks.tail = b2 at *
  refine pure_of_awp good Tryd.func105 rfl (by kernel_rfl) (by decide) ?_
  conv => whnf
  refine Chk_mk hc ⟨_, .inl hp1, ?_⟩
  cases b1 with
  | true =>
    conv => whnf
    rfl
  | false =>
    conv => whnf
    refine ⟨_, .inl ht, ?_⟩
    cases hT : takesB kind ks with
    | false =>
      conv => whnf
      rfl
    | true =>
      have := hpos hT
      conv => whnf
      refine ⟨hwk, ?_⟩
      conv => whnf
      refine ⟨by omega, by omega, rfl, ?_⟩
      conv => whnf
      refine Chk_mk hc2 ⟨_, .inl hp3, ?_⟩
      conv => whnf
      rfl
set_option maxHeartbeats 4000000 in
theorem one_pure (x : It) (v : V) (p : Ks → Bool) (hv : Good v p) (ks : Ks) : Pure Tryd.prog 106 [.sl (rws sCells ks), .rptr [.fn 103 [.rptr x.cells]], .rptr [v]] (· = .bool (takesB x.kind ks && p ks.tail)) := by
  obtain ⟨f, cap, rfl, hcl, hp⟩ := hv
  have ht := takes_pure x ks
  have hpos := takes_pos (k := x.kind) (ks := ks)
  have hp2 := hp ks.tail
  have htl := rws_tail sCells ks
  have hwk := rws_wid sCells (k := 1) (fun _ => rfl) ks
  have hlj := rws_len sCells ks
  rw [← htl] at hp2
  obtain ⟨kind, many, may⟩ := x
  simp only [It.cells] at ht hpos ⊢
  generalize rws sCells ks = jrows at *
  have hc2 := clean_cap hcl ((jrows.take jrows.length).drop 1)
  have hp3 : Pure Tryd.prog f (share.go [] ([.sl ((jrows.take jrows.length).drop 1)] ++ cap)) (· = .bool (p ks.tail)) := by rw [share_cap hcl]; exact hp2
  generalize p ks.tail = b2 at *
  refine pure_of_awp good Tryd.func106 rfl (by kernel_rfl) (by decide) ?_
  conv => whnf
  refine ⟨_, .inl ht, ?_⟩
  cases hT : takesB kind ks with
  | false =>
    conv => whnf
    rfl
  | true =>
    have := hpos hT
    conv => whnf
    refine ⟨hwk, ?_⟩
    conv => whnf
    refine ⟨by omega, by omega, rfl, ?_⟩
    conv => whnf
    refine Chk_mk hc2 ⟨_, .inl hp3, ?_⟩
    conv => whnf
    rfl
/- The states themselves. -/
theorem rptr_leaf {xs : List V} (h : xs.all V.leaf = true) : ∀ x ∈ xs, x.leaf = true := fun x hx => List.all_eq_true.1 h x hx
set_option maxHeartbeats 4000000 in
theorem itemState_pure (x : It) (v : V) (p : Ks → Bool) (hv : Good v p) : Pure Tryd.prog 98 [.agg x.cells, v] (fun r => Good r (itemP x p)) := by
  have h2 := many_pure x v p hv
  have h3 := may_pure x v p hv
  have h4 := one_pure x v p hv
  have hI : itemP x p = fun ks => itemP x p ks := rfl
  obtain ⟨f, cap, rfl, hcl, hp⟩ := hv
  have hren : ∀ sel, renV.go sel cap = cap := fun sel => renL_clean sel cap hcl.clean
  have hshr : ∀ σ kn st, shr.go σ kn st cap = cap := fun σ kn st => by rcases hcl with rfl | ⟨a, b, rfl, _, _⟩ <;> rfl
  have hcc : V.clean.cleanL 0 [.fn f cap] = true := by
    show (V.clean.cleanL 0 cap && true) = true
    rw [hcl.clean]; rfl
  obtain ⟨kind, many, may⟩ := x
  simp only [It.cells] at h2 h3 h4 ⊢
  refine Full.freezeB (R := fun o st' => ∃ r, o = .ret r ∧ st' = [⟨[[.str kind, .bool many, .bool may]], 3, true, true, true, .cell⟩, ⟨[[.fn f cap]], 1, true, true, true, .cell⟩, ⟨[[.fn 103 [.ptr 0 0 0]]], 1, true, true, true, .cell⟩] ∧
      r = (match many with | true => .fn 104 [.ptr 2 0 0, .ptr 1 0 0] | false => match may with | true => .fn 105 [.ptr 1 0 0, .ptr 2 0 0] | false => .fn 106 [.ptr 2 0 0, .ptr 1 0 0])) ?_ ?_
  · refine full_of_awp good Tryd.func98 rfl (by kernel_rfl) (by decide) ?_
    cases many <;> cases may
    all_goals
      conv => whnf
      refine ⟨[0, 1, 2], false, ?_⟩
      conv => whnf
      refine ⟨_, rfl, ?_, rfl⟩
      show [(⟨_, _, _, _, _, _⟩ : O), ⟨[[.fn f (renV.go _ cap)]], _, _, _, _, _⟩, ⟨_, _, _, _, _, _⟩] = _
      rw [hren]
      rfl
  · rintro o st' ⟨r, rfl, rfl, rfl⟩
    refine ⟨_, match many with | true => .fn 104 [.rptr [.fn 103 [.rptr [.str kind, .bool many, .bool may]]], .rptr [.fn f cap]] | false => match may with | true => .fn 105 [.rptr [.fn f cap], .rptr [.fn 103 [.rptr [.str kind, .bool many, .bool may]]]] | false => .fn 106 [.rptr [.fn 103 [.rptr [.str kind, .bool many, .bool may]]], .rptr [.fn f cap]], rfl, ?_, ?_, ?_⟩
    · intro k o hk
      match k, hk with
      | 0, hk => simp at hk; subst hk; exact ⟨rfl, rfl⟩
      | 1, hk => simp at hk; subst hk; exact ⟨rfl, rfl⟩
      | 2, hk => simp at hk; subst hk; exact ⟨rfl, rfl⟩
      | k + 3, hk => simp at hk
    · generalize hst : ([⟨[[.str kind, .bool many, .bool may]], 3, true, true, true, .cell⟩, ⟨[[.fn f cap]], 1, true, true, true, .cell⟩, ⟨[[.fn 103 [.ptr 0 0 0]]], 1, true, true, true, .cell⟩] : St) = st
      have b0 : FV st (.ptr 0 0 0) (.rptr [.str kind, .bool many, .bool may]) := by
        refine FV.box (o := ⟨[[.str kind, .bool many, .bool may]], 3, true, true, true, .cell⟩) (row := [.str kind, .bool many, .bool may]) (by rw [← hst]; rfl) rfl (rptr_leaf rfl) (.cons (.same _ rfl) (.cons (.same _ rfl) (.cons (.same _ rfl) .nil)))
      have b1 : FV st (.ptr 1 0 0) (.rptr [.fn f cap]) := by
        refine FV.box (o := ⟨[[.fn f cap]], 1, true, true, true, .cell⟩) (row := [.fn f cap]) (by rw [← hst]; rfl) rfl (rptr_leaf rfl) (.cons (.same _ (by show V.clean.cleanL 0 cap = true; exact hcl.clean)) .nil)
      have b2 : FV st (.ptr 2 0 0) (.rptr [.fn 103 [.rptr [.str kind, .bool many, .bool may]]]) := by
        refine FV.box (o := ⟨[[.fn 103 [.ptr 0 0 0]]], 1, true, true, true, .cell⟩) (row := [.fn 103 [.ptr 0 0 0]]) (by rw [← hst]; rfl) rfl (rptr_leaf rfl) (.cons (.fn' (.cons b0 .nil)) .nil)
      cases many <;> cases may
      · exact .fn' (.cons b2 (.cons b1 .nil))
      · exact .fn' (.cons b1 (.cons b2 .nil))
      · exact .fn' (.cons b2 (.cons b1 .nil))
      · exact .fn' (.cons b2 (.cons b1 .nil))
    · cases many <;> cases may
      · exact ⟨_, _, rfl, .inr ⟨_, _, rfl, rfl, hcc⟩, h4⟩
      · exact ⟨_, _, rfl, .inr ⟨_, _, rfl, hcc, rfl⟩, h3⟩
      · exact ⟨_, _, rfl, .inr ⟨_, _, rfl, rfl, hcc⟩, h2⟩
      · exact ⟨_, _, rfl, .inr ⟨_, _, rfl, rfl, hcc⟩, h2⟩
end Go.Cod

set_option linter.all false
namespace Go.Cod
variable [Adr]
open Go Go.Proofs
set_option maxRecDepth 10000

theorem good_nil : Good (.fn 97 []) (matchP []) := ⟨_, [], rfl, .inl rfl, fun ks => machine1_pure ks⟩
set_option maxHeartbeats 4000000 in
theorem schemaMachine_pure (xs : List It) (hn : xs.length ≤ 1048576) : Pure Tryd.prog 82 [.sl (rws It.cells xs)] (fun r => Good r (matchP xs)) := by
  have hlx := rws_len It.cells xs
  have hgx := rws_get It.cells xs
  have hI := itemState_pure
  generalize rws It.cells xs = rows at *
  refine pure_of_awp good Tryd.func82 rfl (by kernel_rfl) (by decide) ?_
  conv => whnf
  refine loop_intro (fun n fr st => st = [] ∧ n ≤ xs.length ∧ ∃ v, Good v (matchP (xs.drop n)) ∧ Holds fr [(0, .sl rows), (3, v), (4, .int .i64 ((n : Int) - 1))]) xs.length ⟨rfl, Nat.le_refl _, .fn 97 [], by rw [List.drop_of_length_le (Nat.le_refl _)]; exact good_nil, rfl, rfl, ?_, trivial⟩ ?_
  · show V.int .i64 (IntKind.i64.wrap _) = _
    rw [hlx, wrap64 (by omega) (by omega)]
  rintro n fr st ⟨rfl, hle, v, hv, hh⟩
  have hv1 := hv
  obtain ⟨f, cap, rfl, hcl, hp⟩ := hv1
  obtain ⟨fr, rfl⟩ := hh.split
  clear hh
  conv => whnf
  cases n with
  | zero =>
    rw [leB_f (by omega)]
    conv => whnf
    refine match_true (by show V.clean.cleanL 0 (share.go [] cap) = true; rw [hcl.share]; exact hcl.clean) ?_
    show Good (.fn f (share.go [] cap)) _
    rw [hcl.share]
    exact hv
  | succ n =>
    rw [leB_t (by omega)]
    have hnx : n < xs.length := by omega
    have hg := hgx n hnx
    have hm : matchP (xs.drop n) = itemP xs[n] (matchP (xs.drop (n + 1))) := by rw [List.drop_eq_getElem_cons hnx]; rfl
    have hI := hI xs[n] _ _ hv
    rw [← hm] at hI
    generalize xs[n] = x at *
    obtain ⟨kind, many, may⟩ := x
    simp only [It.cells] at hg hI
    have hw : (((n + 1 : Nat) : Int) - 1) = n := by omega
    rw [hw]
    have hcc : V.clean.cleanL 0 [.agg [.str kind, .bool many, .bool may], .fn f cap] = true := by
      show (true && (V.clean.cleanL 0 cap && true)) = true
      rw [hcl.clean]; rfl
    have hsc : share.go [] [V.agg [.str kind, .bool many, .bool may], .fn f cap] = [V.agg [.str kind, .bool many, .bool may], .fn f cap] := by
      show [_, V.fn f (share.go [] cap)] = _
      rw [hcl.share]; rfl
    rw [← hsc] at hI
    conv => whnf
    refine ⟨by omega, rows, _, 3, rfl, hg, rfl, rfl, ?_⟩
    conv => whnf
    refine match_true hcc ?_
    refine .inl (hI.mono ?_)
    rintro r ⟨f2, cap2, rfl, hc2, hp2⟩
    conv => whnf
    refine ⟨n, by omega, rfl, by omega, .fn f2 cap2, ⟨f2, cap2, rfl, hc2, hp2⟩, rfl, rfl, ?_, trivial⟩
    show V.int .i64 (IntKind.i64.wrap _) = _
    rw [wrap64 (by omega) (by omega)]
set_option maxHeartbeats 4000000 in
theorem ruleTakes_pure (r : Ru) (hr : r.Sm) (ks : Ks) : Pure Tryd.prog 55 [.agg r.cells, .sl (rws sCells ks)] (· = .bool (decide (ks.length ≤ 20) && matchP r.kids ks)) := by
  have hM := schemaMachine_pure r.kids hr.2.1
  have hlk := rws_len sCells ks
  obtain ⟨kind, text, kids⟩ := r
  simp only [Ru.cells] at hM ⊢
  generalize rws It.cells kids = rows at *
  generalize hjr : rws sCells ks = jrows at *
  generalize matchP kids = p at *
  refine pure_of_awp good Tryd.func55 rfl (by kernel_rfl) (by decide) ?_
  conv => whnf
  rw [hlk]
  by_cases h : (ks.length : Int) ≤ 20
  · rw [leB_t h]
    conv => whnf
    refine .inl (hM.mono ?_)
    rintro r ⟨f, cap, rfl, hcl, hp⟩
    have hp := hp ks
    rw [hjr] at hp
    have hp1 : Pure Tryd.prog f (share.go [⟨[[.str kind, .bool text, .sl rows]], 3, true, true, true, .cell⟩] ([.sl jrows] ++ cap)) (· = .bool (p ks)) := by rw [share_cap hcl]; exact hp
    conv => whnf
    refine match_true (clean_cap hcl jrows) ?_
    refine .inl (hp1.mono ?_)
    rintro r rfl
    conv => whnf
    rw [decide_eq_true (by omega)]; rfl
  · rw [leB_f (by omega)]
    conv => whnf
    rw [decide_eq_false (by omega)]; rfl

/- The rule of a kind. -/
theorem find_at (k : List UInt8) : ∀ (rs : List Ru) (n : Int), 0 ≤ n → hasR rs k = true → ∃ (i : Nat) (h : i < rs.length), idxR k rs n = n + i ∧ rs.find? (fun r => decide (r.kind = k)) = some rs[i]
  | [], n, _, h => by simp [hasR] at h
  | r :: rs, n, hn, h => by
    have he : hasR (r :: rs) k = (decide (r.kind = k) || hasR rs k) := rfl
    rw [he] at h
    by_cases hk : r.kind = k
    · exact ⟨0, by simp, by simp [idxR, hk], by simp [hk]⟩
    · simp only [hk, decide_false, Bool.false_or] at h
      obtain ⟨i, hi, h1, h2⟩ := find_at k rs (n + 1) (by omega) h
      refine ⟨i + 1, by simpa using hi, ?_, ?_⟩
      · simp only [idxR, if_neg hk, h1]; omega
      · simp [hk, h2]
theorem find_none {rs : List Ru} {k : List UInt8} (h : hasR rs k = false) : rs.find? (fun r => decide (r.kind = k)) = none := by
  rw [List.find?_eq_none]
  intro r hr hd
  have : hasR rs k = true := by
    unfold hasR
    rw [List.any_eq_true]
    exact ⟨r, hr, hd⟩
  rw [h] at this; cases this
end Go.Cod

set_option linter.all false
namespace Go.Cod
variable [Adr]
open Go Go.Proofs
set_option maxRecDepth 10000

/- Trees against schemas. -/
def T.kindOf : T → List UInt8
  | .mk _ kind _ _ => kind
def T.textOf : T → List UInt8
  | .mk _ _ text _ => text
def kindsOf (ts : List T) : Ks := ts.map T.kindOf
def thingF (rs : List Ru) (t : T) : Bool := match rs.find? fun r => decide (r.kind = t.kindOf) with
  | none => false
  | some r => (decide (t.textOf = []) || r.text) && matchP r.kids (kindsOf t.kids)
mutual
def fitsT (rs : List Ru) : T → Bool
  | .mk id kind text kids => thingF rs (.mk id kind text kids) && fitsL rs kids
def fitsL (rs : List Ru) : List T → Bool
  | [] => true
  | t :: ts => fitsT rs t && fitsL rs ts
end
theorem fitsL_eq (rs : List Ru) (ts : List T) : fitsL rs ts = ts.all (fitsT rs) := by
  induction ts with
  | nil => rfl
  | cons t ts ih => simp [fitsL, ih]
mutual
theorem fitsT_sp (rs : List Ru) : ∀ (t : T) (ov lv : Int), fitsT rs t = (spT t ov lv).all fun s => thingF rs s.1
  | .mk id kind text kids, ov, lv => by simp only [fitsT, spT, List.all_cons, fitsL_sp rs kids id (IntKind.i64.wrap (lv + 1))]
theorem fitsL_sp (rs : List Ru) : ∀ (ts : List T) (ov lv : Int), fitsL rs ts = (spL ts ov lv).all fun s => thingF rs s.1
  | [], _, _ => rfl
  | t :: ts, ov, lv => by simp only [fitsL, spL, List.all_append, fitsT_sp rs t ov lv, fitsL_sp rs ts ov lv]
end
theorem idsL_len : ∀ ts : List T, ts.length ≤ (T.idsL ts).length
  | [] => by simp
  | .mk id kind text kids :: ts => by
    have := idsL_len ts
    simp only [T.idsL, T.ids, List.length_append, List.length_cons]
    omega
mutual
theorem sp_kids : ∀ (t : T) (ov lv : Int), ∀ s ∈ spT t ov lv, s.1.kids.length < t.ids.length
  | .mk id kind text kids, ov, lv => by
    intro s hs
    rcases List.mem_cons.1 hs with rfl | hs
    · have := idsL_len kids
      simp only [T.kids, T.ids, List.length_cons]
      omega
    · have := sp_kidsL kids _ _ s hs
      simp only [T.ids, List.length_cons]
      omega
theorem sp_kidsL : ∀ (ts : List T) (ov lv : Int), ∀ s ∈ spL ts ov lv, s.1.kids.length < (T.idsL ts).length
  | [], _, _ => by simp [spL]
  | t :: ts, ov, lv => by
    intro s hs
    simp only [T.idsL, List.length_append]
    rcases List.mem_append.1 hs with hs | hs
    · have := sp_kids t _ _ s hs
      omega
    · have := sp_kidsL ts _ _ s hs
      omega
end
theorem kindsOf_take (ts : List T) (i : Nat) (h : i < ts.length) : rws sCells (kindsOf (ts.take (i + 1))) = rws sCells (kindsOf (ts.take i)) ++ [[.str ts[i].kindOf]] := by
  unfold kindsOf rws
  rw [List.take_succ_eq_append_getElem h, List.map_append, List.map_append]; rfl
set_option maxHeartbeats 4000000 in
theorem treeKinds_pure (ts : List T) (hn : ts.length ≤ 1048576) : Pure Tryd.prog 67 [.sl (T.rows ts)] (· = .sl (rws sCells (kindsOf ts))) := by
  have hlr := rows_len ts
  have hgr := rows_get ts
  have hkt := kindsOf_take ts
  have hkl : ∀ i, i ≤ ts.length → (rws sCells (kindsOf (ts.take i))).length = i := fun i h => by rw [rws_len, kindsOf, List.length_map, List.length_take]; omega
  generalize T.rows ts = rows at *
  refine pure_of_awp good Tryd.func67 rfl (by kernel_rfl) (by decide) ?_
  conv => whnf
  refine loop_drop (fun n fr st => ∃ i : Nat, n + i = ts.length ∧ ((i = 0 ∧ st = [] ∧ Holds fr [(3, .nils), (6, .sl rows), (7, .int .i64 ts.length), (8, .int .i64 i)]) ∨
      (0 < i ∧ st = [⟨rws sCells (kindsOf (ts.take i)), 1, true, true, false, .cell⟩] ∧ Holds fr [(3, .own 0), (6, .sl rows), (7, .int .i64 ts.length), (8, .int .i64 i)]))) ts.length none ⟨0, rfl, .inl ⟨rfl, rfl, rfl, rfl, by rw [← hlr]; rfl, rfl, trivial⟩⟩ ?_
  rintro n fr st ⟨i, hi, ⟨rfl, rfl, hh⟩ | ⟨h0, rfl, hh⟩⟩
  · obtain ⟨fr, rfl⟩ := hh.split
    clear hh
    conv => whnf
    by_cases hlt : 0 < ts.length
    · rw [ltB_t (by omega)]
      conv => whnf
      have hg := hgr 0 hlt
      have hk := hkt 0 hlt
      generalize ts[0] = t at *
      cases t with
      | mk id kind text kids =>
      simp only [T.cells, T.kindOf] at hg hk
      refine ⟨by omega, rows, _, 4, rfl, hg, rfl, rfl, ?_⟩
      conv => whnf
      refine ⟨fun m hm => by rw [List.mem_singleton.1 hm]; rfl, ?_⟩
      conv => whnf
      refine ⟨by show 1 * 16 ≤ _; omega, .inr ⟨(by intro e; cases e), ?_⟩⟩
      conv => whnf
      refine ⟨n - 1, by omega, some [2], ?_⟩
      conv => whnf
      refine ⟨1, by omega, .inr ⟨by omega, ?_, rfl, rfl, rfl, rfl, trivial⟩⟩
      rw [hk]
      rfl
    · rw [ltB_f (by omega)]
      conv => whnf
      have : ts = [] := List.length_eq_zero_iff.1 (by omega)
      subst this
      rfl
  · obtain ⟨fr, rfl⟩ := hh.split
    clear hh
    conv => whnf
    by_cases hlt : i < ts.length
    · rw [ltB_t (by omega)]
      conv => whnf
      have hg := hgr i hlt
      have hk := hkt i hlt
      have hl := hkl i (by omega)
      generalize ts[i] = t at *
      cases t with
      | mk id kind text kids =>
      simp only [T.cells, T.kindOf] at hg hk
      refine ⟨by omega, rows, _, 4, rfl, hg, rfl, rfl, ?_⟩
      conv => whnf
      refine ⟨fun m hm => by rw [List.mem_singleton.1 hm]; rfl, ?_⟩
      conv => whnf
      refine ⟨by
        show ((rws sCells (kindsOf (ts.take i))).length + 1) * 16 ≤ _
        rw [hl]; omega, ?_⟩
      conv => whnf
      refine ⟨n - 1, by omega, some [3], ?_⟩
      conv => whnf
      refine ⟨i + 1, by omega, .inr ⟨by omega, ?_, rfl, rfl, rfl, ?_, trivial⟩⟩
      · rw [hk]
        rfl
      · show V.int .i64 (IntKind.i64.wrap (i + 1)) = _
        rw [wrap64 (by omega) (by omega)]; simp
    · rw [ltB_f (by omega)]
      conv => whnf
      rw [List.take_of_length_le (by omega)]
/- impl's fault of a thing. -/
def thing20 (rs : List Ru) (t : T) : Bool := match rs.find? fun r => decide (r.kind = t.kindOf) with
  | none => false
  | some r => (decide (t.textOf = []) || r.text) && (decide ((kindsOf t.kids).length ≤ 20) && matchP r.kids (kindsOf t.kids))
theorem thing20_eq (rs : List Ru) (t : T) (h : t.kids.length ≤ 20) : thing20 rs t = thingF rs t := by
  unfold thing20 thingF
  rw [decide_eq_true (show (kindsOf t.kids).length ≤ 20 by simpa [kindsOf] using h)]
  simp
set_option maxHeartbeats 8000000 in
theorem thingFault_pure (s : Sc) (hs : s.Sm) (t : T) (ht : t.Small) : Pure Tryd.prog 33 [.agg s.cells, .agg t.cells] (faultIs (thing20 s.rules t)) := by
  have f1 := fun k => schemaRule_pure s.rules k hs.2.1
  have hx := hs.2.2
  obtain ⟨root, rules⟩ := s
  cases t with
  | mk id kind text kids =>
  have f3 := fun r hr => ruleTakes_pure r hr (kindsOf kids)
  have f4 := treeKinds_pure kids (by cases ht; assumption)
  have hK : thing20 rules (.mk id kind text kids) = (match rules.find? fun r => decide (r.kind = kind) with
    | none => false
    | some r => (decide (text = []) || r.text) && (decide ((kindsOf kids).length ≤ 20) && matchP r.kids (kindsOf kids))) := rfl
  have f1 := f1 kind
  simp only [Sc.cells, T.cells] at f1 hx ⊢
  show Pure _ _ _ (faultIs (thing20 rules (.mk id kind text kids)))
  generalize thing20 rules (.mk id kind text kids) = res at *
  generalize rws sCells (kindsOf kids) = krows at *
  generalize T.rows kids = trows at *
  generalize hrr : rws Ru.cells rules = rows at *
  have he : ruleErr rules kind = if hasR rules kind = true then nilErr else errV 0 := rfl
  refine pure_of_awp good Tryd.func33 rfl (by kernel_rfl) (by decide) ?_
  conv => whnf
  cases hh : hasR rules kind with
  | false =>
    rw [find_none hh] at hK
    rw [hh] at he
    obtain ⟨r0, hr0⟩ := ruleOf_cells rules kind
    rw [hr0, he] at f1
    obtain ⟨a, b, c⟩ := r0
    simp only [Ru.cells] at f1
    refine .inl (f1.mono ?_)
    rintro r rfl
    conv => whnf
    rw [hK]
    exact ⟨_, rfl⟩
  | true =>
    obtain ⟨i, hi, h1, h2⟩ := find_at kind rules 0 (by omega) hh
    have hr0 : ruleOf rules kind = rules[i].cells := by unfold ruleOf; rw [h2]
    have f3 := f3 rules[i] (hx _ (List.getElem_mem _))
    rw [h2] at hK
    rw [hh] at he
    rw [hr0, he] at f1
    generalize rules[i] = x at *
    obtain ⟨rk, rt, rkids⟩ := x
    simp only [Ru.cells] at f1 f3 hK
    generalize rws It.cells rkids = irows at *
    generalize (decide ((kindsOf kids).length ≤ 20) && matchP rkids (kindsOf kids)) = mb at *
    refine .inl (f1.mono ?_)
    rintro r rfl
    conv => whnf
    have key : ∀ tb : Bool, (tb = (decide (text = []) || rt)) → True := fun _ _ => trivial
    by_cases hT : text = []
    · rw [eqS_t hT]
      rw [decide_eq_true hT, Bool.true_or, Bool.true_and] at hK
      conv => whnf
      refine ⟨_, .inl f4, ?_⟩
      conv => whnf
      refine ⟨_, .inl f3, ?_⟩
      cases mb with
      | true =>
        conv => whnf
        (rw [hK]; try rfl)
      | false =>
        conv => whnf
        rw [hK]
        exact ⟨_, rfl⟩
    · rw [eqS_f hT]
      rw [decide_eq_false hT, Bool.false_or] at hK
      cases rt with
      | false =>
        conv => whnf
        rw [hK]
        exact ⟨_, rfl⟩
      | true =>
        conv => whnf
        refine ⟨_, .inl f4, ?_⟩
        conv => whnf
        refine ⟨_, .inl f3, ?_⟩
        cases mb with
        | true =>
          conv => whnf
          (rw [hK]; try rfl)
        | false =>
          conv => whnf
          rw [hK]
          exact ⟨_, rfl⟩
end Go.Cod

set_option linter.all false
namespace Go.Cod
variable [Adr]
open Go Go.Proofs
set_option maxRecDepth 10000

/- spec's. -/
theorem fitsL_take (rs : List Ru) {ts : List T} {i : Nat} (h : i < ts.length) : fitsL rs (ts.take (i + 1)) = (fitsL rs (ts.take i) && fitsT rs ts[i]) := by
  rw [fitsL_eq, fitsL_eq, all_take h]
theorem fitsL_no (rs : List Ru) {ts : List T} {i : Nat} (h : i < ts.length) (hf : fitsT rs ts[i] = false) : fitsL rs ts = false := by
  rw [fitsL_eq]; exact all_no h hf
set_option maxHeartbeats 8000000 in
theorem l3Fits_pure1 (s : Sc) (hs : s.Sm) (t : T) (ht : t.Small) (hT : ∀ t' ∈ t.kids, Pure Tryd.prog 28 [.agg s.cells, .agg t'.cells] (· = .bool (fitsT s.rules t'))) :
    Pure Tryd.prog 28 [.agg s.cells, .agg t.cells] (· = .bool (fitsT s.rules t)) := by
  have f1 := fun k => l3Rule_pure s k hs.2.1
  have f2 := fun xs ks => l3Match_pure (xs.length + ks.length + 1) xs ks (by omega)
  cases ht with
  | @mk id kind text kids g1 g2 g3 g4 g5 =>
  obtain ⟨root, rules⟩ := s
  have hF : fitsT rules (.mk id kind text kids) = ((match rules.find? fun r => decide (r.kind = kind) with
    | none => false
    | some r => (decide (text = []) || r.text) && matchP r.kids (kindsOf kids)) && fitsL rules kids) := rfl
  have f1 := f1 kind
  simp only [Sc.cells, T.cells, T.kids] at f1 hT ⊢
  generalize fitsT rules (.mk id kind text kids) = res at *
  have hlt := rows_len kids
  have hgt := rows_get kids
  have hkt := kindsOf_take kids
  have hkl : ∀ i, i ≤ kids.length → (rws sCells (kindsOf (kids.take i))).length = i := fun i h => by rw [rws_len, kindsOf, List.length_map, List.length_take]; omega
  have hft := fun i (h : i < kids.length) => fitsL_take rules h
  have hfn := fun i (h : i < kids.length) => fitsL_no rules h
  have hgr := rws_get Ru.cells rules
  generalize T.rows kids = trows at *
  generalize rws Ru.cells rules = rows at *
  refine pure_of_awp good Tryd.func28 rfl (by kernel_rfl) (by decide) ?_
  conv => whnf
  refine .inl (f1.mono ?_)
  rintro r rfl
  have hneg := idxR_neg kind rules
  have hat := find_at kind rules 0 (by omega)
  generalize idxR kind rules 0 = v at *
  conv => whnf
  cases hh : hasR rules kind with
  | false =>
    have := hneg.2 hh
    rw [find_none hh] at hF
    rw [ltB_t (by omega)]
    conv => whnf
    rw [hF]; rfl
  | true =>
    obtain ⟨i0, hi0, h1, h2⟩ := hat hh
    rw [h2] at hF
    obtain rfl : v = (i0 : Int) := by omega
    rw [ltB_f (by omega)]
    have hg := hgr i0 hi0
    have f2 := f2 rules[i0].kids
    generalize rules[i0] = x at *
    obtain ⟨rk, rt, rkids⟩ := x
    simp only [Ru.cells] at hg hF f2
    generalize rws It.cells rkids = irows at *
    generalize matchP rkids = p at *
    conv => whnf
    by_cases hTx : text = []
    · rw [eqS_t hTx]
      rw [decide_eq_true hTx, Bool.true_or, Bool.true_and] at hF
      conv => whnf
      refine loop_drop (fun n fr st => ∃ i : Nat, n + i = kids.length ∧ fitsL rules (kids.take i) = true ∧ ((i = 0 ∧ st = [⟨[[.str root, .sl rows]], 2, true, true, true, .cell⟩, ⟨[[.int .i64 id, .str kind, .str text, .sl trows]], 4, true, true, true, .cell⟩] ∧ Holds fr [(2, .ptr 0 0 0), (3, .ptr 1 0 0), (5, .int .i64 i0), (6, .nils), (7, .int .i64 i)]) ∨
          (0 < i ∧ st = [⟨[[.str root, .sl rows]], 2, true, true, true, .cell⟩, ⟨[[.int .i64 id, .str kind, .str text, .sl trows]], 4, true, true, true, .cell⟩, ⟨rws sCells (kindsOf (kids.take i)), 1, true, true, false, .cell⟩] ∧ Holds fr [(2, .ptr 0 0 0), (3, .ptr 1 0 0), (5, .int .i64 i0), (6, .own 2), (7, .int .i64 i)]))) kids.length none ⟨0, rfl, rfl, .inl ⟨rfl, rfl, rfl, rfl, rfl, rfl, rfl, trivial⟩⟩ ?_
      rintro n fr st ⟨i, hi, hfi, ⟨rfl, rfl, hh⟩ | ⟨h0, rfl, hh⟩⟩
      · obtain ⟨fr, rfl⟩ := hh.split
        clear hh
        conv => whnf
        by_cases hlk : 0 < kids.length
        · rw [hlt, ltB_t (by omega)]
          conv => whnf
          have hg1 := hgt 0 hlk
          have hk := hkt 0 hlk
          have hl := hkl 0 (by omega)
          have hfs := hft 0 hlk
          have hfo := hfn 0 hlk
          have hT := hT kids[0] (List.getElem_mem _)
          generalize fitsT rules kids[0] = tf at *
          generalize kids[0] = t at *
          cases t with
          | mk id' kind' text' kids' =>
          simp only [T.cells, T.kindOf] at hg1 hk hT
          refine ⟨by omega, trows, _, 4, rfl, hg1, rfl, rfl, ?_⟩
          conv => whnf
          refine ⟨fun m hm => by rw [List.mem_singleton.1 hm]; rfl, ?_⟩
          conv => whnf
          refine ⟨by show 1 * 16 ≤ _; omega, .inr ⟨(by intro e; cases e), ?_⟩⟩
          conv => whnf
          repeat (first
            | (refine ⟨by omega, trows, _, 4, rfl, hg1, rfl, rfl, ?_⟩
               conv => whnf)
            | (refine ⟨_, .inl hT, ?_⟩))
          cases tf with
          | false =>
            conv => whnf
            rw [hF, hfo rfl]; simp
          | true =>
            conv => whnf
            refine ⟨n - 1, by omega, some [0, 1, 3], ?_⟩
            conv => whnf
            refine ⟨0 + 1, by omega, by rw [hfs, hfi]; rfl, .inr ⟨by omega, ?_, rfl, rfl, rfl, rfl, ?_, trivial⟩⟩
            · rw [hk]
              rfl
            · show V.int .i64 (IntKind.i64.wrap (_ + 1)) = _
              rw [wrap64 (by omega) (by omega)]; simp
        · rw [hlt, ltB_f (by omega)]
          conv => whnf
          refine ⟨by omega, rows, _, 3, rfl, hg, rfl, rfl, ?_⟩
          conv => whnf
          have : kids = [] := List.length_eq_zero_iff.1 (by omega)
          subst this
          refine .inl ((f2 []).mono ?_)
          rintro r rfl
          conv => whnf
          rw [hF]; simp [kindsOf, fitsL]
      · obtain ⟨fr, rfl⟩ := hh.split
        clear hh
        conv => whnf
        by_cases hlk : i < kids.length
        · rw [hlt, ltB_t (by omega)]
          conv => whnf
          have hg1 := hgt i hlk
          have hk := hkt i hlk
          have hl := hkl i (by omega)
          have hfs := hft i hlk
          have hfo := hfn i hlk
          have hT := hT kids[i] (List.getElem_mem _)
          generalize fitsT rules kids[i] = tf at *
          generalize kids[i] = t at *
          cases t with
          | mk id' kind' text' kids' =>
          simp only [T.cells, T.kindOf] at hg1 hk hT
          refine ⟨by omega, trows, _, 4, rfl, hg1, rfl, rfl, ?_⟩
          conv => whnf
          refine ⟨fun m hm => by rw [List.mem_singleton.1 hm]; rfl, ?_⟩
          conv => whnf
          refine ⟨by
              show ((rws sCells (kindsOf (kids.take i))).length + 1) * 16 ≤ _
              rw [hl]; omega, ?_⟩
          conv => whnf
          repeat (first
            | (refine ⟨by omega, trows, _, 4, rfl, hg1, rfl, rfl, ?_⟩
               conv => whnf)
            | (refine ⟨_, .inl hT, ?_⟩))
          cases tf with
          | false =>
            conv => whnf
            rw [hF, hfo rfl]; simp
          | true =>
            conv => whnf
            refine ⟨n - 1, by omega, some [0, 1, 4], ?_⟩
            conv => whnf
            refine ⟨i + 1, by omega, by rw [hfs, hfi]; rfl, .inr ⟨by omega, ?_, rfl, rfl, rfl, rfl, ?_, trivial⟩⟩
            · rw [hk]
              rfl
            · show V.int .i64 (IntKind.i64.wrap (_ + 1)) = _
              rw [wrap64 (by omega) (by omega)]; simp
        · rw [hlt, ltB_f (by omega)]
          conv => whnf
          refine ⟨by omega, rows, _, 3, rfl, hg, rfl, rfl, ?_⟩
          conv => whnf
          rw [List.take_of_length_le (by omega)] at hfi
          have hkk : kids.take i = kids := List.take_of_length_le (by omega)
          rw [hkk]
          refine ⟨[], false, ?_⟩
          conv => whnf
          refine Full.mono (f2 (kindsOf kids)) ?_
          rintro o st' ⟨rfl, r, rfl, rfl⟩
          conv => whnf
          rw [hF, hfi]; simp
    · rw [eqS_f hTx]
      rw [decide_eq_false hTx, Bool.false_or] at hF
      conv => whnf
      refine ⟨by omega, rows, _, 3, rfl, hg, rfl, rfl, ?_⟩
      cases rt with
      | false =>
        conv => whnf
        rw [hF]; rfl
      | true =>
        rw [Bool.true_and] at hF
        conv => whnf
        refine loop_drop (fun n fr st => ∃ i : Nat, n + i = kids.length ∧ fitsL rules (kids.take i) = true ∧ ((i = 0 ∧ st = [⟨[[.str root, .sl rows]], 2, true, true, true, .cell⟩, ⟨[[.int .i64 id, .str kind, .str text, .sl trows]], 4, true, true, true, .cell⟩] ∧ Holds fr [(2, .ptr 0 0 0), (3, .ptr 1 0 0), (5, .int .i64 i0), (6, .nils), (7, .int .i64 i)]) ∨
            (0 < i ∧ st = [⟨[[.str root, .sl rows]], 2, true, true, true, .cell⟩, ⟨[[.int .i64 id, .str kind, .str text, .sl trows]], 4, true, true, true, .cell⟩, ⟨rws sCells (kindsOf (kids.take i)), 1, true, true, false, .cell⟩] ∧ Holds fr [(2, .ptr 0 0 0), (3, .ptr 1 0 0), (5, .int .i64 i0), (6, .own 2), (7, .int .i64 i)]))) kids.length none ⟨0, rfl, rfl, .inl ⟨rfl, rfl, rfl, rfl, rfl, rfl, rfl, trivial⟩⟩ ?_
        rintro n fr st ⟨i, hi, hfi, ⟨rfl, rfl, hh⟩ | ⟨h0, rfl, hh⟩⟩
        · obtain ⟨fr, rfl⟩ := hh.split
          clear hh
          conv => whnf
          by_cases hlk : 0 < kids.length
          · rw [hlt, ltB_t (by omega)]
            conv => whnf
            have hg1 := hgt 0 hlk
            have hk := hkt 0 hlk
            have hl := hkl 0 (by omega)
            have hfs := hft 0 hlk
            have hfo := hfn 0 hlk
            have hT := hT kids[0] (List.getElem_mem _)
            generalize fitsT rules kids[0] = tf at *
            generalize kids[0] = t at *
            cases t with
            | mk id' kind' text' kids' =>
            simp only [T.cells, T.kindOf] at hg1 hk hT
            refine ⟨by omega, trows, _, 4, rfl, hg1, rfl, rfl, ?_⟩
            conv => whnf
            refine ⟨fun m hm => by rw [List.mem_singleton.1 hm]; rfl, ?_⟩
            conv => whnf
            refine ⟨by show 1 * 16 ≤ _; omega, .inr ⟨(by intro e; cases e), ?_⟩⟩
            conv => whnf
            repeat (first
              | (refine ⟨by omega, trows, _, 4, rfl, hg1, rfl, rfl, ?_⟩
                 conv => whnf)
              | (refine ⟨_, .inl hT, ?_⟩))
            cases tf with
            | false =>
              conv => whnf
              rw [hF, hfo rfl]; simp
            | true =>
              conv => whnf
              refine ⟨n - 1, by omega, some [0, 1, 3], ?_⟩
              conv => whnf
              refine ⟨0 + 1, by omega, by rw [hfs, hfi]; rfl, .inr ⟨by omega, ?_, rfl, rfl, rfl, rfl, ?_, trivial⟩⟩
              · rw [hk]
                rfl
              · show V.int .i64 (IntKind.i64.wrap (_ + 1)) = _
                rw [wrap64 (by omega) (by omega)]; simp
          · rw [hlt, ltB_f (by omega)]
            conv => whnf
            refine ⟨by omega, rows, _, 3, rfl, hg, rfl, rfl, ?_⟩
            conv => whnf
            have : kids = [] := List.length_eq_zero_iff.1 (by omega)
            subst this
            refine .inl ((f2 []).mono ?_)
            rintro r rfl
            conv => whnf
            rw [hF]; simp [kindsOf, fitsL]
        · obtain ⟨fr, rfl⟩ := hh.split
          clear hh
          conv => whnf
          by_cases hlk : i < kids.length
          · rw [hlt, ltB_t (by omega)]
            conv => whnf
            have hg1 := hgt i hlk
            have hk := hkt i hlk
            have hl := hkl i (by omega)
            have hfs := hft i hlk
            have hfo := hfn i hlk
            have hT := hT kids[i] (List.getElem_mem _)
            generalize fitsT rules kids[i] = tf at *
            generalize kids[i] = t at *
            cases t with
            | mk id' kind' text' kids' =>
            simp only [T.cells, T.kindOf] at hg1 hk hT
            refine ⟨by omega, trows, _, 4, rfl, hg1, rfl, rfl, ?_⟩
            conv => whnf
            refine ⟨fun m hm => by rw [List.mem_singleton.1 hm]; rfl, ?_⟩
            conv => whnf
            refine ⟨by
                show ((rws sCells (kindsOf (kids.take i))).length + 1) * 16 ≤ _
                rw [hl]; omega, ?_⟩
            conv => whnf
            repeat (first
              | (refine ⟨by omega, trows, _, 4, rfl, hg1, rfl, rfl, ?_⟩
                 conv => whnf)
              | (refine ⟨_, .inl hT, ?_⟩))
            cases tf with
            | false =>
              conv => whnf
              rw [hF, hfo rfl]; simp
            | true =>
              conv => whnf
              refine ⟨n - 1, by omega, some [0, 1, 4], ?_⟩
              conv => whnf
              refine ⟨i + 1, by omega, by rw [hfs, hfi]; rfl, .inr ⟨by omega, ?_, rfl, rfl, rfl, rfl, ?_, trivial⟩⟩
              · rw [hk]
                rfl
              · show V.int .i64 (IntKind.i64.wrap (_ + 1)) = _
                rw [wrap64 (by omega) (by omega)]; simp
          · rw [hlt, ltB_f (by omega)]
            conv => whnf
            refine ⟨by omega, rows, _, 3, rfl, hg, rfl, rfl, ?_⟩
            conv => whnf
            rw [List.take_of_length_le (by omega)] at hfi
            have hkk : kids.take i = kids := List.take_of_length_le (by omega)
            rw [hkk]
            refine ⟨[], false, ?_⟩
            conv => whnf
            refine Full.mono (f2 (kindsOf kids)) ?_
            rintro o st' ⟨rfl, r, rfl, rfl⟩
            conv => whnf
            rw [hF, hfi]; simp
theorem l3Fits_pure (s : Sc) (hs : s.Sm) (t : T) (ht : t.Small) : Pure Tryd.prog 28 [.agg s.cells, .agg t.cells] (· = .bool (fitsT s.rules t)) := by
  induction ht with
  | @mk id kind text kids g1 g2 g3 g4 g5 ih =>
    exact l3Fits_pure1 s hs _ (.mk g1 g2 g3 g4 g5) fun t' ht' => ih t' ht'
end Go.Cod

set_option linter.all false
namespace Go.Cod
variable [Adr]
open Go Go.Proofs
set_option maxRecDepth 10000

def fitsS (s : Sc) (t : T) : Bool := okS s && okT t && decide (t.kindOf = s.root) && fitsT s.rules t
set_option maxHeartbeats 8000000 in
theorem specSchemaFits_pure (s : Sc) (hs : s.Sm) (t : T) (ht : t.Small) (hn : t.ids.length ≤ 1048577) : Pure Tryd.prog 9 [.agg s.cells, .agg t.cells] (· = .bool (fitsS s t)) := by
  have f1 := specSchemaOk_pure s hs
  have f2 := specTreeOk_pure t ht hn
  have f3 := l3Fits_pure s hs t ht
  obtain ⟨root, rules⟩ := s
  cases t with
  | mk id kind text kids =>
  have hF : fitsS ⟨root, rules⟩ (.mk id kind text kids) = (okS ⟨root, rules⟩ && okT (.mk id kind text kids) && decide (kind = root) && fitsT rules (.mk id kind text kids)) := rfl
  generalize fitsS ⟨root, rules⟩ (.mk id kind text kids) = res at *
  generalize okS ⟨root, rules⟩ = b1 at *
  generalize okT (.mk id kind text kids) = b2 at *
  simp only at f3
  generalize fitsT rules (.mk id kind text kids) = b3 at *
  simp only [Sc.cells, T.cells, T.kindOf] at f1 f2 f3 hF ⊢
  generalize T.rows kids = trows at *
  generalize rws Ru.cells rules = rows at *
  refine pure_of_awp good Tryd.func9 rfl (by kernel_rfl) (by decide) ?_
  conv => whnf
  refine .inl (f1.mono ?_)
  rintro r rfl
  cases b1 with
  | false =>
    conv => whnf
    rw [hF]; rfl
  | true =>
    conv => whnf
    refine .inl (f2.mono ?_)
    rintro r rfl
    cases b2 with
    | false =>
      conv => whnf
      rw [hF]; rfl
    | true =>
      conv => whnf
      by_cases hk : kind = root
      · rw [eqS_t hk]
        rw [decide_eq_true hk] at hF
        conv => whnf
        refine .inl (f3.mono ?_)
        rintro r rfl
        conv => whnf
        rw [hF]; rfl
      · rw [eqS_f hk]
        rw [decide_eq_false hk] at hF
        conv => whnf
        rw [hF]; rfl
theorem ok_things {t : T} (h : okT t = true) (rs : List Ru) : fitsT rs t = (spT t 0 1).all fun s => thing20 rs s.1 := by
  have hl : t.ids.length ≤ 20 := by
    unfold okT at h
    simp only [Bool.and_eq_true, decide_eq_true_eq] at h
    exact h.2
  rw [fitsT_sp rs t 0 1]
  have key : ∀ l : List Sp, (∀ s ∈ l, s.1.kids.length ≤ 20) → (l.all fun s => thingF rs s.1) = l.all fun s => thing20 rs s.1 := by
    intro l
    induction l with
    | nil => intro _; rfl
    | cons a l ih =>
      intro h
      simp only [List.all_cons]
      rw [thing20_eq rs a.1 (h a (by simp)), ih fun s hs => h s (by simp [hs])]
  exact key _ fun s hs => by have := sp_kids t 0 1 s hs; omega
set_option maxHeartbeats 8000000 in
theorem implSchemaFits_pure (s : Sc) (hs : s.Sm) (t : T) (ht : t.Small) : Pure Tryd.prog 12 [.agg s.cells, .agg t.cells] (· = .bool (fitsS s t)) := by
  have f1 := implSchemaOk_pure s hs
  have f2 := implTreeOk t ht
  have f3 := fun (sp : Sp) (h : sp ∈ spT t 0 1) => thingFault_pure s hs sp.1 (spT_small t 0 1 ht sp h)
  have hsp := treeSpots_full t
  have hcl := treeSpots1_full t ht _ (okbT_takes t)
  have hot := fun h => ok_things (t := t) h s.rules
  have hbox : boxT t = ⟨[t.cells], 4, true, true, true, .cell⟩ := rfl
  have hobt : okbT t = fun log vs => ∃ pre s suf, spT t 0 1 = pre ++ s :: suf ∧ log = spRows pre ∧ vs = [spV s] := rfl
  generalize okbT t = okb at *
  generalize spT t 0 1 = sps at *
  obtain ⟨root, rules⟩ := s
  cases t with
  | mk id kind text kids =>
  have hF : fitsS ⟨root, rules⟩ (.mk id kind text kids) = (okS ⟨root, rules⟩ && okT (.mk id kind text kids) && decide (kind = root) && fitsT rules (.mk id kind text kids)) := rfl
  generalize fitsS ⟨root, rules⟩ (.mk id kind text kids) = res at *
  generalize okS ⟨root, rules⟩ = b1 at *
  generalize okT (.mk id kind text kids) = b2 at *
  simp only at hot f3
  generalize fitsT rules (.mk id kind text kids) = b3 at *
  simp only [Sc.cells, T.kindOf] at f1 f3 hF ⊢
  generalize rws Ru.cells rules = rows at *
  refine pure_of_awp good Tryd.func12 rfl (by kernel_rfl) (by decide) ?_
  conv => whnf
  refine .inl (f1.mono ?_)
  rintro r rfl
  cases b1 with
  | false =>
    conv => whnf
    rw [hF]; rfl
  | true =>
    conv => whnf
    refine .inl (f2.mono ?_)
    rintro r rfl
    cases b2 with
    | false =>
      conv => whnf
      rw [hF]; rfl
    | true =>
      conv => whnf
      by_cases hk : kind = root
      case neg =>
        rw [eqS_f hk]
        rw [decide_eq_false hk] at hF
        conv => whnf
        rw [hF]; rfl
      rw [eqS_t hk]
      rw [decide_eq_true hk] at hF
      have hF : res = b3 := by rw [hF]; rfl
      have hot := hot rfl
      conv => whnf
      refine .inr (.inl ⟨[], false, ?_⟩)
      conv => whnf
      refine hsp.mono ?_
      rintro o st' ⟨rfl, rfl⟩
      conv => whnf
      refine ⟨[3], false, okb, fun log st' => ((sps.take log.length).all fun s => thing20 rules s.1) = true ∧ st' = [⟨[[.str root, .sl rows]], 2, true, true, true, .cell⟩, ⟨[(T.mk id kind text kids).cells], 4, true, true, true, .cell⟩, ⟨[[.bool false]], 1, true, true, true, .cell⟩, ⟨[(T.mk id kind text kids).cells], 4, false, true, true, .cell⟩], ?_⟩
      conv => whnf
      refine ⟨⟨by simp, rfl⟩, ?_, ?_⟩
      · rintro log vs st' ⟨hall, rfl⟩ ho
        rw [hobt] at ho
        obtain ⟨pre, s, suf, rfl, rfl, rfl⟩ := ho
        have htk : (pre ++ s :: suf).take (spRows pre).length = pre := by rw [spRows_len]; simp
        have htk1 : (pre ++ s :: suf).take (spRows pre ++ [[spV s]]).length = pre ++ [s] := by rw [List.length_append, spRows_len]; show List.take (pre.length + 1) _ = _; rw [List.take_append, List.take_of_length_le (by omega)]; simp
        rw [htk] at hall
        refine ⟨rfl, ?_⟩
        have f3 := f3 s (by simp)
        have hno : thing20 rules s.1 = false → res = false := fun h => by
          rw [hF, hot, List.all_append, List.all_cons, h]; simp
        have hyes : thing20 rules s.1 = true → ((pre ++ [s]).all fun s => thing20 rules s.1) = true := fun h => by
          rw [List.all_append, hall]; simp [h]
        obtain ⟨⟨id', kind', text', kids'⟩, ov, lv⟩ := s
        simp only [T.cells] at f3
        generalize thing20 rules (T.mk id' kind' text' kids') = tb at *
        conv => whnf
        refine .inl (f3.mono ?_)
        intro r hr
        cases tb with
        | false =>
          obtain ⟨a, rfl⟩ : isErr r := hr
          conv => whnf
          rw [hno rfl]
        | true =>
          obtain rfl : r = nilErr := hr
          conv => whnf
          refine ⟨some [0, 1, 2, 3], ?_⟩
          conv => whnf
          rw [htk1]
          exact ⟨hyes rfl, rfl⟩
      · refine hcl.mono ?_
        rintro o st' ⟨r, b, log', rfl, rfl, hl⟩
        refine ⟨_, _, _, rfl, rfl, fun hb st' hI => ?_⟩
        obtain ⟨hall, rfl⟩ := hI
        rw [hl hb, List.take_of_length_le (by rw [spRows_len]; omega)] at hall
        conv => whnf
        rw [hF, hot, hall]
end Go.Cod

set_option linter.all false
namespace Go.Cod
variable [Adr]
open Go Go.Proofs Go.ChangeShapes Go.WideShapes Go.ChangeAt Go.RowKit
set_option maxRecDepth 10000

omit [Adr] in
theorem ownK : ownKnob Tryd.prog.godebug = none := by kernel_rfl
theorem argTree {H : Type} {enc : TypeId × Value → H} {W : World} : ReadsA enc Tryd.prog W 27 fun x => ∃ vs, x = .agg vs ∧ ∃ t : T, vs = t.cells ∧ t.Ok := readsA_agg Tryd.underlying27 fun n => reads_tree n
set_option maxHeartbeats 8000000 in
theorem lawFnExactSchemaFits (s : Sc) (hs : s.Ok) (t : T) (ht : t.Ok) : Pure Tryd.prog 3 [.agg s.cells, .agg t.cells] (· = .bool true) := by
  have hsz := szSchema_pure s hs 1048576 (by omega) (by omega)
  have hle := szSc_le s 1048576 (by omega)
  have hsm := szSc_small s 1048576 (by omega) (by omega)
  have hs2 := szT_pure t ht (szSc s 1048576)
  have hsm2 := small_of_sz t ht (szSc s 1048576)
  have hid := ids_sz t (szSc s 1048576)
  have hsl := szT_le t (szSc s 1048576)
  have f1 := toSchema_pure s
  have g1 := toTree_pure t
  have f2 := fun h h2 => specSchemaFits_pure s h t h2
  have f3 := fun h h2 => implSchemaFits_pure s h t h2
  have f4 := eqSchema_pure s
  have g4 := eqTree_pure t
  generalize szT t (szSc s 1048576) = left2 at *
  generalize szSc s 1048576 = left at *
  generalize fitsS s t = w at *
  obtain ⟨root, rules⟩ := s
  cases t with
  | mk id kind text kids =>
  simp only [Sc.cells, T.cells] at hsz hs2 f1 g1 f2 f3 f4 g4 ⊢
  generalize rws Ru.cells rules = rows at *
  generalize T.rows kids = trows at *
  refine pure_of_awp good Tryd.func3 rfl (by kernel_rfl) (by decide) ?_
  conv => whnf
  refine .inl (hsz.mono ?_)
  rintro r rfl
  conv => whnf
  by_cases a1 : left < 0
  · rw [ltB_t a1]
    conv => whnf
  rw [ltB_f (by omega)]
  have hs2 := hs2 (by omega) (by omega)
  conv => whnf
  refine .inl (hs2.mono ?_)
  rintro r rfl
  conv => whnf
  by_cases a2 : left2 < 0
  · rw [ltB_t a2]
    conv => whnf
  rw [ltB_f (by omega)]
  have hS := hsm (by omega)
  have hS2 := hsm2 (by omega) (by omega)
  have hid := hid (by omega)
  have f1 := f1 hS
  have g1 := g1 hS2
  have f2 := f2 hS hS2 (by omega)
  have f3 := f3 hS hS2
  have f4 := f4 hS
  have g4 := g4 hS2
  conv => whnf
  repeat (first
    | (refine ⟨_, .inl f1, ?_⟩
       conv => whnf)
    | (refine ⟨_, .inl g1, ?_⟩
       conv => whnf)
    | (refine ⟨_, .inl f2, ?_⟩
       conv => whnf))
  refine .inl (f1.mono ?_)
  rintro r rfl
  conv => whnf
  refine .inl (g1.mono ?_)
  rintro r rfl
  conv => whnf
  refine .inl (f3.mono ?_)
  rintro r rfl
  cases w
  all_goals
    conv => whnf
    refine ⟨_, .inl f1, ?_⟩
    conv => whnf
    refine ⟨_, .inl f4, ?_⟩
    conv => whnf
    refine ⟨_, .inl g1, ?_⟩
    conv => whnf
    refine ⟨_, .inl g4, ?_⟩
    conv => whnf
omit [Adr]
theorem conFnExactSchemaFits (H : Type) (enc : TypeId × Value → H) (W : World) (base : Nat) (args : Array Value) (ds gs : List (DataW H)) (before : List MemPlace)
    (hval : ∀ (j : Nat) t v, Tryd.f3.params[j]? = some t → args[j]? = some v → Value.okWide Tryd.prog W .any base t v)
    (hW : DataW.Whole enc Tryd.prog Tryd.f3.params.toList YtdcjfdjfacfigaaDoor.Rows.fnExactSchemaFitsSpec.vars false W args.toList ds gs before) (hL : laidMetH Tryd.prog YtdcjfdjfacfigaaDoor.Rows.fnExactSchemaFitsRow.laid W) {fresh handsOn again : Bool} :
    Calls Tryd.prog 3 args W fun e W' => ∃ v, e = .returned v ∧ YtdcjfdjfacfigaaDoor.Rows.fnExactSchemaFitsSpec.post enc Tryd.prog Tryd.f3 false fresh handsOn again W args v W' := by
  have hm : laidMet Tryd.prog YtdcjfdjfacfigaaDoor.Rows.fnExactSchemaFitsRow.laid W := by
    rw [← MakeChecks.laidMetH_plain _ _ _ (by kernel_rfl)]; exact hL
  obtain ⟨⟨a0, c0, l0⟩, hm⟩ := laid_err hm (g := 0) (by kernel_rfl) (by kernel_rfl)
  obtain ⟨⟨a3, c3, l3⟩, hm⟩ := laid_err hm (g := 3) (by kernel_rfl) (by kernel_rfl)
  obtain ⟨⟨a4, c4, l4⟩, hm⟩ := laid_err hm (g := 4) (by kernel_rfl) (by kernel_rfl)
  obtain ⟨⟨a5, c5, l5⟩, hm⟩ := laid_err hm (g := 5) (by kernel_rfl) (by kernel_rfl)
  obtain ⟨⟨a1, c1, l1⟩, hm⟩ := laid_err hm (g := 1) (by kernel_rfl) (by kernel_rfl)
  obtain ⟨⟨a2, c2, l2⟩, hm⟩ := laid_err hm (g := 2) (by kernel_rfl) (by kernel_rfl)
  letI A : Adr := ⟨fun g => match g with | 0 => a0 | 3 => a3 | 4 => a4 | 5 => a5 | 1 => a1 | 2 => a2 | _ => default⟩
  have hlaid : Laid (oldP W) W := by
    intro g cs h
    match g, h with
    | 0, h => cases h; exact rep_var c0 l0 rfl
    | 3, h => cases h; exact rep_var c3 l3 rfl
    | 4, h => cases h; exact rep_var c4 l4 rfl
    | 5, h => cases h; exact rep_var c5 l5 rfl
    | 1, h => cases h; exact rep_var c1 l1 rfl
    | 2, h => cases h; exact rep_var c2 l2 rfl
    | g + 6, h => cases h
  refine law_callsV kids full globals_ok (tb := 4) rfl Tryd.underlying4 (by decide +kernel) hW (fun ds gs h h' => by match ds, gs, h, h' with | [_, _], [_, _, _, _, _, _], _, _ => exact ⟨rfl, rfl, rfl⟩) hval
    (Ss := [fun x => ∃ vs, x = .agg vs ∧ ∃ c : Sc, vs = c.cells ∧ c.Ok, fun x => ∃ vs, x = .agg vs ∧ ∃ t : T, vs = t.cells ∧ t.Ok]) hlaid ?_ ?_
  · rw [Tryd.params3]
    exact ⟨argSchema, argTree, trivial⟩
  · intro xs h
    obtain ⟨_, _, rfl, ⟨_, rfl, t0, rfl, h0⟩, ⟨_, rfl, t1, rfl, h1⟩⟩ := hold2 h
    exact lawFnExactSchemaFits t0 h0 t1 h1

theorem doorFnExactSchemaFits (os : Os) (args : Array Value) : laidMetH Tryd.prog YtdcjfdjfacfigaaDoor.Rows.fnExactSchemaFitsRow.laid ((World.doorLaid Tryd.prog 400 os).forCall (fun _ _ => 0) ⟨#[], args, []⟩).memory :=
  laidMetH_of_parts3 (fuel := 8) (laidMet_of_run' 8 (by kernel_rfl) (by kernel_rfl)) (by kernel_rfl) (by kernel_rfl)

set_option maxRecDepth 100000 in
theorem rowFnExactSchemaFits : YtdcjfdjfacfigaaDoor.Rows.FnExactSchemaFitsSaid :=
  OpenClaim.holds_of_wide 3 Tryd.f3 rfl rfl rfl rfl rfl rfl rfl ⟨rfl, rfl, rfl, rfl, rfl⟩ rfl rfl rfl rfl rfl (by kernel_rfl) Tryd.func3 (by kernel_rfl)
    (of_decide_eq_true (by kernel_rfl)) (by unfold Func.isWrapper; first | (rw [if_pos (by decide +kernel)]; kernel_rfl) | (rw [if_neg (by decide +kernel)]; exact ⟨rfl, rfl⟩))
    (fun os started H enc _ => returnsInHanded_of_change_and (C := Tryd.checked) (X := fun w _ => laidMetH Tryd.prog YtdcjfdjfacfigaaDoor.Rows.fnExactSchemaFitsRow.laid w) (fun _ _ _ hh h => h.of_heap hh) ownK started (by kernel_rfl) Tryd.func3
      (ChangeSpec.witness_shaped (enc := enc) (C := Tryd.checked) (os := os) (X := fun w _ => laidMetH Tryd.prog YtdcjfdjfacfigaaDoor.Rows.fnExactSchemaFitsRow.laid w) false (World.doorLaid Tryd.prog 400 os) #[.agg #[.string "".toByteArray, .slice none 0 0], .agg #[.int .i64 0, .string "".toByteArray, .string "".toByteArray, .slice none 0 0]] 8 rfl (World.shaped_of_RefB (by kernel_rfl) (by kernel_rfl)) (by kernel_rfl) (by kernel_rfl) (by kernel_rfl) (doorFnExactSchemaFits os _))
      (fun W base args ds gs before hval hW _ _ hL _ => conFnExactSchemaFits H enc W base args ds gs before hval hW hL))

set_option maxRecDepth 100000 in
theorem overFnExactSchemaFits : YtdcjfdjfacfigaaDoor.Rows.FnExactSchemaFitsCardSaid :=
  Claim7.holds_tied_plain_at .later [] [.sentinel, .sentinel, .sentinel, .sentinel, .sentinel, .sentinel] true (true, "d3c5a406adcfc4ae328274bc5704b8576fe02ec4d4eb126704f578be3ce02a2e") true
    rowFnExactSchemaFits (fun _ h => by cases h) (by kernel_rfl) (fun _ h => by cases h) YtdcjfdjfacfigaaDoor.fnExactSchemaFits_row_tie rfl ⟨rfl, rfl⟩ (by kernel_rfl) rfl
    (fun f fn hf hfn => by
      obtain rfl : f = 3 := Option.some.inj ((show Tryd.prog.funcNamed "loop.example/codicil/laws.FnExactSchemaFits" = some 3 by kernel_rfl).symm.trans hf) |>.symm
      obtain rfl : fn = Tryd.f3 := (Option.some.inj (Tryd.func3.symm.trans hfn)).symm
      exact ⟨by kernel_rfl, fun j t ht => by
        rw [Tryd.params3] at ht
        have hm : t ∈ ([24, 27] : List Nat) := by simpa using Array.mem_of_getElem? ht
        have hall : (([24, 27] : List Nat).all fun u => !Tryd.prog.wantsStandIn u) = true := by kernel_rfl
        exact (show Tryd.prog.wantsStandIn t = false by simpa using List.all_eq_true.1 hall t hm)⟩)
    (by kernel_rfl)
end Go.Cod

