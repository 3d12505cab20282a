import Derived.Test.YtbekcgbmahcliaaDoorChecked
import Derived.Test.YtbekcgbmahcliaaDoorRows
import Derived.WalkKit
import Derived.ProofKit
import Derived.OpenShut
import Derived.JoinedOf
import Derived.Handed
import Derived.Test.YtbekcgbmahcliaaDoorCodD
set_option linter.all false
namespace Go.Cod
open Go Go.Proofs
instance lam0:Lam:=⟨fun g=>match g with
 | 0=>some (tabCells .u64 [1,10,100,1000,10000,100000,1000000,10000000,100000000,1000000000,10000000000,100000000000,1000000000000,10000000000000,100000000000000,1000000000000000,10000000000000000,100000000000000000,1000000000000000000,10000000000000000000])
 | _=>none,fun g=>false,fun g=>false,fun g=>false,fun g=>false⟩
def tauL:List (Nat × TI):=[
 (1,⟨.other,1,8,.raw .nilFunc,[],[],false⟩),
 (2,⟨.int .i64,1,8,.int .i64 0,[],[],false⟩),
 (3,⟨.int .i64,1,8,.int .i64 0,[],[],false⟩),
 (4,⟨.bool,1,1,.bool false,[],[],false⟩),
 (5,⟨.int .u8,1,1,.int .u8 0,[],[],false⟩),
 (6,⟨.int .u8,1,1,.int .u8 0,[],[],false⟩),
 (7,⟨.agg,4,24,.agg [.int .i64 0,.int .i64 0,.bool false,.int .u8 0],[(0,1,false),(1,1,false),(2,1,false),(3,1,false)],[],false⟩),
 (8,⟨.agg,4,24,.agg [.int .i64 0,.int .i64 0,.bool false,.int .u8 0],[(0,1,false),(1,1,false),(2,1,false),(3,1,false)],[],false⟩),
 (9,⟨.str,1,16,.str [],[],[],false⟩),
 (10,⟨.str,1,16,.str [],[],[],false⟩),
 (11,⟨.str,1,16,.str [],[],[],false⟩),
 (12,⟨.int .u64,1,8,.int .u64 0,[],[],false⟩),
 (13,⟨.agg,2,24,.agg [.str [],.int .u64 0],[(0,1,false),(1,1,false)],[],false⟩),
 (14,⟨.agg,2,24,.agg [.str [],.int .u64 0],[(0,1,false),(1,1,false)],[],false⟩),
 (15,⟨.ptr,1,8,.raw (.pointer none),[],[],false⟩),
 (16,⟨.ptr,1,8,.raw (.pointer none),[],[],false⟩),
 (17,⟨.ptr,1,8,.raw (.pointer none),[],[],false⟩),
 (18,⟨.agg,1,8,.agg [.raw (.pointer none)],[(0,1,false)],[],false⟩),
 (19,⟨.agg,1,8,.agg [.raw (.pointer none)],[(0,1,false)],[],false⟩),
 (20,⟨.iface,1,16,.raw .nilIface,[],[],false⟩),
 (21,⟨.int .i32,1,4,.int .i32 0,[],[],false⟩),
 (22,⟨.slice 5,1,24,.nils,[],[],false⟩),
 (23,⟨.slice 30,1,24,.nils,[],[],false⟩),
 (24,⟨.other,1,8,.raw .nilFunc,[],[],false⟩),
 (25,⟨.other,1,8,.raw .nilFunc,[],[],false⟩),
 (26,⟨.slice 28,1,24,.nils,[],[],false⟩),
 (27,⟨.agg,4,64,.agg [.int .i64 0,.str [],.str [],.nils],[(0,1,false),(1,1,false),(2,1,false),(3,1,false)],[],false⟩),
 (28,⟨.agg,4,64,.agg [.int .i64 0,.str [],.str [],.nils],[(0,1,false),(1,1,false),(2,1,false),(3,1,false)],[],false⟩),
 (29,⟨.agg,8,104,.agg [.int .i64 0,.int .i64 0,.int .i64 0,.int .i64 0,.str [],.str [],.nils,.str []],[(0,1,false),(1,1,false),(2,1,false),(3,4,true),(7,1,false)],[],false⟩),
 (30,⟨.agg,8,104,.agg [.int .i64 0,.int .i64 0,.int .i64 0,.int .i64 0,.str [],.str [],.nils,.str []],[(0,1,false),(1,1,false),(2,1,false),(3,4,true),(7,1,false)],[],false⟩),
 (31,⟨.other,1,8,.raw .nilFunc,[],[],false⟩),
 (32,⟨.slice 67,1,24,.nils,[],[],false⟩),
 (33,⟨.other,1,8,.raw .nilFunc,[],[],false⟩),
 (34,⟨.other,1,8,.raw .nilFunc,[],[],false⟩),
 (35,⟨.other,1,8,.raw .nilFunc,[],[],false⟩),
 (36,⟨.other,1,8,.raw .nilFunc,[],[],false⟩),
 (37, ⟨.ptr, 1, 8, .raw (.pointer none), [], [("loop.example/codicil/spec.of", 30), ("loop.example/codicil/spec.pick", 13)], false⟩),
 (38,⟨.other,1,8,.raw .nilFunc,[],[],false⟩),
 (40,⟨.other,1,8,.raw .nilFunc,[],[],false⟩),
 (41,⟨.other,1,8,.raw .nilFunc,[],[],false⟩),
 (42,⟨.other,1,8,.raw .nilFunc,[],[],false⟩),
 (43,⟨.ptr,1,8,.raw (.pointer none),[],[],false⟩),
 (44,⟨.agg,2,32,.agg [.raw (.pointer none),.nils],[(0,1,false),(1,1,false)],[],false⟩),
 (45,⟨.agg,2,32,.agg [.raw (.pointer none),.nils],[(0,1,false),(1,1,false)],[],false⟩),
 (46,⟨.iface,1,16,.raw .nilIface,[],[],false⟩),
 (47,⟨.iface,1,16,.raw .nilIface,[],[],false⟩),
 (49,⟨.other,1,8,.raw .nilFunc,[],[],false⟩),
 (50,⟨.iface,1,16,.raw .nilIface,[],[],false⟩),
 (51,⟨.iface,1,16,.raw .nilIface,[],[],false⟩),
 (53,⟨.other,1,8,.raw .nilFunc,[],[],false⟩),
 (54,⟨.other,1,8,.raw .nilFunc,[],[],false⟩),
 (55,⟨.other,1,8,.raw .nilFunc,[],[],false⟩),
 (56,⟨.other,1,8,.raw .nilFunc,[],[],false⟩),
 (57,⟨.other,1,8,.raw .nilFunc,[],[],false⟩),
 (58,⟨.other,1,8,.raw .nilFunc,[],[],false⟩),
 (59,⟨.slice 9,1,24,.nils,[],[],false⟩),
 (60,⟨.other,1,8,.raw .nilFunc,[],[],false⟩),
 (61,⟨.other,1,8,.raw .nilFunc,[],[],false⟩),
 (62,⟨.other,1,8,.raw .nilFunc,[],[],false⟩),
 (63,⟨.slice 65,1,24,.nils,[],[],false⟩),
 (64,⟨.agg,4,64,.agg [.int .i64 0,.str [],.str [],.nils],[(0,1,false),(1,1,false),(2,1,false),(3,1,false)],[],false⟩),
 (65,⟨.agg,4,64,.agg [.int .i64 0,.str [],.str [],.nils],[(0,1,false),(1,1,false),(2,1,false),(3,1,false)],[],false⟩),
 (66,⟨.agg,8,104,.agg [.int .i64 0,.int .i64 0,.int .i64 0,.int .i64 0,.str [],.str [],.nils,.str []],[(0,1,false),(1,1,false),(2,1,false),(3,4,true),(7,1,false)],[],false⟩),
 (67,⟨.agg,8,104,.agg [.int .i64 0,.int .i64 0,.int .i64 0,.int .i64 0,.str [],.str [],.nils,.str []],[(0,1,false),(1,1,false),(2,1,false),(3,4,true),(7,1,false)],[],false⟩),
 (68,⟨.other,1,8,.raw .nilFunc,[],[],false⟩),
 (69,⟨.other,1,8,.raw .nilFunc,[],[],false⟩),
 (70,⟨.agg,2,32,.agg [.nils,.int .i64 0],[(0,1,false),(1,1,false)],[],false⟩),
 (71,⟨.agg,2,32,.agg [.nils,.int .i64 0],[(0,1,false),(1,1,false)],[],false⟩),
 (72,⟨.other,1,8,.raw .nilFunc,[],[],false⟩),
 (73,⟨.other,1,8,.raw .nilFunc,[],[],false⟩),
 (74,⟨.ptr,1,8,.raw (.pointer none),[],[],false⟩),
 (76,⟨.other,1,8,.raw .nilFunc,[],[],false⟩),
 (77,⟨.slice 3,1,24,.nils,[],[],false⟩),
 (78,⟨.other,1,8,.raw .nilFunc,[],[],false⟩),
 (79,⟨.agg,6,80,.agg [.int .i64 0,.int .i64 0,.int .i64 0,.str [],.str [],.nils],[(0,1,false),(1,1,false),(2,4,true)],[],false⟩),
 (80, ⟨.agg, 6, 80, .agg [.int .i64 0, .int .i64 0, .int .i64 0, .str [], .str [], .nils], [(0, 1, false), (1, 1, false), (2, 4, true)], [("loop.example/codicil/impl.do", 100), ("loop.example/codicil/impl.undo", 101)], false⟩),
 (81,⟨.agg,1,8,.agg [.int .i64 0],[(0,1,false)],[],false⟩),
 (82, ⟨.agg, 1, 8, .agg [.int .i64 0], [(0, 1, false)], [("loop.example/codicil/impl.do", 102), ("loop.example/codicil/impl.undo", 103)], false⟩),
 (83,⟨.agg,2,24,.agg [.int .i64 0,.str []],[(0,1,false),(1,1,false)],[],false⟩),
 (84, ⟨.agg, 2, 24, .agg [.int .i64 0, .str []], [(0, 1, false), (1, 1, false)], [("loop.example/codicil/impl.do", 104), ("loop.example/codicil/impl.undo", 105)], false⟩),
 (85,⟨.agg,2,24,.agg [.int .i64 0,.str []],[(0,1,false),(1,1,false)],[],false⟩),
 (86, ⟨.agg, 2, 24, .agg [.int .i64 0, .str []], [(0, 1, false), (1, 1, false)], [("loop.example/codicil/impl.do", 106), ("loop.example/codicil/impl.undo", 107)], false⟩),
 (87,⟨.ptr,1,8,.raw (.pointer none),[],[],false⟩),
 (88,⟨.other,1,8,.raw .nilFunc,[],[],false⟩),
 (89,⟨.other,1,8,.raw .nilFunc,[],[],false⟩),
 (90,⟨.other,1,8,.raw .nilFunc,[],[],false⟩),
 (91,⟨.other,1,8,.raw .nilFunc,[],[],false⟩),
 (92,⟨.other,1,8,.raw .nilFunc,[],[],false⟩),
 (93,⟨.other,1,8,.raw .nilFunc,[],[],false⟩),
 (94,⟨.other,1,8,.raw .nilFunc,[],[],false⟩),
 (95,⟨.other,1,8,.raw .nilFunc,[],[],false⟩),
 (96,⟨.other,1,8,.raw .nilFunc,[],[],false⟩),
 (97,⟨.other,1,8,.raw .nilFunc,[],[],false⟩),
 (98,⟨.other,1,8,.raw .nilFunc,[],[],false⟩),
 (99,⟨.other,1,8,.raw .nilFunc,[],[],false⟩),
 (100,⟨.other,1,8,.raw .nilFunc,[],[],false⟩),
 (101,⟨.other,1,8,.raw .nilFunc,[],[],false⟩),
 (102,⟨.map 3 4,1,8,.raw (.map none),[],[],false⟩),
 (103,⟨.other,1,8,.raw .nilFunc,[],[],false⟩),
 (104,⟨.other,1,8,.raw .nilFunc,[],[],false⟩),
 (105,⟨.other,1,8,.raw .nilFunc,[],[],false⟩),
 (106,⟨.agg,6,80,.agg [.int .i64 0,.str [],.str [],.nils,.int .i64 0,.int .i64 0],[(0,4,true),(4,1,false),(5,1,false)],[],false⟩),
 (107,⟨.agg,6,80,.agg [.int .i64 0,.str [],.str [],.nils,.int .i64 0,.int .i64 0],[(0,4,true),(4,1,false),(5,1,false)],[],false⟩),
 (109,⟨.other,1,8,.raw .nilFunc,[],[],false⟩),
 (110,⟨.iface,1,16,.raw .nilIface,[],[],false⟩),
 (111,⟨.iface,1,16,.raw .nilIface,[],[],false⟩),
 (112,⟨.other,1,8,.raw .nilFunc,[],[],false⟩),
 (113,⟨.other,1,8,.raw .nilFunc,[],[],false⟩),
 (114,⟨.other,1,8,.raw .nilFunc,[],[],false⟩),
 (115,⟨.other,1,8,.raw .nilFunc,[],[],false⟩),
 (116,⟨.other,1,8,.raw .nilFunc,[],[],false⟩),
 (117,⟨.other,1,8,.raw .nilFunc,[],[],false⟩),
 (118,⟨.other,1,8,.raw .nilFunc,[],[],false⟩),
 (119,⟨.other,1,8,.raw .nilFunc,[],[],false⟩),
 (120,⟨.slice 126,1,24,.nils,[],[],false⟩),
 (121,⟨.agg,2,40,.agg [.str [],.nils],[(0,1,false),(1,1,false)],[],false⟩),
 (122,⟨.agg,2,40,.agg [.str [],.nils],[(0,1,false),(1,1,false)],[],false⟩),
 (123,⟨.other,1,8,.raw .nilFunc,[],[],false⟩),
 (124,⟨.slice 129,1,24,.nils,[],[],false⟩),
 (125,⟨.agg,3,48,.agg [.str [],.bool false,.nils],[(0,1,false),(1,1,false),(2,1,false)],[],false⟩),
 (126,⟨.agg,3,48,.agg [.str [],.bool false,.nils],[(0,1,false),(1,1,false),(2,1,false)],[],false⟩),
 (127,⟨.other,1,8,.raw .nilFunc,[],[],false⟩),
 (128,⟨.agg,3,24,.agg [.str [],.bool false,.bool false],[(0,1,false),(1,1,false),(2,1,false)],[],false⟩),
 (129,⟨.agg,3,24,.agg [.str [],.bool false,.bool false],[(0,1,false),(1,1,false),(2,1,false)],[],false⟩),
 (130,⟨.other,1,8,.raw .nilFunc,[],[],false⟩),
 (131,⟨.other,1,8,.raw .nilFunc,[],[],false⟩),
 (132,⟨.other,1,8,.raw .nilFunc,[],[],false⟩),
 (133,⟨.other,1,8,.raw .nilFunc,[],[],false⟩),
 (134,⟨.other,1,8,.raw .nilFunc,[],[],false⟩),
 (135,⟨.agg,3,40,.agg [.str [],.int .i64 0,.str []],[(0,1,false),(1,1,false),(2,1,false)],[],false⟩),
 (136, ⟨.agg, 3, 40, .agg [.str [], .int .i64 0, .str []], [(0, 1, false), (1, 1, false), (2, 1, false)], [("loop.example/codicil/impl.written", 108)], false⟩),
 (137,⟨.agg,4,64,.agg [.str [],.int .i64 0,.str [],.nils],[(0,3,true),(3,1,false)],[],false⟩),
 (138, ⟨.agg, 4, 64, .agg [.str [], .int .i64 0, .str [], .nils], [(0, 3, true), (3, 1, false)], [("loop.example/codicil/impl.written", 109)], false⟩),
 (139,⟨.agg,24,24,.agg [.int .u8 0,.int .u8 0,.int .u8 0,.int .u8 0,.int .u8 0,.int .u8 0,.int .u8 0,.int .u8 0,.int .u8 0,.int .u8 0,.int .u8 0,.int .u8 0,.int .u8 0,.int .u8 0,.int .u8 0,.int .u8 0,.int .u8 0,.int .u8 0,.int .u8 0,.int .u8 0,.int .u8 0,.int .u8 0,.int .u8 0,.int .u8 0],[],[],false⟩),
 (140,⟨.int .u64,1,8,.int .u64 0,[],[],false⟩),
 (141,⟨.other,1,8,.raw .nilFunc,[],[],false⟩),
 (142,⟨.other,1,8,.raw .nilFunc,[],[],false⟩),
 (144,⟨.other,1,8,.raw .nilFunc,[],[],false⟩),
 (145,⟨.other,1,8,.raw .nilFunc,[],[],false⟩),
 (146,⟨.agg,20,160,.agg [.int .u64 0,.int .u64 0,.int .u64 0,.int .u64 0,.int .u64 0,.int .u64 0,.int .u64 0,.int .u64 0,.int .u64 0,.int .u64 0,.int .u64 0,.int .u64 0,.int .u64 0,.int .u64 0,.int .u64 0,.int .u64 0,.int .u64 0,.int .u64 0,.int .u64 0,.int .u64 0],[],[],false⟩),
 (147,⟨.int .u32,1,4,.int .u32 0,[],[],false⟩),
 (148,⟨.agg,65,65,.agg [.int .u8 0,.int .u8 0,.int .u8 0,.int .u8 0,.int .u8 0,.int .u8 0,.int .u8 0,.int .u8 0,.int .u8 0,.int .u8 0,.int .u8 0,.int .u8 0,.int .u8 0,.int .u8 0,.int .u8 0,.int .u8 0,.int .u8 0,.int .u8 0,.int .u8 0,.int .u8 0,.int .u8 0,.int .u8 0,.int .u8 0,.int .u8 0,.int .u8 0,.int .u8 0,.int .u8 0,.int .u8 0,.int .u8 0,.int .u8 0,.int .u8 0,.int .u8 0,.int .u8 0,.int .u8 0,.int .u8 0,.int .u8 0,.int .u8 0,.int .u8 0,.int .u8 0,.int .u8 0,.int .u8 0,.int .u8 0,.int .u8 0,.int .u8 0,.int .u8 0,.int .u8 0,.int .u8 0,.int .u8 0,.int .u8 0,.int .u8 0,.int .u8 0,.int .u8 0,.int .u8 0,.int .u8 0,.int .u8 0,.int .u8 0,.int .u8 0,.int .u8 0,.int .u8 0,.int .u8 0,.int .u8 0,.int .u8 0,.int .u8 0,.int .u8 0,.int .u8 0],[],[],false⟩),
 (149,⟨.other,1,8,.raw .nilFunc,[],[],false⟩),
 (150,⟨.int .u64,1,8,.int .u64 0,[],[],false⟩),
 (151,⟨.other,1,8,.raw .nilFunc,[],[],false⟩),
 (152,⟨.other,1,8,.raw .nilFunc,[],[],false⟩),
 (153,⟨.agg,32,32,.agg [.int .u8 0,.int .u8 0,.int .u8 0,.int .u8 0,.int .u8 0,.int .u8 0,.int .u8 0,.int .u8 0,.int .u8 0,.int .u8 0,.int .u8 0,.int .u8 0,.int .u8 0,.int .u8 0,.int .u8 0,.int .u8 0,.int .u8 0,.int .u8 0,.int .u8 0,.int .u8 0,.int .u8 0,.int .u8 0,.int .u8 0,.int .u8 0,.int .u8 0,.int .u8 0,.int .u8 0,.int .u8 0,.int .u8 0,.int .u8 0,.int .u8 0,.int .u8 0],[],[],false⟩),
 (154,⟨.agg,64,64,.agg [.int .u8 0,.int .u8 0,.int .u8 0,.int .u8 0,.int .u8 0,.int .u8 0,.int .u8 0,.int .u8 0,.int .u8 0,.int .u8 0,.int .u8 0,.int .u8 0,.int .u8 0,.int .u8 0,.int .u8 0,.int .u8 0,.int .u8 0,.int .u8 0,.int .u8 0,.int .u8 0,.int .u8 0,.int .u8 0,.int .u8 0,.int .u8 0,.int .u8 0,.int .u8 0,.int .u8 0,.int .u8 0,.int .u8 0,.int .u8 0,.int .u8 0,.int .u8 0,.int .u8 0,.int .u8 0,.int .u8 0,.int .u8 0,.int .u8 0,.int .u8 0,.int .u8 0,.int .u8 0,.int .u8 0,.int .u8 0,.int .u8 0,.int .u8 0,.int .u8 0,.int .u8 0,.int .u8 0,.int .u8 0,.int .u8 0,.int .u8 0,.int .u8 0,.int .u8 0,.int .u8 0,.int .u8 0,.int .u8 0,.int .u8 0,.int .u8 0,.int .u8 0,.int .u8 0,.int .u8 0,.int .u8 0,.int .u8 0,.int .u8 0,.int .u8 0],[],[],false⟩),
 (155,⟨.agg,4,40,.agg [.raw (.pointer none),.raw (.pointer none),.raw (.pointer none),.str []],[(0,1,false),(1,1,false),(2,1,false),(3,1,false)],[],false⟩),
 (156,⟨.agg,4,40,.agg [.raw (.pointer none),.raw (.pointer none),.raw (.pointer none),.str []],[(0,1,false),(1,1,false),(2,1,false),(3,1,false)],[],false⟩),
 (160,⟨.other,1,8,.raw .nilFunc,[],[],false⟩),
 (161,⟨.int .u8,1,1,.int .u8 0,[],[],false⟩),
 (162,⟨.int .u8,1,1,.int .u8 0,[],[],false⟩),
 (163,⟨.other,1,8,.raw .nilFunc,[],[],false⟩),
 (164,⟨.int .i32,1,4,.int .i32 0,[],[],false⟩),
 (165,⟨.int .i32,1,4,.int .i32 0,[],[],false⟩),
 (166,⟨.agg,11,48,.agg [.int .u64 0,.int .u64 0,.int .u32 0,.int .u8 0,.int .u8 0,.int .u8 0,.int .u8 0,.raw .nilFunc,.raw (.pointer none),.int .i32 0,.int .i32 0],[(0,1,false),(1,1,false),(2,1,false),(3,1,false),(4,1,false),(5,1,false),(6,1,false),(7,1,false),(8,1,false),(9,1,false),(10,1,false)],[],false⟩),
 (167,⟨.agg,11,48,.agg [.int .u64 0,.int .u64 0,.int .u32 0,.int .u8 0,.int .u8 0,.int .u8 0,.int .u8 0,.raw .nilFunc,.raw (.pointer none),.int .i32 0,.int .i32 0],[(0,1,false),(1,1,false),(2,1,false),(3,1,false),(4,1,false),(5,1,false),(6,1,false),(7,1,false),(8,1,false),(9,1,false),(10,1,false)],[],false⟩),
 (168,⟨.other,1,8,.raw .nilFunc,[],[],false⟩),
 (169,⟨.other,1,8,.raw .nilFunc,[],[],false⟩),
 (170,⟨.other,1,8,.raw .nilFunc,[],[],false⟩),
 (171,⟨.other,1,8,.raw .nilFunc,[],[],false⟩),
 (172,⟨.other,1,8,.raw .nilFunc,[],[],false⟩),
 (173,⟨.ptr,1,8,.raw (.pointer none),[],[],false⟩)]
set_option maxRecDepth 100000 in
theorem good:TauGood Tryd.prog (tauOf tauL):=tauGood (by kernel_rfl) (by kernel_rfl) (by decide)
end Go.Cod
set_option linter.all false
namespace Go.Cod
open Go Go.Proofs
set_option maxRecDepth 10000
theorem l1In_pure (a b c:Int):Pure Tryd.prog 20 [.int .i64 a,.int .i64 b,.int .i64 c] (·=.bool (decide (b≤a∧a≤c))):=by
 refine pure_of_awp good Tryd.func20 rfl (by kernel_rfl) (by decide) ?_
 conv=>whnf
 by_cases h1:b≤a
 · rw [leB_t h1]
   conv=>whnf
   simp [h1,leB_def]
 · rw [leB_f (by omega)]
   conv=>whnf
   simp [h1]
def lowerB (c:UInt8):Bool:=decide (97≤c.toNat∧c.toNat≤122)
def lower (s:List UInt8):Bool:=s.all lowerB
def nameL (s:List UInt8):Bool:=lower s&&decide (1≤(s.length:Int)∧(s.length:Int)≤8)
theorem take_all {p:UInt8→Bool} {s:List UInt8} {i:Nat} (h:i < s.length):(s.take (i+1)).all p=((s.take i).all p&&p s[i]):=by
 rw [List.take_succ_eq_append_getElem h,List.all_append]; simp
theorem l2Name_pure (s:List UInt8) (hs:s.length≤9223372036854775806):Pure Tryd.prog 55 [.str s] (·=.bool (nameL s)):=by
 refine pure_of_awp good Tryd.func55 rfl (by kernel_rfl) (by decide) ?_
 conv=>whnf
 refine loop_intro (fun n fr st=>st=[]∧∃ i:Nat,n+i=s.length∧lower (s.take i)=true∧Holds fr [(0,.str s),(3,.int .i64 i)]) s.length ⟨rfl,0,rfl,rfl,rfl,rfl,trivial⟩ ?_
 rintro n fr st ⟨rfl,i,hi,hlow,hh⟩
 obtain ⟨fr,rfl⟩:=hh.split
 clear hh
 conv=>whnf
 by_cases hlt:i < s.length
 · rw [ltB_t (by omega)]
   have hstep:=take_all (p:=lowerB) hlt
   conv=>whnf
   refine ⟨by omega,s[i],by simp [hlt],?_⟩
   conv=>whnf
   by_cases h1:(97:Int)≤(s[i].toNat:Int)
   · rw [ltB_f (by omega)]
     conv=>whnf
     refine ⟨by omega,s[i],by simp [hlt],?_⟩
     conv=>whnf
     by_cases h2:(s[i].toNat:Int)≤122
     · rw [ltB_f (by omega)]
       conv=>whnf
       refine ⟨n - 1,by omega,rfl,i+1,by omega,?_,?_⟩
       · unfold lower at *; rw [hstep,hlow]; simp [lowerB]; omega
       · refine ⟨rfl,?_,trivial⟩
         show V.int .i64 (IntKind.i64.wrap (i+1))=_
         rw [wrap64 (by omega) (by omega)]; simp
     · rw [ltB_t (by omega)]
       conv=>whnf
       have hf:lower s=false:=by
        unfold lower
        rw [List.all_eq_false]
        exact ⟨s[i],List.getElem_mem _,by simp only [lowerB,decide_eq_true_eq]; omega⟩
       simp only [nameL,hf,Bool.false_and]
   · rw [ltB_t (by omega)]
     conv=>whnf
     have hf:lower s=false:=by
      unfold lower
      rw [List.all_eq_false]
      exact ⟨s[i],List.getElem_mem _,by simp only [lowerB,decide_eq_true_eq]; omega⟩
     simp only [nameL,hf,Bool.false_and]
 · rw [ltB_f (by omega)]
   conv=>whnf
   refine .inl ((l1In_pure _ _ _).mono ?_)
   rintro r rfl
   conv=>whnf
   have:s.take i=s:=List.take_of_length_le (by omega)
   rw [this] at hlow
   simp [nameL,hlow]
end Go.Cod
set_option linter.all false
namespace Go.Cod
open Go Go.Proofs Go.ChangeShapes Go.WideShapes Go.ChangeAt Go.RowKit
set_option maxRecDepth 10000
inductive T where
 | mk (id:Int) (kind text:List UInt8) (kids:List T)
mutual
def T.cells:T→List V
 | .mk id kind text kids=>[.int .i64 id,.str kind,.str text,.sl (T.rows kids)]
def T.rows:List T→List (List V)
 | []=>[]
 | t::ts=>t.cells::T.rows ts
end
theorem T.rows_eq (ts:List T):T.rows ts=ts.map T.cells:=by
 induction ts with
 | nil=>rfl
 | cons t ts ih=>simp [T.rows,ih]
theorem kids:Kids Tryd.prog (· < Tryd.prog.types.size):=kids_rows (by kernel_rfl) (by kernel_rfl)
theorem full:∀ t e,t < Tryd.prog.types.size→Tryd.prog.underlying t=some (.slice e)→0 < Tryd.prog.cellsOf e:=slices_full_of Tryd.prog (by kernel_rfl)
end Go.Cod
set_option linter.all false
namespace Go.Cod
open Go Go.Proofs
set_option maxRecDepth 10000
def T.kids:T→List T
 | .mk _ _ _ kids=>kids
theorem rows_get (ts:List T) (i:Nat) (h:i < ts.length):(T.rows ts)[i]? = some ts[i].cells:=by
 rw [T.rows_eq]; simp [h]
theorem rows_len (ts:List T):(T.rows ts).length=ts.length:=by rw [T.rows_eq]; simp
theorem cells_len (t:T):t.cells.length=4:=by cases t; rfl
end Go.Cod
set_option linter.all false
namespace Go.Cod
open Go Go.Proofs
set_option maxRecDepth 10000
inductive T.Small:T→Prop
 | mk {id kind text kids} (h1:-9223372036854775808≤id∧id≤9223372036854775807) (h2:kind.length≤1048576) (h3:text.length≤1048576) (h4:kids.length≤1048576) (h5:∀ t∈kids,T.Small t):T.Small (.mk id kind text kids)
def zrow:List V:=[.int .i64 0,.str [],.str [],.nils]
end Go.Cod
set_option linter.all false
namespace Go.Cod
open Go Go.Proofs
set_option maxRecDepth 10000
theorem eqB_refl (a:Int):eqB a a=true:=by rw [eqB_def]; simp
theorem eqS_refl (a:List UInt8):eqS a a=true:=by rw [eqS_def]; simp
end Go.Cod
set_option linter.all false
namespace Go.Cod
open Go Go.Proofs
set_option maxRecDepth 10000
def irows (ns:List Int):List (List V):=ns.map fun n=>[.int .i64 n]
theorem irows_len (ns:List Int):(irows ns).length=ns.length:=by simp [irows]
theorem irows_get (ns:List Int) (i:Nat) (h:i < ns.length):(irows ns)[i]? = some [.int .i64 ns[i]]:=by simp [irows,h]
theorem l2Has_pure (ns:List Int) (x:Int) (hl:ns.length≤9223372036854775806):Pure Tryd.prog 38 [.sl (irows ns),.int .i64 x] (·=.bool (decide (x∈ns))):=by
 have hlr:=irows_len ns
 refine pure_of_awp good Tryd.func38 rfl (by kernel_rfl) (by decide) ?_
 conv=>whnf
 refine loop_intro (fun n fr st=>∃ i:Nat,n+i=ns.length∧st=[]∧x∉ns.take i∧Holds fr [(0,.sl (irows ns)),(1,.int .i64 x),(5,.int .i64 i)]) ns.length
  ⟨0,rfl,rfl,by simp,rfl,rfl,rfl,trivial⟩ ?_
 rintro n fr st ⟨i,hi,rfl,hx,hh⟩
 obtain ⟨fr,rfl⟩:=hh.split
 clear hh
 conv=>whnf
 by_cases hlt:i < ns.length
 · rw [ltB_t (by omega)]
   conv=>whnf
   refine ⟨by omega,irows ns,_,1,rfl,irows_get ns i hlt,rfl,rfl,?_⟩
   conv=>whnf
   by_cases he:ns[i]=x
   · rw [eqB_t he]
     conv=>whnf
     have:x∈ns:=he ▸ List.getElem_mem _
     simp [this]
   · rw [eqB_f he]
     conv=>whnf
     refine ⟨n - 1,by omega,i+1,by omega,rfl,?_,rfl,rfl,?_,trivial⟩
     · rw [List.take_succ_eq_append_getElem hlt]
       simp only [List.mem_append,List.mem_singleton,not_or]
       exact ⟨hx,fun h=>he h.symm⟩
     · show V.int .i64 (IntKind.i64.wrap (i+1))=_
       rw [wrap64 (by omega) (by omega)]; simp
 · rw [ltB_f (by omega)]
   conv=>whnf
   rw [List.take_of_length_le (by omega)] at hx
   simp [hx]
mutual
def T.ids:T→List Int
 | .mk id _ _ kids=>id::T.idsL kids
def T.idsL:List T→List Int
 | []=>[]
 | t::ts=>t.ids++T.idsL ts
end
theorem idsL_append (a b:List T):T.idsL (a++b)=T.idsL a++T.idsL b:=by
 induction a with
 | nil=>rfl
 | cons x xs ih=>simp [T.idsL,ih]
theorem idsL_take (ts:List T) (i:Nat) (h:i < ts.length):T.idsL (ts.take (i+1))=T.idsL (ts.take i)++ts[i].ids:=by
 rw [List.take_succ_eq_append_getElem h,idsL_append]; simp [T.idsL]
def textB (c:UInt8):Bool:=decide (32≤c.toNat∧c.toNat≤126∧c.toNat≠34)
def textL (s:List UInt8):Bool:=s.all textB&&decide ((s.length:Int)≤12)
theorem l2Text_pure (s:List UInt8) (hs:s.length≤9223372036854775806):Pure Tryd.prog 56 [.str s] (·=.bool (textL s)):=by
 have hno:∀ (i:Nat) (h:i < s.length),textB s[i]=false→textL s=false:=by
  intro i h hb
  have:s.all textB=false:=by rw [List.all_eq_false]; exact ⟨s[i],List.getElem_mem _,by simp [hb]⟩
  simp only [textL,this,Bool.false_and]
 refine pure_of_awp good Tryd.func56 rfl (by kernel_rfl) (by decide) ?_
 conv=>whnf
 refine loop_intro (fun n fr st=>st=[]∧∃ i:Nat,n+i=s.length∧(s.take i).all textB=true∧Holds fr [(0,.str s),(3,.int .i64 i)]) s.length ⟨rfl,0,rfl,rfl,rfl,rfl,trivial⟩ ?_
 rintro n fr st ⟨rfl,i,hi,hlow,hh⟩
 obtain ⟨fr,rfl⟩:=hh.split
 clear hh
 conv=>whnf
 by_cases hlt:i < s.length
 · rw [ltB_t (by omega)]
   have hstep:=take_all (p:=textB) hlt
   have hn:=hno i hlt
   conv=>whnf
   refine ⟨by omega,s[i],by simp [hlt],?_⟩
   conv=>whnf
   by_cases h1:(s[i].toNat:Int) < 32
   · rw [ltB_t h1]
     conv=>whnf
     rw [hn (by simp only [textB,decide_eq_false_iff_not]; omega)]
   rw [ltB_f (by omega)]
   conv=>whnf
   refine ⟨by omega,s[i],by simp [hlt],?_⟩
   conv=>whnf
   by_cases h2:(126:Int) < s[i].toNat
   · rw [ltB_t h2]
     conv=>whnf
     rw [hn (by simp only [textB,decide_eq_false_iff_not]; omega)]
   rw [ltB_f (by omega)]
   conv=>whnf
   refine ⟨by omega,s[i],by simp [hlt],?_⟩
   conv=>whnf
   by_cases h3:(s[i].toNat:Int)=34
   · rw [eqB_t h3]
     conv=>whnf
     rw [hn (by simp only [textB,decide_eq_false_iff_not]; omega)]
   rw [eqB_f h3]
   conv=>whnf
   refine ⟨n - 1,by omega,rfl,i+1,by omega,?_,rfl,?_,trivial⟩
   · rw [hstep,hlow]; simp only [textB,Bool.true_and,decide_eq_true_eq]; omega
   · show V.int .i64 (IntKind.i64.wrap (i+1))=_
     rw [wrap64 (by omega) (by omega)]; simp
 · rw [ltB_f (by omega)]
   conv=>whnf
   rw [List.take_of_length_le (by omega)] at hlow
   show V.bool (leB _ _)=_
   simp [textL,hlow,leB_def]
end Go.Cod
set_option linter.all false
namespace Go.Cod
open Go Go.Proofs
set_option maxRecDepth 10000
mutual
def plainT:T→Int→Bool
 | .mk id kind text kids,lv=>!decide (6 < lv)&&decide (1≤id∧id≤999)&&nameL kind&&textL text&&plainL kids (lv+1)
def plainL:List T→Int→Bool
 | [],_=>true
 | t::ts,lv=>plainT t lv&&plainL ts lv
end
theorem plainL_eq (ts:List T) (lv:Int):plainL ts lv=ts.all fun t=>plainT t lv:=by
 induction ts with
 | nil=>rfl
 | cons t ts ih=>simp [plainL,ih]
theorem l2Plain_pure1 (t:T) (hs:t.Small) (lv:Int) (h0:0≤lv) (h7:lv≤1000) (hT:lv≤6→∀ t'∈t.kids,Pure Tryd.prog 36 [.agg t'.cells,.int .i64 (lv+1)] (·=.bool (plainT t' (lv+1)))) :
  Pure Tryd.prog 36 [.agg t.cells,.int .i64 lv] (·=.bool (plainT t lv)):=by
 cases hs with
 | @mk id kind text kids g1 g2 g3 g4 g5 =>
 simp only [T.kids] at hT
 have hlr:=rows_len kids
 refine pure_of_awp good Tryd.func36 rfl (by kernel_rfl) (by decide) ?_
 conv=>whnf
 by_cases a1:6 < lv
 · rw [ltB_t a1]
   conv=>whnf
   simp [plainT,a1]
 rw [ltB_f (by omega)]
 conv=>whnf
 refine .inl ((l1In_pure _ _ _).mono ?_)
 rintro r rfl
 by_cases a2:1≤id∧id≤999
 case neg =>
  rw [decide_eq_false a2]
  conv=>whnf
  simp [plainT,a2]
 rw [decide_eq_true a2]
 conv=>whnf
 refine .inl ((l2Name_pure kind (by omega)).mono ?_)
 rintro r rfl
 cases a3:nameL kind
 · conv=>whnf
   simp [plainT,a3]
 conv=>whnf
 refine .inl ((l2Text_pure text (by omega)).mono ?_)
 rintro r rfl
 cases a4:textL text
 · conv=>whnf
   simp [plainT,a4]
 conv=>whnf
 have hp:plainT (.mk id kind text kids) lv=plainL kids (lv+1):=by simp [plainT,a1,a2,a3,a4]
 rw [plainL_eq] at hp
 refine loop_intro (fun n fr st=>∃ i:Nat,n+i=kids.length∧st=[⟨[[.int .i64 id,.str kind,.str text,.sl (T.rows kids)]],4,true,true,true,.cell⟩]∧(kids.take i).all (fun t=>plainT t (lv+1))=true∧Holds fr [(1,.int .i64 lv),(2,.ptr 0 0 0),(5,.int .i64 i)]) kids.length
  ⟨0,rfl,rfl,rfl,rfl,rfl,rfl,trivial⟩ ?_
 rintro n fr st ⟨i,hi,rfl,hx,hh⟩
 obtain ⟨fr,rfl⟩:=hh.split
 clear hh
 conv=>whnf
 by_cases hlt:i < kids.length
 · rw [ltB_t (by omega)]
   conv=>whnf
   refine ⟨by omega,T.rows kids,kids[i].cells,4,rfl,rows_get kids i hlt,rfl,cells_len _,?_⟩
   have hc:=hT (by omega) kids[i] (List.getElem_mem _)
   have hst:(kids.take (i+1)).all (fun t=>plainT t (lv+1))=plainT kids[i] (lv+1):=by
    rw [List.take_succ_eq_append_getElem hlt,List.all_append,hx]; simp
   have hno:plainT kids[i] (lv+1)=false→kids.all (fun t=>plainT t (lv+1))=false:=by
    intro h; rw [List.all_eq_false]; exact ⟨kids[i],List.getElem_mem _,by simp [h]⟩
   generalize kids[i]=t at hc hst hno ⊢
   cases t with
   | mk id' kind' text' kids' =>
   conv=>whnf
   rw [wrap64 (by omega) (by omega)]
   refine .inl (hc.mono ?_)
   rintro r rfl
   cases a5:plainT (.mk id' kind' text' kids') (lv+1)
   · conv=>whnf
     rw [hp,hno a5]
   conv=>whnf
   refine ⟨n - 1,by omega,i+1,by omega,rfl,by rw [hst,a5],rfl,rfl,?_,trivial⟩
   show V.int .i64 (IntKind.i64.wrap (i+1))=_
   rw [wrap64 (by omega) (by omega)]; simp
 · rw [ltB_f (by omega)]
   conv=>whnf
   rw [List.take_of_length_le (by omega)] at hx
   rw [hp,hx]
theorem l2Plain_pure (t:T) (hs:t.Small):∀ lv:Int,0≤lv→lv≤1000→Pure Tryd.prog 36 [.agg t.cells,.int .i64 lv] (·=.bool (plainT t lv)):=by
 induction hs with
 | @mk id kind text kids g1 g2 g3 g4 g5 ih =>
   intro lv h0 h7
   exact l2Plain_pure1 _ (.mk g1 g2 g3 g4 g5) lv h0 h7 fun h t' ht'=>ih t' ht' (lv+1) (by omega) (by omega)
end Go.Cod
set_option linter.all false
namespace Go.Cod
open Go Go.Proofs
set_option maxRecDepth 10000
theorem idsL_split (ts:List T) (i:Nat):T.idsL ts=T.idsL (ts.take i)++T.idsL (ts.drop i):=by
 induction ts generalizing i with
 | nil=>simp [T.idsL]
 | cons t ts ih=>cases i with
   | zero=>simp [T.idsL]
   | succ i=>simp only [List.take_succ_cons,List.drop_succ_cons,T.idsL,List.append_assoc]; rw [← ih i]
theorem irows_wid (l:List Int):∀ m∈irows l,m.length=1:=by simp [irows]
theorem l2Ids_pure1 (t:T) (hs:t.Small) (hn:t.ids.length≤1048577) (hT:∀ t'∈t.kids,(t'.ids).length≤1048577→Pure Tryd.prog 37 [.agg t'.cells] (·=.sl (irows (t'.ids)))) :
  Pure Tryd.prog 37 [.agg t.cells] (·=.sl (irows t.ids)):=by
 cases hs with
 | @mk id kind text kids g1 g2 g3 g4 g5 =>
 simp only [T.kids,T.ids,List.length_cons] at hT hn ⊢
 have hlr:=rows_len kids
 refine pure_of_awp good Tryd.func37 rfl (by kernel_rfl) (by decide) ?_
 conv=>whnf
 refine loop_drop (fun n fr st=>∃ i:Nat,n+i=kids.length∧st=[⟨[[.int .i64 id,.str kind,.str text,.sl (T.rows kids)]],4,true,true,true,.cell⟩,⟨irows (id::T.idsL (kids.take i)),1,true,true,false,.cell⟩]∧Holds fr [(1,.ptr 0 0 0),(3,.own 1),(4,.int .i64 i)]) kids.length none
  ⟨0,rfl,rfl,rfl,rfl,rfl,trivial⟩ ?_
 rintro n fr st ⟨i,hi,rfl,hh⟩
 obtain ⟨fr,rfl⟩:=hh.split
 clear hh
 conv=>whnf
 by_cases hlt:i < kids.length
 · rw [ltB_t (by omega)]
   conv=>whnf
   refine ⟨by omega,T.rows kids,kids[i].cells,4,rfl,rows_get kids i hlt,rfl,cells_len _,?_⟩
   have hsp:=idsL_split kids (i+1)
   have htk:=idsL_take kids i hlt
   have hl1:(T.idsL kids).length=(T.idsL (kids.take (i+1))).length+(T.idsL (kids.drop (i+1))).length:=by rw [hsp]; simp
   have hl2:(T.idsL (kids.take (i+1))).length=(T.idsL (kids.take i)).length+(kids[i].ids).length:=by rw [htk]; simp
   have hc:=hT kids[i] (List.getElem_mem _) (by omega)
   generalize kids[i]=t at hc htk hl2 ⊢
   cases t with
   | mk id' kind' text' kids' =>
   conv=>whnf
   refine .inl (hc.mono ?_)
   rintro r rfl
   conv=>whnf
   refine ⟨irows_wid _,?_⟩
   conv=>whnf
   refine ⟨by rw [irows_len,irows_len]; show (_+_)*8≤_; simp only [List.length_cons]; omega,?_⟩
   conv=>whnf
   refine ⟨n - 1,by omega,some [0,2],?_⟩
   conv=>whnf
   refine ⟨i+1,by omega,?_,rfl,rfl,?_,trivial⟩
   · show [_,_]=[_,_]
     rw [htk]
     simp only [irows,List.map_cons,List.map_append]
     rfl
   · show V.int .i64 (IntKind.i64.wrap (i+1))=_
     rw [wrap64 (by omega) (by omega)]; simp
 · rw [ltB_f (by omega)]
   conv=>whnf
   rw [List.take_of_length_le (by omega)]
theorem l2Ids_pure (t:T) (hs:t.Small):t.ids.length≤1048577→Pure Tryd.prog 37 [.agg t.cells] (·=.sl (irows t.ids)):=by
 induction hs with
 | @mk id kind text kids g1 g2 g3 g4 g5 ih =>
   intro hn
   exact l2Ids_pure1 _ (.mk g1 g2 g3 g4 g5) hn fun t' ht' h=>ih t' ht' h
theorem nodup_take {l:List Int} {i:Nat} (h:i < l.length):(l.take (i+1)).Nodup↔(l.take i).Nodup∧l[i]∉l.take i:=by
 rw [List.take_succ_eq_append_getElem h,List.nodup_append]
 simp
 intro _
 constructor
 · intro h h2; exact h _ h2 rfl
 · intro h a ha e; exact h (e ▸ ha)
def okT (t:T):Bool:=plainT t 1&&decide t.ids.Nodup&&decide (t.ids.length≤20)
theorem specTreeOk_pure (t:T) (hs:t.Small) (hn:t.ids.length≤1048577):Pure Tryd.prog 21 [.agg t.cells] (·=.bool (okT t)):=by
 have hp:=l2Plain_pure t hs 1 (by omega) (by omega)
 have hi:=l2Ids_pure t hs hn
 have hok:okT t=(plainT t 1&&decide t.ids.Nodup&&decide (t.ids.length≤20)):=rfl
 generalize okT t=ok at *
 generalize plainT t 1=pl at *
 generalize t.ids=ids at *
 cases t with
 | mk id kind text kids =>
 refine pure_of_awp good Tryd.func21 rfl (by kernel_rfl) (by decide) ?_
 conv=>whnf
 refine .inl (hp.mono ?_)
 rintro r rfl
 cases pl
 · conv=>whnf
   simp at hok; rw [hok]
 conv=>whnf
 refine .inl (hi.mono ?_)
 rintro r rfl
 conv=>whnf
 refine loop_intro (fun n fr st=>∃ i:Nat,n+i=ids.length∧st=[⟨[[.int .i64 id,.str kind,.str text,.sl (T.rows kids)]],4,true,true,true,.cell⟩]∧(ids.take i).Nodup∧Holds fr [(3,.sl (irows ids)),(4,.int .i64 i)]) ids.length
  ⟨0,rfl,rfl,by simp,rfl,rfl,trivial⟩ ?_
 rintro n fr st ⟨i,hi,rfl,hx,hh⟩
 obtain ⟨fr,rfl⟩:=hh.split
 clear hh
 conv=>whnf
 have hlr:=irows_len ids
 by_cases hlt:i < ids.length
 · rw [ltB_t (by omega)]
   conv=>whnf
   refine ⟨irows_wid _,?_⟩
   conv=>whnf
   refine ⟨by omega,by show Int.toNat (i:Int)≤_; rw [hlr]; omega,rfl,?_⟩
   conv=>whnf
   refine ⟨by omega,irows ids,_,1,rfl,irows_get ids i hlt,rfl,rfl,?_⟩
   conv=>whnf
   have hcut:((irows ids).take (Int.toNat (i:Int))).drop 0=irows (ids.take i):=by simp [irows]
   have hc:=l2Has_pure (ids.take i) ids[i] (by simp; omega)
   rw [← hcut] at hc
   refine ⟨_,.inl hc,?_⟩
   have hnd:=nodup_take hlt
   by_cases hm:ids[i]∈ids.take i
   · rw [decide_eq_true hm]
     conv=>whnf
     have:¬ ids.Nodup:=fun h=>(hnd.1 (h.sublist (List.take_sublist _ _))).2 hm
     simp [this] at hok; rw [hok]
   · rw [decide_eq_false hm]
     conv=>whnf
     refine ⟨n - 1,by omega,i+1,by omega,rfl,hnd.2 ⟨hx,hm⟩,rfl,?_,trivial⟩
     show V.int .i64 (IntKind.i64.wrap (i+1))=_
     rw [wrap64 (by omega) (by omega)]; simp
 · rw [ltB_f (by omega)]
   conv=>whnf
   rw [List.take_of_length_le (by omega)] at hx
   simp only [hx,decide_true,Bool.true_and,Bool.and_true] at hok
   rw [hok,leB_def,hlr]
   congr 1
   exact decide_eq_decide.2 (by omega)
end Go.Cod
set_option linter.all false
namespace Go.Cod
open Go Go.Proofs
set_option maxRecDepth 10000
theorem textHasOnly_pure (s:List UInt8) (hs:s.length≤9223372036854775806) (g:Nat) (p:UInt8→Bool) (hp:∀ b:UInt8,Pure Tryd.prog g [cellB b] (·=.bool (p b))) :
  Pure Tryd.prog 69 [.str s,.fn g []] (·=.bool (s.all p)):=by
 refine pure_of_awp good Tryd.func69 rfl (by kernel_rfl) (by decide) ?_
 conv=>whnf
 refine loop_intro (fun n fr st=>st=[]∧∃ i:Nat,n+i=s.length∧(s.take i).all p=true∧Holds fr [(0,.str s),(1,.fn g []),(7,.int .i64 s.length),(8,.int .i64 i)]) s.length ⟨rfl,0,rfl,rfl,rfl,rfl,rfl,rfl,trivial⟩ ?_
 rintro n fr st ⟨rfl,i,hi,hx,hh⟩
 obtain ⟨fr,rfl⟩:=hh.split
 clear hh
 conv=>whnf
 by_cases hlt:i < s.length
 · rw [ltB_t (by omega)]
   conv=>whnf
   refine ⟨by omega,s[i],by simp [hlt],?_⟩
   conv=>whnf
   have hst:=take_all (p:=p) hlt
   have hno:p s[i]=false→s.all p=false:=by
    intro h; rw [List.all_eq_false]; exact ⟨s[i],List.getElem_mem _,by simp [h]⟩
   refine .inl ((hp s[i]).mono ?_)
   rintro r rfl
   cases a:p s[i]
   · conv=>whnf
     rw [hno a]
   conv=>whnf
   refine ⟨n - 1,by omega,rfl,i+1,by omega,by rw [hst,hx,a]; rfl,rfl,rfl,rfl,?_,trivial⟩
   show V.int .i64 (IntKind.i64.wrap (i+1))=_
   rw [wrap64 (by omega) (by omega)]; simp
 · rw [ltB_f (by omega)]
   conv=>whnf
   rw [List.take_of_length_le (by omega)] at hx
   rw [hx]
theorem isLetter_pure (b:UInt8):Pure Tryd.prog 72 [cellB b] (·=.bool (lowerB b)):=by
 refine pure_of_awp good Tryd.func72 rfl (by kernel_rfl) (by decide) ?_
 conv=>whnf
 by_cases h1:(97:Int)≤(b.toNat:Int)
 · rw [leB_t (by omega)]
   conv=>whnf
   congr 1
   rw [leB_def,lowerB]
   exact decide_eq_decide.2 (by omega)
 · rw [leB_f (by omega)]
   conv=>whnf
   have:lowerB b=false:=by unfold lowerB; simp; omega
   rw [this]
theorem isTreeText_pure (b:UInt8):Pure Tryd.prog 70 [cellB b] (·=.bool (textB b)):=by
 refine pure_of_awp good Tryd.func70 rfl (by kernel_rfl) (by decide) ?_
 conv=>whnf
 by_cases h1:(32:Int)≤(b.toNat:Int)
 · rw [leB_t (by omega)]
   conv=>whnf
   by_cases h2:(b.toNat:Int)≤126
   · rw [leB_t (by omega)]
     conv=>whnf
     congr 1
     rw [eqB_def]
     have:negB (decide ((b.toNat:Int)=34))=decide (b.toNat≠34):=by
      by_cases h:b.toNat=34
      · simp [h,negB]
      · have:¬ (b.toNat:Int)=34:=by omega
        simp [h,this,negB]
     rw [this,textB]
     exact decide_eq_decide.2 (by omega)
   · rw [leB_f (by omega)]
     conv=>whnf
     have:textB b=false:=by unfold textB; simp; omega
     rw [this]
 · rw [leB_f (by omega)]
   conv=>whnf
   have:textB b=false:=by unfold textB; simp; omega
   rw [this]
theorem nameOk_pure (s:List UInt8) (hs:s.length≤9223372036854775806):Pure Tryd.prog 68 [.str s] (·=.bool (nameL s)):=by
 refine pure_of_awp good Tryd.func68 rfl (by kernel_rfl) (by decide) ?_
 conv=>whnf
 by_cases h1:(1:Int)≤(s.length:Int)
 case neg =>
  rw [leB_f (by omega)]
  conv=>whnf
  simp [nameL]; omega
 rw [leB_t (by omega)]
 conv=>whnf
 by_cases h2:(s.length:Int)≤8
 case neg =>
  rw [leB_f (by omega)]
  conv=>whnf
  simp [nameL]; omega
 rw [leB_t (by omega)]
 conv=>whnf
 refine .inl ((textHasOnly_pure s hs _ lowerB isLetter_pure).mono ?_)
 rintro r rfl
 conv=>whnf
 simp [nameL,lower,h1,h2]
def thingB (id:Int) (kind text:List UInt8):Bool:=decide (1≤id∧id≤999)&&nameL kind&&textL text
theorem treeThingOk_pure (id:Int) (kind text:List UInt8) (kids:List T) (h2:kind.length≤9223372036854775806) (h3:text.length≤9223372036854775806) :
  Pure Tryd.prog 51 [.agg (T.mk id kind text kids).cells] (·=.bool (thingB id kind text)):=by
 refine pure_of_awp good Tryd.func51 rfl (by kernel_rfl) (by decide) ?_
 conv=>whnf
 by_cases a1:1≤id
 case neg =>
  rw [leB_f (by omega)]
  conv=>whnf
  simp [thingB]; omega
 rw [leB_t (by omega)]
 conv=>whnf
 by_cases a2:id≤999
 case neg =>
  rw [leB_f (by omega)]
  conv=>whnf
  simp [thingB]; omega
 rw [leB_t (by omega)]
 conv=>whnf
 refine .inl ((nameOk_pure kind (by omega)).mono ?_)
 rintro r rfl
 cases a3:nameL kind
 · conv=>whnf
   simp [thingB,a3]
 conv=>whnf
 by_cases a4:(text.length:Int)≤12
 case neg =>
  rw [leB_f (by omega)]
  conv=>whnf
  simp [thingB,textL]; omega
 rw [leB_t (by omega)]
 conv=>whnf
 refine .inl ((textHasOnly_pure text (by omega) _ textB isTreeText_pure).mono ?_)
 rintro r rfl
 conv=>whnf
 simp [thingB,textL,a1,a2,a3,a4]
end Go.Cod
set_option linter.all false
namespace Go.Cod
open Go Go.Proofs
set_option maxRecDepth 10000
abbrev Sp:=T × Int × Int
def spV (s:Sp):V:=.agg (s.1.cells++[.int .i64 s.2.1,.int .i64 s.2.2])
mutual
def spT:T→Int→Int→List Sp
 | .mk id kind text kids,ov,lv=>(.mk id kind text kids,ov,lv)::spL kids id (IntKind.i64.wrap (lv+1))
def spL:List T→Int→Int→List Sp
 | [],_,_=>[]
 | t::ts,ov,lv=>spT t ov lv++spL ts ov lv
end
theorem spL_append (a b:List T) (ov lv:Int):spL (a++b) ov lv=spL a ov lv++spL b ov lv:=by
 induction a with
 | nil=>rfl
 | cons t ts ih=>simp [spL,ih]
def spRows (l:List Sp):List (List V):=l.map fun s=>[spV s]
theorem spRows_append (a b:List Sp):spRows (a++b)=spRows a++spRows b:=by simp [spRows]
def Takes (ok:OkY) (log:List (List V)) (l:List Sp):Prop:=∀ pre v suf,l=pre++v::suf→ok (log++spRows pre) [spV v]
theorem Takes.left {ok:OkY} {log:List (List V)} {a b:List Sp} (h:Takes ok log (a++b)):Takes ok log a:=fun pre v suf e=>h pre v (suf++b) (by rw [e]; simp)
theorem Takes.right {ok:OkY} {log:List (List V)} {a b:List Sp} (h:Takes ok log (a++b)):Takes ok (log++spRows a) b:=fun pre v suf e=>by
 have:=h (a++pre) v suf (by rw [e]; simp)
 rwa [spRows_append,← List.append_assoc] at this
def Walked (log:List (List V)) (l:List Sp) (o:Out) (st':St):Prop:=∃ b log',o=.ret (.bool b)∧st'=[logO log' b]∧(b=true→log'=log++spRows l)
theorem treeWalk_full1 (t:T) (hs:t.Small) (ov lv:Int) (ok:OkY) (log:List (List V)) (hok:Takes ok log (spT t ov lv))
  (hT:∀ t'∈t.kids,∀ (ov lv:Int) (log:List (List V)),Takes ok log (spT t' ov lv)→Full Tryd.prog ok 67 [spV (t',ov,lv),.yld 0] [logO log true] (Walked log (spT t' ov lv))) :
  Full Tryd.prog ok 67 [spV (t,ov,lv),.yld 0] [logO log true] (Walked log (spT t ov lv)):=by
 cases hs with
 | @mk id kind text kids g1 g2 g3 g4 g5 =>
 simp only [T.kids] at hT
 have hlr:=rows_len kids
 have hok0:ok log [spV (.mk id kind text kids,ov,lv)]:=by simpa [spRows] using hok [] _ _ rfl
 have hokL:Takes ok (log++[[spV (.mk id kind text kids,ov,lv)]]) (spL kids id (IntKind.i64.wrap (lv+1))):=Takes.right (a:=[(.mk id kind text kids,ov,lv)]) hok
 refine full_of_awp good Tryd.func67 rfl (by kernel_rfl) (by decide) ?_
 conv=>whnf
 refine ⟨hok0,?_⟩
 intro b
 have hfin:log++[[spV (.mk id kind text kids,ov,lv)]]++spRows (spL kids id (IntKind.i64.wrap (lv+1)))=log++spRows (spT (.mk id kind text kids) ov lv):=by simp [spT,spRows]
 cases b
 · conv=>whnf
   refine ⟨[],false,?_⟩
   conv=>whnf
   exact ⟨false,_,rfl,rfl,by simp⟩
 conv=>whnf
 refine loop_drop (fun n fr st=>∃ i:Nat,n+i=kids.length∧st=[logO (log++[[spV (.mk id kind text kids,ov,lv)]]++spRows (spL (kids.take i) id (IntKind.i64.wrap (lv+1)))) true,⟨[[.int .i64 id,.str kind,.str text,.sl (T.rows kids),.int .i64 ov,.int .i64 lv]],6,true,true,true,.cell⟩]∧Holds fr [(1,.yld 0),(2,.ptr 1 0 0),(13,.sl (T.rows kids)),(14,.int .i64 kids.length),(15,.int .i64 i)]) kids.length none
  ⟨0,rfl,by show [_,_]=[logO (_++[]) true,_]; rw [List.append_nil]; rfl,rfl,rfl,rfl,by rw [← hlr]; rfl,rfl,trivial⟩ ?_
 rintro n fr st ⟨i,hi,rfl,hh⟩
 obtain ⟨fr,rfl⟩:=hh.split
 clear hh
 conv=>whnf
 by_cases hlt:i < kids.length
 · rw [ltB_t (by omega)]
   conv=>whnf
   refine ⟨by omega,T.rows kids,kids[i].cells,4,rfl,rows_get kids i hlt,rfl,cells_len _,?_⟩
   have hc:=hT kids[i] (List.getElem_mem _) id (IntKind.i64.wrap (lv+1)) (log++[[spV (.mk id kind text kids,ov,lv)]]++spRows (spL (kids.take i) id (IntKind.i64.wrap (lv+1)))) (by
    refine Takes.right (Takes.left (b:=spL (kids.drop (i+1)) id (IntKind.i64.wrap (lv+1))) ?_)
    refine cast ?_ hokL
    congr 1
    conv=>lhs; rw [← List.take_append_drop i kids,List.drop_eq_getElem_cons hlt]
    rw [spL_append]; simp [spL])
   have htk:spL (kids.take (i+1)) id (IntKind.i64.wrap (lv+1))=spL (kids.take i) id (IntKind.i64.wrap (lv+1))++spT kids[i] id (IntKind.i64.wrap (lv+1)):=by
    rw [List.take_succ_eq_append_getElem hlt,spL_append]; simp [spL]
   generalize kids[i]=t at hc htk ⊢
   cases t with
   | mk id' kind' text' kids' =>
   conv=>whnf
   refine ⟨[0],false,?_⟩
   conv=>whnf
   refine hc.mono ?_
   rintro o st' ⟨b,log',rfl,rfl,hl⟩
   cases b
   · conv=>whnf
     refine ⟨[],false,?_⟩
     conv=>whnf
     exact ⟨false,_,rfl,rfl,by simp⟩
   conv=>whnf
   refine ⟨n - 1,by omega,some [0,1],?_⟩
   conv=>whnf
   refine ⟨i+1,by omega,?_,rfl,rfl,rfl,rfl,?_,trivial⟩
   · show [logO _ _,_]=[logO _ _,_]
     rw [hl rfl,htk,spRows_append,List.append_assoc]
     rfl
   · show V.int .i64 (IntKind.i64.wrap (i+1))=_
     rw [wrap64 (by omega) (by omega)]; simp
 · rw [ltB_f (by omega)]
   conv=>whnf
   rw [List.take_of_length_le (by omega)]
   refine ⟨[],false,?_⟩
   conv=>whnf
   exact ⟨true,_,rfl,rfl,fun _=>hfin⟩
theorem treeWalk_full (t:T) (hs:t.Small) (ok:OkY):∀ (ov lv:Int) (log:List (List V)),Takes ok log (spT t ov lv)→Full Tryd.prog ok 67 [spV (t,ov,lv),.yld 0] [logO log true] (Walked log (spT t ov lv)):=by
 induction hs with
 | @mk id kind text kids g1 g2 g3 g4 g5 ih =>
   intro ov lv log hok
   exact treeWalk_full1 _ (.mk g1 g2 g3 g4 g5) ov lv ok log hok fun t' ht'=>ih t' ht'
end Go.Cod
set_option linter.all false
namespace Go.Cod
open Go Go.Proofs
set_option maxRecDepth 10000
def boxT (t:T):O:=⟨[t.cells],4,true,true,true,.cell⟩
theorem treeSpots1_full (t:T) (hs:t.Small) (ok:OkY) (hok:Takes ok [] (spT t 0 1)):Full Tryd.prog ok 66 [.yld 0,.ptr 1 0 0] [logO [] true,boxT t] (fun o st'=>∃ r b log',o=.ret r∧st'=[logO log' b,boxT t]∧(b=true→log'=spRows (spT t 0 1))):=by
 have hc:=treeWalk_full t hs ok 0 1 [] hok
 cases t with
 | mk id kind text kids =>
 refine full_of_awp good Tryd.func66 rfl (by kernel_rfl) (by decide) ?_
 conv=>whnf
 refine ⟨[0],false,?_⟩
 conv=>whnf
 refine hc.mono ?_
 rintro o st' ⟨b,log',rfl,rfl,hl⟩
 conv=>whnf
 refine ⟨[],false,?_⟩
 conv=>whnf
 exact ⟨_,b,log',rfl,rfl,hl⟩
theorem treeSpots_full (t:T):Full Tryd.prog noY 50 [.agg t.cells] [] (fun o st'=>o=.ret (.fn 66 [.ptr 0 0 0])∧st'=[boxT t]):=by
 cases t with
 | mk id kind text kids =>
 refine full_of_awp good Tryd.func50 rfl (by kernel_rfl) (by decide) ?_
 conv=>whnf
 refine ⟨[0],false,?_⟩
 conv=>whnf
 exact ⟨rfl,rfl⟩
end Go.Cod
set_option linter.all false
namespace Go.Cod
open Go Go.Proofs
set_option maxRecDepth 10000
def T.id:T→Int
 | .mk id _ _ _=>id
def T.thing:T→Bool
 | .mk id kind text _=>thingB id kind text
def idS (s:Sp):Int:=s.1.id
theorem T.thing_mk (id:Int) (kind text:List UInt8) (kids:List T):(T.mk id kind text kids).thing=thingB id kind text:=rfl
mutual
theorem spT_ids:∀ (t:T) (ov lv:Int),(spT t ov lv).map idS=t.ids
 | .mk id kind text kids,ov,lv=>by simp [spT,T.ids,spL_ids kids,idS,T.id]
theorem spL_ids:∀ (ts:List T) (ov lv:Int),(spL ts ov lv).map idS=T.idsL ts
 | [],_,_=>rfl
 | t::ts,ov,lv=>by simp [spL,T.idsL,spT_ids t,spL_ids ts]
end
mutual
theorem plainT_sp:∀ (t:T) (ov lv:Int),0≤lv→lv≤7→(plainT t lv=true↔∀ s∈spT t ov lv,s.2.2≤6∧s.1.thing=true)
 | .mk id kind text kids,ov,lv,h0,h7=>by
   have hw:IntKind.i64.wrap (lv+1)=lv+1:=wrap64 (by omega) (by omega)
   simp only [plainT,spT,hw,List.mem_cons,forall_eq_or_imp,T.thing_mk,thingB,Bool.and_eq_true]
   by_cases h6:lv≤6
   · rw [plainL_sp kids id (lv+1) (by omega) (by omega)]
     have:¬ 6 < lv:=by omega
     simp [this,h6,and_assoc]
   · have:6 < lv:=by omega
     simp [this,h6]
theorem plainL_sp:∀ (ts:List T) (ov lv:Int),0≤lv→lv≤7→(plainL ts lv=true↔∀ s∈spL ts ov lv,s.2.2≤6∧s.1.thing=true)
 | [],_,_,_,_=>by simp [plainL,spL]
 | t::ts,ov,lv,h0,h7=>by
   simp only [plainL,spL,Bool.and_eq_true,List.mem_append,plainT_sp t ov lv h0 h7,plainL_sp ts ov lv h0 h7]
   constructor
   · rintro ⟨a,b⟩ s (h | h)
     · exact a s h
     · exact b s h
   · intro h
     exact ⟨fun s hs=>h s (.inl hs),fun s hs=>h s (.inr hs)⟩
end
def AllOk (l:List Sp):Prop:=(∀ s∈l,s.2.2≤6∧s.1.thing=true)∧(l.map idS).Nodup∧l.length≤20
theorem AllOk.pre {a b:List Sp} (h:AllOk (a++b)):AllOk a:=by
 obtain ⟨h1,h2,h3⟩:=h
 refine ⟨fun s hs=>h1 s (by simp [hs]),?_,by simp at h3; omega⟩
 rw [List.map_append,List.nodup_append] at h2
 exact h2.1
theorem okT_iff (t:T):okT t=true↔AllOk (spT t 0 1):=by
 have h:=spT_ids t 0 1
 unfold okT AllOk
 rw [h]
 simp only [Bool.and_eq_true,decide_eq_true_eq,plainT_sp t 0 1 (by omega) (by omega),and_assoc]
 rw [← h,List.length_map]
theorem AllOk.snoc {l:List Sp} {s:Sp}:AllOk (l++[s])↔AllOk l∧s.2.2≤6∧s.1.thing=true∧idS s∉l.map idS∧l.length≠20:=by
 unfold AllOk
 simp only [List.mem_append,List.mem_singleton,List.map_append,List.map_cons,List.map_nil,List.nodup_append,List.length_append,List.length_singleton]
 constructor
 · rintro ⟨h1,⟨h2,_,h3⟩,h4⟩
   refine ⟨⟨fun s hs=>h1 s (.inl hs),h2,by omega⟩,(h1 s (.inr rfl)).1,(h1 s (.inr rfl)).2,fun hm=>h3 _ hm _ (by simp) rfl,by omega⟩
 · rintro ⟨⟨h1,h2,h4⟩,h5,h6,h7,h8⟩
   refine ⟨?_,⟨h2,by simp,?_⟩,by omega⟩
   · rintro s' (h | rfl)
     · exact h1 s' h
     · exact ⟨h5,h6⟩
   · intro a ha b hb e
     subst e; rw [hb] at ha; exact h7 ha
def seenRows (l:List Int):List (List V):=l.map fun i=>[.int .i64 i,.bool true]
theorem seenRows_len (l:List Int):(seenRows l).length=l.length:=by simp [seenRows]
theorem findRow_seen (l:List Int) (x:Int):findRow (.int .i64 x) (seenRows l)=if x∈l then some (.bool true) else none:=by
 induction l with
 | nil=>rfl
 | cons a l ih =>
   by_cases h:a=x
   · subst h; simp [seenRows,findRow,rowKey,keyEq,rowVal]
   · have:¬ x=a:=fun e=>h e.symm
     have e:findRow (.int .i64 x) ([.int .i64 a,.bool true]::seenRows l)=findRow (.int .i64 x) (seenRows l):=by
      show (if decide (a=x)=true then _ else _)=_
      rw [if_neg (by simpa using h)]
     refine e.trans (ih.trans ?_)
     simp [this]
theorem putRow_seen (l:List Int) (x:Int) (h:x∉l):putRow (.int .i64 x) (.bool true) (seenRows l)=seenRows (l++[x]):=by
 induction l with
 | nil=>rfl
 | cons a l ih =>
   simp only [List.mem_cons,not_or] at h
   simp only [seenRows,List.map_cons,List.cons_append] at ih ⊢
   have h':¬ a=x:=fun e=>h.1 e.symm
   simp only [putRow,rowKey,keyEq,h',decide_false,Bool.false_eq_true,if_false,ih h.2]
def okbT (t:T):OkY:=fun log vs=>∃ pre s suf,spT t 0 1=pre++s::suf∧log=spRows pre∧vs=[spV s]
theorem okbT_takes (t:T):Takes (okbT t) [] (spT t 0 1):=fun pre v suf e=>⟨pre,v,suf,e,by simp,rfl⟩
theorem spRows_len (l:List Sp):(spRows l).length=l.length:=by simp [spRows]
theorem implTreeOk_pure (t:T) (hs:t.Small) (hsps:∀ s∈spT t 0 1,s.1.Small):Pure Tryd.prog 31 [.agg t.cells] (·=.bool (okT t)):=by
 have hsp:=treeSpots_full t
 have hok:=okT_iff t
 have hcl:=treeSpots1_full t hs _ (okbT_takes t)
 have hbox:boxT t=⟨[t.cells],4,true,true,true,.cell⟩:=rfl
 generalize okT t=okt at *
 have hobt:okbT t=fun log vs=>∃ pre s suf,spT t 0 1=pre++s::suf∧log=spRows pre∧vs=[spV s]:=rfl
 generalize okbT t=okb at *
 generalize spT t 0 1=sps at *
 cases t with
 | mk id kind text kids =>
 refine pure_of_awp good Tryd.func31 rfl (by kernel_rfl) (by decide) ?_
 conv=>whnf
 refine .inr (.inl ⟨[],false,?_⟩)
 conv=>whnf
 refine hsp.mono ?_
 rintro o st' ⟨rfl,rfl⟩
 conv=>whnf
 refine ⟨[4],false,okb,fun log st'=>AllOk (sps.take log.length)∧st'=[⟨[(T.mk id kind text kids).cells],4,true,true,true,.cell⟩,⟨[[.bool false]],1,true,true,true,.cell⟩,⟨seenRows ((sps.take log.length).map idS),kindCode .i64,false,true,false,.map⟩,⟨[[.map 2]],1,true,true,true,.cell⟩,⟨[(T.mk id kind text kids).cells],4,false,true,true,.cell⟩],?_⟩
 conv=>whnf
 refine ⟨⟨⟨by simp,by simp,by simp⟩,rfl⟩,?_,?_⟩
 · rintro log vs st' ⟨hall,rfl⟩ ho
   rw [hobt] at ho
   obtain ⟨pre,s,suf,rfl,rfl,rfl⟩:=ho
   have htk:(pre++s::suf).take (spRows pre).length=pre:=by rw [spRows_len]; simp
   have htk1:(pre++s::suf).take (spRows pre++[[spV s]]).length=pre++[s]:=by rw [List.length_append,spRows_len]; show List.take (pre.length+1) _=_; rw [List.take_append,List.take_of_length_le (by omega)]; simp
   rw [htk] at hall ⊢
   refine ⟨rfl,?_⟩
   have hsn:=AllOk.snoc (l:=pre) (s:=s)
   have hno:¬ AllOk (pre++[s])→okt=false:=fun h=>by
    cases e:okt
    · rfl
    · exact absurd (AllOk.pre (b:=suf) (by simpa using hok.1 e)) h
   obtain ⟨⟨id',kind',text',kids'⟩,ov,lv⟩:=s
   simp only [T.thing_mk,idS,T.id] at hsn
   have hfr:=findRow_seen (pre.map idS) id'
   have hpr:=putRow_seen (pre.map idS) id'
   conv=>whnf
   by_cases a1:6 < lv
   · rw [ltB_t a1]
     conv=>whnf
     rw [hno fun h=>by have:lv≤6:=(hsn.1 h).2.1; omega]
   rw [ltB_f (show lv≤6 by omega)]
   conv=>whnf
   rw [seenRows_len,List.length_map]
   by_cases a2:pre.length=20
   · rw [eqB_t (by omega)]
     conv=>whnf
     rw [hno fun h=>by have:=(hsn.1 h).2.2.2.2; omega]
   rw [eqB_f (by omega)]
   conv=>whnf
   by_cases a3:id'∈pre.map idS
   · rw [if_pos a3] at hfr
     refine AtKey_intro _ hfr ?_
     conv=>whnf
     rw [hno fun h=>(hsn.1 h).2.2.2.1 a3]
   rw [if_neg a3] at hfr
   refine AtKey_intro _ hfr ?_
   conv=>whnf
   obtain ⟨b2,b3⟩:kind'.length≤1048576∧text'.length≤1048576:=by
    have h:=hsps (.mk id' kind' text' kids',ov,lv) (by simp)
    cases h
    exact ⟨by assumption,by assumption⟩
   refine .inl ((treeThingOk_pure id' kind' text' kids' (by omega) (by omega)).mono ?_)
   rintro r rfl
   cases a4:thingB id' kind' text'
   · conv=>whnf
     rw [hno fun h=>by have:=(hsn.1 h).2.2.1; rw [a4] at this; cases this]
   conv=>whnf
   refine ⟨some [0,1,2,3,4],?_⟩
   conv=>whnf
   have hall':AllOk (pre++[(.mk id' kind' text' kids',ov,lv)]):=hsn.2 ⟨hall,(show lv≤6 by omega),a4,a3,a2⟩
   have hpr:=hpr a3
   rw [htk1]
   refine ⟨hall',?_⟩
   have hse:seenRows ((pre++[((.mk id' kind' text' kids',ov,lv):Sp)]).map idS)=putRow (.int .i64 id') (.bool true) (seenRows (pre.map idS)):=by
    rw [hpr,List.map_append]; rfl
   rw [hse]
   rfl
 · refine hcl.mono ?_
   rintro o st' ⟨r,b,log',rfl,rfl,hl⟩
   refine ⟨_,_,_,rfl,rfl,fun hb st' hI=>?_⟩
   obtain ⟨hall,rfl⟩:=hI
   rw [hl hb,List.take_of_length_le (by rw [spRows_len]; omega)] at hall
   conv=>whnf
   rw [hok.2 hall]
end Go.Cod
set_option linter.all false
namespace Go.Cod
open Go Go.Proofs
set_option maxRecDepth 10000
mutual
theorem spT_small:∀ (t:T) (ov lv:Int),t.Small→∀ s∈spT t ov lv,s.1.Small
 | .mk id kind text kids,ov,lv,h=>by
   intro s hs
   rcases List.mem_cons.1 hs with rfl | hs
   · exact h
   · cases h with
     | mk g1 g2 g3 g4 g5=>exact spL_small kids _ _ g5 s hs
theorem spL_small:∀ (ts:List T) (ov lv:Int),(∀ t∈ts,t.Small)→∀ s∈spL ts ov lv,s.1.Small
 | [],_,_,_=>by simp [spL]
 | t::ts,ov,lv,h=>by
   intro s hs
   rcases List.mem_append.1 hs with hs | hs
   · exact spT_small t ov lv (h t (by simp)) s hs
   · exact spL_small ts ov lv (fun t ht=>h t (by simp [ht])) s hs
end
theorem implTreeOk (t:T) (hs:t.Small):Pure Tryd.prog 31 [.agg t.cells] (·=.bool (okT t)):=implTreeOk_pure t hs (spT_small t 0 1 hs)
end Go.Cod
set_option linter.all false
namespace Go.Cod
open Go Go.Proofs
set_option maxRecDepth 10000
end Go.Cod
set_option linter.all false
namespace Go.Cod
open Go Go.Proofs
set_option maxRecDepth 10000
end Go.Cod
set_option linter.all false
namespace Go.Cod
open Go Go.Proofs
set_option maxRecDepth 10000
inductive LT where
 | mk (id:Int) (kind text:List UInt8) (h:Option (Nat × Nat)) (kids:List LT)
end Go.Cod
set_option linter.all false
namespace Go.Cod
open Go Go.Proofs
set_option maxRecDepth 10000
end Go.Cod
set_option linter.all false
namespace Go.Cod
open Go Go.Proofs
set_option maxRecDepth 10000
mutual
def T.size:T→Nat
 | .mk _ _ _ kids=>1+T.sizeL kids
def T.sizeL:List T→Nat
 | []=>0
 | t::ts=>t.size+T.sizeL ts
end
end Go.Cod
set_option linter.all false
namespace Go.Cod
open Go Go.Proofs
set_option maxRecDepth 10000
end Go.Cod
set_option linter.all false
namespace Go.Cod
open Go Go.Proofs
set_option maxRecDepth 10000
def LT.kids:LT→List LT
 | .mk _ _ _ _ kids=>kids
theorem T.sizeL_append (a b:List T):T.sizeL (a++b)=T.sizeL a+T.sizeL b:=by
 induction a with
 | nil=>simp [T.sizeL]
 | cons l ls ih=>simp [T.sizeL,ih]; omega
end Go.Cod
set_option linter.all false
namespace Go.Cod
open Go Go.Proofs
set_option maxRecDepth 10000
theorem T.rows_take (ts:List T) (i:Nat) (h:i < ts.length):T.rows (ts.take (i+1))=T.rows (ts.take i)++[ts[i].cells]:=by
 rw [T.rows_eq,T.rows_eq,List.take_succ_eq_append_getElem h,List.map_append]; rfl
theorem T.rows_wid (ts:List T):∀ m∈T.rows ts,m.length=4:=by
 intro m hm
 rw [T.rows_eq] at hm
 obtain ⟨t,_,rfl⟩:=List.mem_map.1 hm
 exact Go.Cod.cells_len t
theorem l2Copy_pure1 (t:T) (ht:t.Small) (hT:∀ t'∈t.kids,Pure Tryd.prog 62 [.agg t'.cells] (·=.agg t'.cells)) :
  Pure Tryd.prog 62 [.agg t.cells] (·=.agg t.cells):=by
 cases ht with
 | @mk id kind text kids g1 g2 g3 g4 g5 =>
 simp only [T.kids] at hT
 have hlr:=Go.Cod.rows_len kids
 refine pure_of_awp good Tryd.func62 rfl (by kernel_rfl) (by decide) ?_
 conv=>whnf
 refine loop_drop (fun n fr st=>∃ i:Nat,n+i=kids.length∧Holds fr [(1,.ptr 0 0 0),(2,.ptr 1 0 0),(3,.ptr 2 0 0),(4,.int .i64 i)] ∧
   ((i=0∧st=[⟨[[.int .i64 id,.str kind,.str text,.sl (T.rows kids)]],4,true,true,true,.cell⟩,⟨[zrow],4,true,true,true,.cell⟩,⟨[[.int .i64 id,.str kind,.str text,.nils]],4,true,true,true,.cell⟩]) ∨
    (0 < i∧st=[⟨[[.int .i64 id,.str kind,.str text,.sl (T.rows kids)]],4,true,true,true,.cell⟩,⟨[zrow],4,true,true,true,.cell⟩,⟨[[.int .i64 id,.str kind,.str text,.own 3]],4,true,true,true,.cell⟩,⟨T.rows (kids.take i),4,true,true,false,.cell⟩]))) kids.length none
  ⟨0,rfl,⟨rfl,rfl,rfl,rfl,trivial⟩,.inl ⟨rfl,rfl⟩⟩ ?_
 rintro n fr st ⟨i,hi,hh,hst⟩
 obtain ⟨fr,rfl⟩:=hh.split
 clear hh
 rcases hst with ⟨rfl,rfl⟩ | ⟨hi0,rfl⟩
 · conv=>whnf
   by_cases hlt:0 < kids.length
   · rw [hlr,ltB_t (by omega)]
     conv=>whnf
     refine ⟨by omega,T.rows kids,kids[0].cells,4,rfl,rows_get kids 0 hlt,rfl,Go.Cod.cells_len _,?_⟩
     have hc:=hT kids[0] (List.getElem_mem _)
     have htk:=T.rows_take kids 0 hlt
     generalize kids[0]=t at hc htk
     cases t with
     | mk id' kind' text' kids' =>
     conv=>whnf
     refine ⟨_,.inl hc,?_⟩
     conv=>whnf
     refine ⟨fun m hm=>by rw [List.mem_singleton.1 hm]; rfl,?_⟩
     conv=>whnf
     refine ⟨by show 1*64≤_; omega,.inr ⟨(by intro e; cases e),?_⟩⟩
     conv=>whnf
     refine ⟨n - 1,by omega,some [0,1,2,4],?_⟩
     conv=>whnf
     refine ⟨1,by omega,⟨rfl,rfl,rfl,rfl,trivial⟩,.inr ⟨by omega,?_⟩⟩
     rw [htk]
     rfl
   · rw [hlr,ltB_f (by omega)]
     conv=>whnf
     have:kids=[]:=List.eq_nil_of_length_eq_zero (by omega)
     subst this
     rfl
 · conv=>whnf
   by_cases hlt:i < kids.length
   · rw [hlr,ltB_t (by omega)]
     conv=>whnf
     refine ⟨by omega,T.rows kids,kids[i].cells,4,rfl,rows_get kids i hlt,rfl,Go.Cod.cells_len _,?_⟩
     have hc:=hT kids[i] (List.getElem_mem _)
     have htk:=T.rows_take kids i hlt
     generalize kids[i]=t at hc htk
     cases t with
     | mk id' kind' text' kids' =>
     conv=>whnf
     refine ⟨_,.inl hc,?_⟩
     conv=>whnf
     refine ⟨fun m hm=>by rw [List.mem_singleton.1 hm]; rfl,?_⟩
     conv=>whnf
     refine ⟨by
      show ((T.rows (kids.take i)).length+1)*64≤_
      rw [Go.Cod.rows_len,List.length_take]; omega,?_⟩
     conv=>whnf
     refine ⟨n - 1,by omega,some [0,1,2,5],?_⟩
     conv=>whnf
     refine ⟨i+1,by omega,⟨rfl,rfl,rfl,?_,trivial⟩,.inr ⟨by omega,?_⟩⟩
     · show V.int .i64 (IntKind.i64.wrap (i+1))=_
       rw [wrap64 (by omega) (by omega)]; simp
     · rw [htk]
       rfl
   · rw [hlr,ltB_f (by omega)]
     conv=>whnf
     rw [List.take_of_length_le (by omega)]
     rfl
theorem l2Copy_pure (t:T) (ht:t.Small):Pure Tryd.prog 62 [.agg t.cells] (·=.agg t.cells):=by
 induction ht with
 | @mk id kind text kids g1 g2 g3 g4 g5 ih=>exact l2Copy_pure1 _ (.mk g1 g2 g3 g4 g5) ih
end Go.Cod
set_option linter.all false
namespace Go.Cod
open Go Go.Proofs
set_option maxRecDepth 10000
end Go.Cod
set_option linter.all false
namespace Go.Cod
open Go Go.Proofs
set_option maxRecDepth 10000
def TZ:T:=.mk 0 [] [] []
mutual
def fT:T→Int→Option T
 | .mk id kind text kids,x=>if id=x then some (.mk id kind text kids) else fL kids x
def fL:List T→Int→Option T
 | [],_=>none
 | t::ts,x=>match fT t x with
   | some s=>some s
   | none=>fL ts x
end
def fR:Option T→V
 | some t=>.tup [.agg t.cells,.bool true]
 | none=>.tup [.agg TZ.cells,.bool false]
mutual
theorem fT_small:∀ (t:T) (x:Int),t.Small→∀ s,fT t x=some s→s.Small
 | .mk id kind text kids,x,h,s,hs=>by
   simp only [fT] at hs
   split at hs
   · cases hs; exact h
   · cases h with
     | mk g1 g2 g3 g4 g5=>exact fL_small kids x g5 s hs
theorem fL_small:∀ (ts:List T) (x:Int),(∀ t∈ts,t.Small)→∀ s,fL ts x=some s→s.Small
 | [],_,_,_,hs=>by simp [fL] at hs
 | t::ts,x,h,s,hs=>by
   have h0:=fT_small t x (h t (by simp))
   simp only [fL] at hs
   split at hs
   · rename_i s' hs'; cases hs; exact h0 _ hs'
   · exact fL_small ts x (fun t ht=>h t (by simp [ht])) s hs
end
theorem fL_drop (ts:List T) (i:Nat) (h:i < ts.length) (x:Int):fL (ts.drop i) x=match fT ts[i] x with
  | some s=>some s
  | none=>fL (ts.drop (i+1)) x:=by
 rw [List.drop_eq_getElem_cons h]; simp [fL]
theorem l2Find_pure1 (t:T) (hs:t.Small) (x:Int) (hT:∀ t'∈t.kids,Pure Tryd.prog 44 [.agg t'.cells,.int .i64 x] (·=fR (fT t' x))) :
  Pure Tryd.prog 44 [.agg t.cells,.int .i64 x] (·=fR (fT t x)):=by
 cases hs with
 | @mk id kind text kids g1 g2 g3 g4 g5 =>
 simp only [T.kids] at hT
 have hlr:=Go.Cod.rows_len kids
 have hov:fT (.mk id kind text kids) x=if id=x then some (.mk id kind text kids) else fL kids x:=rfl
 refine pure_of_awp good Tryd.func44 rfl (by kernel_rfl) (by decide) ?_
 conv=>whnf
 by_cases a1:id=x
 · rw [eqB_t a1]
   conv=>whnf
   rw [hov,if_pos a1]
   rfl
 rw [eqB_f a1]
 conv=>whnf
 rw [if_neg a1] at hov
 refine loop_drop (fun n fr st=>∃ i:Nat,n+i=kids.length∧st=[⟨[[.int .i64 id,.str kind,.str text,.sl (T.rows kids)]],4,true,true,true,.cell⟩,⟨[zrow],4,true,true,true,.cell⟩]∧fL kids x=fL (kids.drop i) x∧Holds fr [(1,.int .i64 x),(2,.ptr 0 0 0),(4,.ptr 1 0 0),(6,.int .i64 i)]) kids.length none
  ⟨0,rfl,rfl,rfl,rfl,rfl,rfl,rfl,trivial⟩ ?_
 rintro n fr st ⟨i,hi,rfl,hx,hh⟩
 obtain ⟨fr,rfl⟩:=hh.split
 clear hh
 conv=>whnf
 by_cases hlt:i < kids.length
 · rw [hlr,ltB_t (by omega)]
   conv=>whnf
   refine ⟨by omega,T.rows kids,kids[i].cells,4,rfl,Go.Cod.rows_get kids i hlt,rfl,Go.Cod.cells_len _,?_⟩
   have hc:=hT kids[i] (List.getElem_mem _)
   rw [fL_drop kids i hlt] at hx
   generalize kids[i]=t at hc hx ⊢
   cases t with
   | mk id' kind' text' kids' =>
   conv=>whnf
   refine .inl (hc.mono ?_)
   rintro r rfl
   cases hf:fT (.mk id' kind' text' kids') x with
   | some s =>
     rw [hf] at hx
     simp only at hx
     cases s with
     | mk sid sk st sks =>
     conv=>whnf
     rw [hov,hx]
     rfl
   | none =>
     rw [hf] at hx
     simp only at hx
     conv=>whnf
     refine ⟨n - 1,by omega,some [0,1],?_⟩
     conv=>whnf
     refine ⟨i+1,by omega,rfl,hx,rfl,rfl,rfl,?_,trivial⟩
     show V.int .i64 (IntKind.i64.wrap (i+1))=_
     rw [wrap64 (by omega) (by omega)]; simp
 · rw [hlr,ltB_f (by omega)]
   conv=>whnf
   rw [List.drop_of_length_le (by omega)] at hx
   rw [hov,hx]
   rfl
theorem l2Find_pure (t:T) (hs:t.Small) (x:Int):Pure Tryd.prog 44 [.agg t.cells,.int .i64 x] (·=fR (fT t x)):=by
 induction hs with
 | @mk id kind text kids g1 g2 g3 g4 g5 ih=>exact l2Find_pure1 _ (.mk g1 g2 g3 g4 g5) x ih
end Go.Cod
set_option linter.all false
namespace Go.Cod
open Go Go.Proofs
set_option maxRecDepth 10000
mutual
theorem T.ids_size:∀ t:T,t.ids.length=t.size
 | .mk _ _ _ kids=>by simp [T.ids,T.size,T.idsL_size kids]; omega
theorem T.idsL_size:∀ ts:List T,(T.idsL ts).length=T.sizeL ts
 | []=>rfl
 | t::ts=>by simp [T.idsL,T.sizeL,T.ids_size t,T.idsL_size ts]
end
theorem T.kids_size (t:T):t.size=1+T.sizeL t.kids:=by cases t; rfl
mutual
theorem fT_size:∀ (t:T) (x:Int) (s:T),fT t x=some s→s.size≤t.size
 | .mk id kind text kids,x,s,h=>by
   simp only [fT] at h
   split at h
   · cases h; exact Nat.le_refl _
   · have:=fL_size kids x s h; simp only [T.size]; omega
theorem fL_size:∀ (ts:List T) (x:Int) (s:T),fL ts x=some s→s.size≤T.sizeL ts
 | [],_,_,h=>by simp [fL] at h
 | t::ts,x,s,h=>by
   simp only [fL] at h
   simp only [T.sizeL]
   split at h
   · rename_i s' hs'; cases h
     have:=fT_size t x _ hs'; omega
   · have:=fL_size ts x s h; omega
end
def T.kind:T→List UInt8
 | .mk _ kind _ _=>kind
def T.text:T→List UInt8
 | .mk _ _ text _=>text
end Go.Cod
set_option linter.all false
namespace Go.Cod
open Go Go.Proofs
set_option maxRecDepth 10000
end Go.Cod
set_option linter.all false
namespace Go.Cod
open Go Go.Proofs
set_option maxRecDepth 10000
mutual
theorem fT_none:∀ (t:T) (x:Int),fT t x=none↔x∉t.ids
 | .mk id kind text kids,x=>by
   simp only [fT,T.ids,List.mem_cons,not_or]
   by_cases e:id=x
   · simp [e]
   · rw [if_neg e,fL_none kids x]
     exact ⟨fun h=>⟨fun e'=>e e'.symm,h⟩,fun h=>h.2⟩
theorem fL_none:∀ (ts:List T) (x:Int),fL ts x=none↔x∉T.idsL ts
 | [],x=>by simp [fL,T.idsL]
 | t::ts,x=>by
   have h1:=fT_none t x
   have h2:=fL_none ts x
   simp only [fL,T.idsL,List.mem_append,not_or]
   cases e:fT t x with
   | none=>simp only [h2]; exact ⟨fun h=>⟨h1.1 e,h⟩,fun h=>h.2⟩
   | some s=>rw [e] at h1; simp at h1; simp [h1]
end
theorem okT_iff' (t:T):okT t=true↔plainT t 1=true∧t.ids.Nodup∧t.ids.length≤20:=by
 unfold okT
 simp [and_assoc]
end Go.Cod
set_option linter.all false
namespace Go.Cod
open Go Go.Proofs
set_option maxRecDepth 10000
def brows (bs:List UInt8):List (List V):=bs.map fun b=>[cellB b]
theorem brows_len (bs:List UInt8):(brows bs).length=bs.length:=by simp [brows]
theorem brows_get (bs:List UInt8) (i:Nat) (h:i < bs.length):(brows bs)[i]? = some [cellB bs[i]]:=by simp [brows,h]
def rdO (bs:List UInt8) (p:Int):O:=⟨[[.sl (brows bs),.int .i64 p]],2,true,true,true,.cell⟩
theorem tmod_in {a n:Int} (h0:0≤a) (hn:1≤n):0≤a.tmod n∧a.tmod n < n:=by
 rw [Int.tmod_eq_emod_of_nonneg h0]
 exact ⟨Int.emod_nonneg _ (by omega),Int.emod_lt_of_pos _ (by omega)⟩
theorem xor_in {a b:Int} (ha:0≤a∧a < 4611686018427387904) (hb:0≤b∧b < 4611686018427387904):∃ m:Int,0≤m∧IntKind.i64.wrap (BitVec.ofInt IntKind.i64.bits a ^^^ BitVec.ofInt IntKind.i64.bits b).toNat=m:=by
 refine ⟨_,?_,rfl⟩
 have e:(BitVec.ofInt IntKind.i64.bits a ^^^ BitVec.ofInt IntKind.i64.bits b).toNat < 2 ^ 62:=by
  show (BitVec.ofInt 64 a ^^^ BitVec.ofInt 64 b).toNat < 2 ^ 62
  rw [BitVec.toNat_xor,BitVec.toNat_ofInt,BitVec.toNat_ofInt]
  refine Nat.xor_lt_two_pow ?_ ?_ <;> omega
 rw [wrap64 (by omega) (by have:(2:Nat)^62=4611686018427387904:=rfl; omega)]
 omega
theorem pick_full (bs:List UInt8) (p n:Int) (hb:bs.length≤2000) (h0:0≤p) (h1:p≤1073741824) :
  Full Tryd.prog noY 13 [.ptr 0 0 0,.int .i64 n] [rdO bs p] fun o st'=>∃ m:Int,0≤m∧(1≤n→m < n)∧o=.ret (.int .i64 m)∧st'=[rdO bs (p+1)]:=by
 have hl:=brows_len bs
 have w1:IntKind.i64.wrap (p+1)=p+1:=wrap64 (by omega) (by omega)
 have w2:IntKind.i64.wrap (p+1 - 1)=p:=by rw [wrap64 (by omega) (by omega)]; omega
 have g0:∀ i:Nat,i < bs.length→(brows bs)[i]? = some [cellB bs[i]!]:=fun i hi=>by rw [brows_get bs i hi,getElem!_pos bs i hi]
 generalize hrows:brows bs=rows at *
 refine full_of_awp good Tryd.func13 rfl (by kernel_rfl) (by decide) ?_
 unfold rdO
 rw [hrows]
 conv=>whnf
 rw [w1]
 conv=>whnf
 by_cases a1:n < 1
 · rw [ltB_t (by omega)]
   conv=>whnf
   refine ⟨[],false,?_⟩
   conv=>whnf
   exact ⟨0,by omega,fun h=>by omega,rfl,rfl⟩
 rw [ltB_f (by omega)]
 conv=>whnf
 by_cases a2:(rows.length:Int)=0
 · rw [eqB_t a2]
   conv=>whnf
   refine ⟨[],false,?_⟩
   conv=>whnf
   exact ⟨0,by omega,fun h=>by omega,rfl,rfl⟩
 rw [eqB_f a2]
 conv=>whnf
 rw [w2]
 conv=>whnf
 by_cases a3:p < (rows.length:Int)
 · rw [ltB_t a3]
   conv=>whnf
   refine ⟨h0,rows,_,1,rfl,g0 p.toNat (by omega),rfl,rfl,?_⟩
   conv=>whnf
   refine ⟨by omega,?_⟩
   conv=>whnf
   refine ⟨[],false,?_⟩
   conv=>whnf
   have hc:IntKind.i64.wrap ((bs[p.toNat]!).toNat:Int)=((bs[p.toNat]!).toNat:Int):=wrap64 (by omega) (by have:=(bs[p.toNat]!).toNat_lt; omega)
   refine ⟨_,?_,?_,rfl,rfl⟩
   · rw [hc]; exact (tmod_in (by omega) (by omega)).1
   · intro _; rw [hc]; exact (tmod_in (by omega) (by omega)).2
 rw [ltB_f (by omega)]
 conv=>whnf
 have hL:1≤(rows.length:Int):=by omega
 refine ⟨by omega,?_⟩
 conv=>whnf
 have i1:=tmod_in (a:=p) (n:=rows.length) h0 hL
 refine ⟨i1.1,rows,_,1,rfl,g0 (p.tmod rows.length).toNat (by omega),rfl,rfl,?_⟩
 conv=>whnf
 refine ⟨rfl,?_⟩
 conv=>whnf
 have w3:IntKind.i64.wrap (IntKind.i64.wrap (p*7)+3)=p*7+3:=by rw [wrap64 (a:=p*7) (by omega) (by omega),wrap64 (by omega) (by omega)]
 rw [w3]
 refine ⟨by omega,?_⟩
 conv=>whnf
 have i2:=tmod_in (a:=p*7+3) (n:=rows.length) (by omega) hL
 refine ⟨i2.1,rows,_,1,rfl,g0 ((p*7+3).tmod rows.length).toNat (by omega),rfl,rfl,?_⟩
 conv=>whnf
 refine ⟨rfl,?_⟩
 conv=>whnf
 refine ⟨by omega,?_⟩
 have c1:=(bs[(p.tmod rows.length).toNat]!).toNat_lt
 have c2:=(bs[((p*7+3).tmod rows.length).toNat]!).toNat_lt
 generalize bs[(p.tmod rows.length).toNat]! = d1 at *
 generalize bs[((p*7+3).tmod rows.length).toNat]! = d2 at *
 have q1:0≤p.tdiv rows.length∧p.tdiv rows.length≤p:=by
  rw [Int.tdiv_eq_ediv_of_nonneg h0]
  exact ⟨Int.ediv_nonneg h0 (by omega),Int.ediv_le_self _ h0⟩
 generalize p.tdiv rows.length=q at *
 obtain ⟨x,⟨hx0,hx1⟩,hx⟩:∃ x:Int,(0≤x∧x < 4611686018427387904)∧IntKind.i64.wrap (IntKind.i64.wrap (IntKind.i64.wrap (IntKind.i64.wrap (IntKind.i64.wrap (d1.toNat:Int)*131)+IntKind.i64.wrap (IntKind.i64.wrap (d2.toNat:Int)*1117))+IntKind.i64.wrap (p*29))+IntKind.i64.wrap (IntKind.i64.wrap q*53))=x:=by
  rw [wrap64 (a:=(d1.toNat:Int)) (by omega) (by omega),wrap64 (a:=(d2.toNat:Int)) (by omega) (by omega),wrap64 (a:=(d1.toNat:Int)*131) (by omega) (by omega),wrap64 (a:=(d2.toNat:Int)*1117) (by omega) (by omega),wrap64 (a:=(d1.toNat:Int)*131+_) (by omega) (by omega),
   wrap64 (a:=p*29) (by omega) (by omega),wrap64 (a:=q) (by omega) (by omega),wrap64 (a:=q*53) (by omega) (by omega),wrap64 (a:=(d1.toNat:Int)*131+_+_) (by omega) (by omega)]
  rw [wrap64 (by omega) (by omega)]
  exact ⟨_,by omega,rfl⟩
 conv=>whnf
 rw [hx]
 refine ⟨by decide,?_⟩
 conv=>whnf
 obtain ⟨y,hy0,hy⟩:=xor_in (a:=x) (b:=IntKind.i64.wrap (x.tdiv 64)) ⟨hx0,hx1⟩ (by
  rw [Int.tdiv_eq_ediv_of_nonneg hx0,wrap64 (by omega) (by omega)]; omega)
 rw [hy]
 refine ⟨by omega,?_⟩
 conv=>whnf
 refine ⟨[],false,?_⟩
 conv=>whnf
 exact ⟨_,(tmod_in hy0 (by omega)).1,fun _=>(tmod_in hy0 (by omega)).2,rfl,rfl⟩
end Go.Cod
set_option linter.all false
namespace Go.Cod
open Go Go.Proofs
set_option maxRecDepth 10000
theorem l1Many_pure (s:List UInt8) (n:Int) (h0:0≤n) (hn64:n≤1048576) (hL:s.length*n.toNat≤1048576) (hs:s.length≤1048576):Pure Tryd.prog 63 [.str s,.int .i64 n] fun r=>∃ t:List UInt8,t.length=s.length*n.toNat∧r=.str t:=by
 generalize hLL:s.length*n.toNat=L at *
 refine pure_of_awp good Tryd.func63 rfl (by kernel_rfl) (by decide) ?_
 conv=>whnf
 refine loop_intro (fun m fr st=>st=[]∧∃ (a b:List UInt8),a.length+b.length*m=L∧b.length≤2097152∧(m:Int)≤n∧Holds fr [(0,.str b),(1,.int .i64 m),(5,.str a)]) n.toNat
  ⟨rfl,[],s,by simp [hLL],by omega,by omega,rfl,by rw [Int.toNat_of_nonneg h0]; rfl,rfl,trivial⟩ ?_
 rintro m fr st ⟨rfl,a,b,h1,h2,h3,hh⟩
 obtain ⟨fr,rfl⟩:=hh.split
 clear hh
 conv=>whnf
 by_cases hlt:0 < m
 · rw [ltB_t (by omega)]
   conv=>whnf
   refine ⟨by decide,?_⟩
   conv=>whnf
   have hbm:b.length≤b.length*m:=Nat.le_mul_of_pos_right _ hlt
   have e1:(m:Int).tmod 2=((m % 2:Nat):Int):=by rw [Int.tmod_eq_emod_of_nonneg (by omega)]; omega
   have e4:IntKind.i64.wrap ((m:Int).tdiv 2)=((m / 2:Nat):Int):=by
    rw [Int.tdiv_eq_ediv_of_nonneg (by omega),wrap64 (by omega) (by omega)]; omega
   have hm:m=2*(m / 2)+m % 2:=by omega
   have hmul:b.length*m=2*(b.length*(m / 2))+b.length*(m % 2):=by
    conv=>lhs; rw [hm,Nat.mul_add,Nat.mul_left_comm]
   rw [e1]
   by_cases ho:m % 2=1
   · rw [eqB_t (by omega)]
     conv=>whnf
     rw [ho,Nat.mul_one] at hmul
     refine ⟨by omega,?_⟩
     conv=>whnf
     refine ⟨by omega,?_⟩
     conv=>whnf
     refine ⟨by decide,?_⟩
     conv=>whnf
     refine ⟨m / 2,by omega,rfl,a++b,b++b,?_,by simp; omega,by omega,rfl,by rw [← e4]; rfl,rfl,trivial⟩
     rw [List.length_append,List.length_append,Nat.add_mul]; omega
   · rw [eqB_f (by omega)]
     conv=>whnf
     rw [show m % 2=0 by omega,Nat.mul_zero] at hmul
     refine ⟨by omega,?_⟩
     conv=>whnf
     refine ⟨by decide,?_⟩
     conv=>whnf
     refine ⟨m / 2,by omega,rfl,a,b++b,?_,by simp; omega,by omega,rfl,by rw [← e4]; rfl,rfl,trivial⟩
     rw [List.length_append,Nat.add_mul]; omega
 · rw [ltB_f (by omega)]
   conv=>whnf
   have:m=0:=by omega
   subst this
   exact ⟨a,by omega,rfl⟩
def drows (ss:List (List UInt8)):List (List V):=ss.map fun s=>[.str s]
theorem drows_len (ss:List (List UInt8)):(drows ss).length=ss.length:=by simp [drows]
theorem of_full (bs:List UInt8) (p:Int) (ss:List (List UInt8)) (hb:bs.length≤2000) (h0:0≤p) (h1:p≤1073741824) (hn:1≤ss.length) (hn':ss.length≤1048576) :
  Full Tryd.prog noY 30 [.ptr 0 0 0,.sl (drows ss)] [rdO bs p] fun o st'=>∃ s∈ss,o=.ret (.str s)∧st'=[rdO bs (p+1)]:=by
 have hl:=drows_len ss
 have hp:=pick_full bs p ss.length hb h0 h1
 have hg:∀ m:Int,0≤m→m < ss.length→∃ s∈ss,(drows ss)[m.toNat]? = some [.str s]:=fun m a b=>by
  have:m.toNat < ss.length:=by omega
  exact ⟨ss[m.toNat],List.getElem_mem _,by simp [drows,this]⟩
 generalize drows ss=rows at *
 refine full_of_awp good Tryd.func30 rfl (by kernel_rfl) (by decide) ?_
 conv=>whnf
 rw [hl]
 refine ⟨[0],false,?_⟩
 conv=>whnf
 refine hp.mono ?_
 rintro o st' ⟨m,m0,m1,rfl,rfl⟩
 conv=>whnf
 obtain ⟨s,hs,hgs⟩:=hg m m0 (m1 (by omega))
 refine ⟨m0,rows,_,1,rfl,hgs,rfl,rfl,?_⟩
 conv=>whnf
 refine ⟨[],false,?_⟩
 conv=>whnf
 exact ⟨s,hs,rfl,rfl⟩
theorem l11Text_full (bs:List UInt8) (p:Int) (hb:bs.length≤2000) (h0:0≤p) (h1:p≤1073741824) :
  Full Tryd.prog noY 46 [.ptr 0 0 0] [rdO bs p] fun o st'=>∃ s:List UInt8,s.length≤12∧o=.ret (.str s)∧st'=[rdO bs (p+1)]:=by
 have hm:=l1Many_pure [116] 12 (by decide) (by decide) (by decide) (by decide)
 refine full_of_awp good Tryd.func46 rfl (by kernel_rfl) (by decide) ?_
 conv=>whnf
 refine .inl (hm.mono ?_)
 rintro r ⟨t,ht,rfl⟩
 have ho:=of_full bs p [[],[97],[98],[111,110,101,32,116,119,111],[120],t] hb h0 h1 (by simp) (by simp)
 conv=>whnf
 refine ⟨[0],false,?_⟩
 conv=>whnf
 refine ho.mono ?_
 rintro o st' ⟨s,hs,rfl,rfl⟩
 conv=>whnf
 refine ⟨[],false,?_⟩
 conv=>whnf
 refine ⟨s,?_,rfl,rfl⟩
 simp only [List.mem_cons,List.not_mem_nil,or_false] at hs
 rcases hs with rfl | rfl | rfl | rfl | rfl | rfl <;> first | decide | (rw [ht]; decide)
end Go.Cod
set_option linter.all false
namespace Go.Cod
open Go Go.Proofs
set_option maxRecDepth 10000
structure It where
 kind:List UInt8
 many:Bool
 may:Bool
def It.cells (x:It):List V:=[.str x.kind,.bool x.many,.bool x.may]
structure Ru where
 kind:List UInt8
 text:Bool
 kids:List It
def Ru.cells (x:Ru):List V:=[.str x.kind,.bool x.text,.sl (x.kids.map It.cells)]
structure Sch where
 root:List UInt8
 rules:List Ru
def Sch.cells (x:Sch):List V:=[.str x.root,.sl (x.rules.map Ru.cells)]
def kDoc:List UInt8:=[100,111,99]
def kTitle:List UInt8:=[116,105,116,108,101]
def kSec:List UInt8:=[115,101,99]
def kNote:List UInt8:=[110,111,116,101]
def kPar:List UInt8:=[112,97,114]
def sch11:Sch:=⟨kDoc,[⟨kDoc,false,[⟨kTitle,false,true⟩,⟨kSec,true,false⟩,⟨kNote,false,true⟩]⟩,⟨kTitle,true,[]⟩,⟨kSec,true,[⟨kPar,true,false⟩,⟨kNote,false,true⟩]⟩,⟨kPar,true,[]⟩,⟨kNote,true,[⟨kPar,true,false⟩]⟩]⟩
def Ru.cellsN (x:Ru):List V:=[.str x.kind,.bool x.text,match x.kids with | []=>.nils | _::_=>.sl (x.kids.map It.cells)]
theorem l11Schema_pure:Pure Tryd.prog 64 [] (·=.agg sch11.cells):=by
 refine Pure.soft (R:=(·=.agg [.str kDoc,.sl (sch11.rules.map Ru.cellsN)])) ?_ ?_
 · refine pure_of_awp good Tryd.func64 rfl (by kernel_rfl) (by decide) ?_
   conv=>whnf
   rfl
 · rintro r rfl
   rfl
def ruleAt (rs:List Ru) (kind:List UInt8):Int:=match rs.findIdx? (fun r=>decide (r.kind=kind)) with
 | some i=>i
 | none=>-1
theorem l3Rule_pure (s:Sch) (kind:List UInt8) (hl:s.rules.length≤1048576):Pure Tryd.prog 65 [.agg s.cells,.str kind] (·=.int .i64 (ruleAt s.rules kind)):=by
 obtain ⟨root,rules⟩:=s
 simp only at hl
 simp only [Sch.cells]
 have hlr:(rules.map Ru.cells).length=rules.length:=by simp
 have hg:∀ i (h:i < rules.length),(rules.map Ru.cells)[i]? = some rules[i].cells:=fun i h=>by simp [h]
 have hr:∀ i (h:i < rules.length),(∀ j (hj:j < i),rules[j].kind≠kind)→rules[i].kind=kind→ruleAt rules kind=i:=fun i h h1 h2=>by
  unfold ruleAt
  rw [List.findIdx?_eq_some_iff_getElem.2 ⟨h,by simpa using h2,fun j hj=>by simpa using h1 j hj⟩]
 have hn:(∀ j (hj:j < rules.length),rules[j].kind≠kind)→ruleAt rules kind=-1:=fun h=>by
  unfold ruleAt
  rw [List.findIdx?_eq_none_iff.2 fun x hx=>by
   obtain ⟨j,hj,rfl⟩:=List.getElem_of_mem hx
   simpa using h j hj]
 generalize ruleAt rules kind=r at *
 obtain ⟨rows,hrows⟩:∃ rows,rows=rules.map Ru.cells:=⟨_,rfl⟩
 rw [← hrows] at hlr ⊢
 simp only [← hrows] at hg
 clear hrows
 refine pure_of_awp good Tryd.func65 rfl (by kernel_rfl) (by decide) ?_
 conv=>whnf
 refine loop_intro (fun n fr st=>∃ i:Nat,n+i=rules.length∧(∀ j (hj:j < rules.length),j < i→rules[j].kind≠kind)∧st=[⟨[[.str root,.sl rows]],2,true,true,true,.cell⟩]∧Holds fr [(1,.str kind),(2,.ptr 0 0 0),(5,.int .i64 i)]) rules.length
  ⟨0,rfl,fun _ _ h=>by omega,rfl,rfl,rfl,rfl,trivial⟩ ?_
 rintro n fr st ⟨i,hi,hno,rfl,hh⟩
 obtain ⟨fr,rfl⟩:=hh.split
 clear hh
 conv=>whnf
 rw [hlr]
 by_cases hlt:i < rules.length
 · rw [ltB_t (by omega)]
   conv=>whnf
   have hgi:=hg i hlt
   have hri:=hr i hlt
   have hni:=hno
   generalize hq:rules[i]=q at *
   obtain ⟨qk,qt,qs⟩:=q
   refine ⟨by omega,rows,_,3,rfl,hgi,rfl,rfl,?_⟩
   conv=>whnf
   by_cases hk:qk=kind
   · rw [eqS_t hk]
     conv=>whnf
     rw [hri (fun j hj=>hno j (by omega) hj) hk]
   · rw [eqS_f hk]
     conv=>whnf
     refine ⟨n - 1,by omega,i+1,by omega,fun j hj hji=>?_,rfl,rfl,rfl,?_,trivial⟩
     · by_cases e:j=i
       · subst e; rw [hq]; exact hk
       · exact hno j hj (by omega)
     · show V.int .i64 (IntKind.i64.wrap (i+1))=_
       rw [wrap64 (by omega) (by omega)]; simp
 · rw [ltB_f (by omega)]
   conv=>whnf
   rw [hn fun j hj=>hno j hj (by omega)]
end Go.Cod
set_option linter.all false
namespace Go.Cod
open Go Go.Proofs
set_option maxRecDepth 10000
def kinds11:List (List UInt8):=[kDoc,kTitle,kSec,kPar,kNote]
theorem rule11 (kind:List UInt8) (h:kind∈kinds11):∃ (j:Nat) (ru:Ru),ruleAt sch11.rules kind=j∧(sch11.rules.map Ru.cells)[j]? = some ru.cells∧ru.kids.length≤3∧∀ it∈ru.kids,it.kind∈kinds11:=by
 simp only [kinds11,List.mem_cons,List.not_mem_nil,or_false] at h
 rcases h with rfl | rfl | rfl | rfl | rfl
 · exact ⟨0,_,by decide,rfl,by decide,by decide⟩
 · exact ⟨1,_,by decide,rfl,by decide,by decide⟩
 · exact ⟨2,_,by decide,rfl,by decide,by decide⟩
 · exact ⟨3,_,by decide,rfl,by decide,by decide⟩
 · exact ⟨4,_,by decide,rfl,by decide,by decide⟩
theorem kinds11_len (kind:List UInt8) (h:kind∈kinds11):kind.length≤1048576:=by
 simp only [kinds11,List.mem_cons,List.not_mem_nil,or_false] at h
 rcases h with rfl | rfl | rfl | rfl | rfl <;> decide
def nxO (k:Int):O:=⟨[[.int .i64 k]],1,true,true,true,.cell⟩
def KN (ids:List Int) (lo k k':Int):Prop:=ids.Nodup∧(∀ i∈ids,lo≤i∧i < k')∧lo≤k'∧∀ h:Int,0≤h→100*h≤k→k≤100*h+18→k'≤100*h+19
theorem KN.nil (k:Int):KN (T.idsL []) (k+1) k (k+1):=⟨List.nodup_nil,fun i h=>by simp [T.idsL] at h,by omega,fun h _ _ _=>by omega⟩
theorem KN.node {k k':Int} {kind text:List UInt8} {kids:List T} (h:KN (T.idsL kids) (k+1) k k'):KN (T.mk k kind text kids).ids k k k':=by
 obtain ⟨h1,h2,h3,h4⟩:=h
 refine ⟨?_,?_,by omega,h4⟩
 · simp only [T.ids,List.nodup_cons]
   exact ⟨fun h=>by have:=(h2 k h).1; omega,h1⟩
 · intro i hi
   simp only [T.ids,List.mem_cons] at hi
   rcases hi with rfl | hi
   · omega
   · have:=h2 i hi; omega
theorem KN.ones {ids:List Int} {k':Int} (h:KN ids 1 1 k'):ids.Nodup∧∀ i∈ids,1≤i∧i < 20:=by
 obtain ⟨h1,h2,h3,h4⟩:=h
 have:=h4 0 (by omega) (by omega) (by omega)
 exact ⟨h1,fun i hi=>by have:=h2 i hi; omega⟩
theorem idsL_snoc (l:List T) (t:T):T.idsL (l++[t])=T.idsL l++t.ids:=by
 induction l with
 | nil=>simp [T.idsL]
 | cons x l ih=>simp [T.idsL,ih]
theorem KN.snoc {k k2 k3:Int} {kids:List T} {t:T} (_:0≤k) (h:KN (T.idsL kids) (k+1) k k2) (hk:k2.tmod 100 < 18) (ht:KN t.ids k2 k2 k3):KN (T.idsL (kids++[t])) (k+1) k k3:=by
 obtain ⟨h1,h2,h3,h4⟩:=h
 obtain ⟨t1,t2,t3,t4⟩:=ht
 rw [idsL_snoc]
 refine ⟨List.nodup_append.2 ⟨h1,t1,fun a ha b hb=>?_⟩,?_,by omega,?_⟩
 · have:=h2 a ha; have:=t2 b hb; omega
 · intro i hi
   rcases List.mem_append.1 hi with hi | hi
   · have:=h2 i hi; omega
   · have:=t2 i hi; omega
 · intro h g0 g1 g2
   have:=h4 h g0 g1 g2
   rw [Int.tmod_eq_emod_of_nonneg (by omega)] at hk
   exact t4 h g0 (by omega) (by omega)
def TreeR (bs:List UInt8) (p k B:Int) (o:Out) (st':St):Prop:=∃ (t:T) (p' k':Int),t.Small∧((t.size:Int)≤B∧KN t.ids k k k'∧t.id=k)∧p≤p'∧p'≤p+B∧k≤k'∧k'≤k+B∧o=.ret (.agg t.cells)∧st'=[rdO bs p',nxO k']
def TreeC (bs:List UInt8) (d B:Int):Prop:=∀ (p k:Int) (kind:List UInt8),0≤p→p+B≤1073741824→0≤k→k+B≤1073741824→kind∈kinds11 →
 Full Tryd.prog noY 45 [.ptr 0 0 0,.str kind,.int .i64 d,.ptr 1 0 0] [rdO bs p,nxO k] (TreeR bs p k B)
def bxO (row:List V) (n:Nat):O:=⟨[row],n,true,true,true,.cell⟩
def kidsV (kids:List T) (m:Nat):V:=match kids with
 | []=>.nils
 | _::_=>.own m
def kidsO (kids:List T):List O:=match kids with
 | []=>[]
 | _::_=>[⟨T.rows kids,4,true,true,false,.cell⟩]
theorem T.rows_snoc (l:List T) (t:T):T.rows (l++[t])=T.rows l++[t.cells]:=by rw [T.rows_eq,T.rows_eq]; simp
theorem kidsO_snoc (t0:T) (ts:List T) (t:T):kidsO ((t0::ts)++[t])=[⟨T.rows (t0::ts)++[t.cells],4,true,true,false,.cell⟩]:=by
 rw [← T.rows_snoc]; rfl
theorem small_snoc {l:List T} {t:T} (h:∀ x∈l,x.Small) (ht:t.Small):∀ x∈l++[t],x.Small:=by
 intro x hx
 rcases List.mem_append.1 hx with hx | hx
 · exact h x hx
 · simp at hx; subst hx; exact ht
set_option maxHeartbeats 8000000 in
theorem l11Tree_step (bs:List UInt8) (hb:bs.length≤2000) (d B:Int) (hB:1≤B) (hB':B≤65536) (hd:0≤d∧d≤1000) (hT:d < 4→TreeC bs (d+1) B):TreeC bs d (16*B):=by
 intro p k kind p0 p1 k0 k1 hk
 obtain ⟨j,ru,hj1,hj2,hj3,hj4⟩:=rule11 kind hk
 have hkl:=kinds11_len kind hk
 have hr:=l3Rule_pure sch11 kind (by decide)
 have hsch:=l11Schema_pure
 have ht:=l11Text_full bs p hb p0 (by omega)
 rw [hj1] at hr
 have hsd:sch11.cells=[.str kDoc,.sl (sch11.rules.map Ru.cells)]:=rfl
 rw [hsd] at hr hsch
 generalize sch11.rules.map Ru.cells=rules at *
 obtain ⟨rk,rt,items⟩:=ru
 simp only [Ru.cells] at hj2 hj3 hj4
 have hlr:(items.map It.cells).length=items.length:=by simp
 have hg:∀ i (h:i < items.length),(items.map It.cells)[i]? = some [.str items[i].kind,.bool items[i].many,.bool items[i].may]:=fun i h=>by simp [h,It.cells]
 have hgk:∀ i (h:i < items.length),items[i].kind∈kinds11:=fun i h=>hj4 _ (List.getElem_mem h)
 obtain ⟨irows,hirows⟩:∃ rows,rows=items.map It.cells:=⟨_,rfl⟩
 rw [← hirows] at hlr hj2
 simp only [← hirows] at hg
 clear hirows
 refine full_of_awp good Tryd.func45 rfl (by kernel_rfl) (by decide) ?_
 conv=>whnf
 have w1:IntKind.i64.wrap (k+1)=k+1:=wrap64 (by omega) (by omega)
 rw [w1]
 refine .inl (hsch.mono ?_)
 rintro r rfl
 conv=>whnf
 refine ⟨_,.inl hr,?_⟩
 conv=>whnf
 refine ⟨by omega,rules,_,3,rfl,hj2,rfl,rfl,?_⟩
 conv=>whnf
 refine ⟨by conv=>whnf
            exact ⟨_,.inl hr,rfl⟩,?_⟩
 conv=>whnf
 obtain ⟨C,hC⟩:∃ C:Int,C=2+3*B:=⟨_,rfl⟩
 have mulS:∀ (i:Nat) (X:Int),((i+1:Nat):Int)*X=i*X+X:=fun i X=>by
  rw [Int.natCast_add,Int.add_mul]; simp
 have mulL:∀ (i n:Nat) (X:Int),0≤X→i≤n→(i:Int)*X≤n*X:=fun i n X hX h=>Int.mul_le_mul_of_nonneg_right (by omega) hX
 have mul0:∀ (i:Nat) (X:Int),0≤X→0≤(i:Int)*X:=fun i X hX=>Int.mul_nonneg (by omega) hX
 have fin:∀ (i:Nat) (kids:List T) (p' k':Int) (tx:List UInt8),i≤items.length→kids.length≤3*i→(T.sizeL kids:Int)≤i*C→p≤p'→p'≤p+1+i*C→k≤k'→k'≤k+1+i*C→tx.length≤12→((∀ t∈kids,t.Small)∧KN (T.idsL kids) (k+1) k k') →
   (T.mk k kind tx kids).Small∧(((T.mk k kind tx kids).size:Int)≤16*B∧KN (T.mk k kind tx kids).ids k k k'∧(T.mk k kind tx kids).id=k)∧p≤p'∧p'≤p+16*B∧k≤k'∧k'≤k+16*B:=by
  intro i kids p' k' tx g0 g1 g2 g3 g4 g5 g6 g7 g8
  have hm:=mulL i 3 C (by omega) (by omega)
  refine ⟨.mk (by omega) hkl (by omega) (by omega) g8.1,⟨?_,g8.2.node,rfl⟩,g3,?_,g5,?_⟩
  · simp only [T.size]; omega
  · omega
  · omega
 cases rt
 case' true =>
  conv=>whnf
  refine ⟨[0],false,?_⟩
  conv=>whnf
  refine ht.mono ?_
  rintro o st' ⟨tx,htx,rfl,rfl⟩
 case' false =>
  obtain ⟨tx,htx,htx0⟩:∃ tx:List UInt8,tx.length≤12∧tx=[]:=⟨[],by simp,rfl⟩
 all_goals
  conv=>whnf
  refine loop_drop (fun n fr st=>∃ (i:Nat) (kids:List T) (p' k':Int) (tx:List UInt8),n+i=items.length∧kids.length≤3*i∧(T.sizeL kids:Int)≤i*C∧(p≤p'∧p'≤p+1+i*C)∧(k≤k'∧k'≤k+1+i*C)∧tx.length≤12∧((∀ t∈kids,t.Small)∧KN (T.idsL kids) (k+1) k k') ∧
    Holds fr [(0,.ptr 0 0 0),(2,.int .i64 d),(3,.ptr 1 0 0),(8,.ptr 2 0 0),(9,.ptr 3 0 0),(11,.ptr 5 0 0),(12,.int .i64 i)] ∧
    st=[rdO bs p',nxO k',bxO zrow 4,bxO [.int .i64 k,.str kind,.str tx,kidsV kids 6] 4,bxO [.str kDoc,.sl rules] 2,⟨[[.str rk,.bool _,.sl irows]],3,true,true,true,.cell⟩]++kidsO kids) items.length none
   ⟨0,[],_,k+1,_,by omega,by simp,by simp [T.sizeL],by simp <;> omega,by simp <;> omega,by first | exact htx | (simp; done),⟨by simp,KN.nil k⟩,⟨rfl,rfl,rfl,rfl,rfl,rfl,rfl,trivial⟩,rfl⟩ ?_
  rintro n fr st ⟨i,kids,p',k',tx',hi,b1,b2,b3,b4,b5,b6,hh,rfl⟩
  obtain ⟨fr,rfl⟩:=hh.split
  clear hh
  have hmi:=mulL i 3 C (by omega) (by omega)
  by_cases hlt:i < items.length
  · by_cases hd4:d < 4
    ·
     have hcT:=hT hd4
     have hm2:=mulL i 2 C (by omega) (by omega)
     have hm0:=mul0 i C (by omega)
     have hmS:=mulS i C
     clear hmi
     have hgi:=hg i hlt
     have hki:=hgk i hlt
     generalize items[i].kind=ik at *
     generalize items[i].many=im at *
     generalize items[i].may=iy at *
     have hp2:=pick_full bs p' 2 hb (by omega) (by omega)
     have hp4:=pick_full bs (p'+1) 4 hb (by omega) (by omega)
     have wd:IntKind.i64.wrap (d+1)=d+1:=wrap64 (by omega) (by omega)
     cases kids
     all_goals
      conv=>whnf
      rw [hlr,ltB_t (by omega)]
      conv=>whnf
      rw [ltB_t hd4]
      conv=>whnf
      refine ⟨[0],false,?_⟩
      conv=>whnf
      refine hp2.mono ?_
      rintro o st' ⟨c,c0,c1,rfl,rfl⟩
      conv=>whnf
      refine ⟨by omega,irows,_,3,rfl,hgi,rfl,rfl,?_⟩
      conv=>whnf
      cases im
      case' true =>
       conv=>whnf
       refine ⟨[0],false,?_⟩
       conv=>whnf
       refine hp4.mono ?_
       rintro o st' ⟨c,c0,c1,rfl,rfl⟩
     all_goals
      have hc4:c < 4:=by first | exact c1 (by omega) | (have:=c1 (by omega); omega)
      clear c1
      conv=>whnf
      refine loop_drop (fun m fr st=>∃ (q:Nat) (kids:List T) (p' k':Int) (tx:List UInt8),(m:Int)+q=c∧kids.length≤3*i+q∧(T.sizeL kids:Int)≤i*C+q*B∧(p≤p'∧p'≤p+3+i*C+q*B)∧(k≤k'∧k'≤k+1+i*C+q*B)∧tx.length≤12∧((∀ t∈kids,t.Small)∧KN (T.idsL kids) (k+1) k k') ∧
        Holds fr [(0,.ptr 0 0 0),(2,.int .i64 d),(3,.ptr 1 0 0),(8,.ptr 2 0 0),(9,.ptr 3 0 0),(11,.ptr 5 0 0),(12,.int .i64 i),(13,.int .i64 c),(14,.int .i64 q)] ∧
        st=[rdO bs p',nxO k',bxO zrow 4,bxO [.int .i64 k,.str kind,.str tx,kidsV kids 6] 4,bxO [.str kDoc,.sl rules] 2,⟨[[.str rk,.bool _,.sl irows]],3,true,true,true,.cell⟩]++kidsO kids) c.toNat none
       ⟨0,_,_,k',tx',by omega,b1,by simp <;> omega,by simp <;> omega,by simp <;> omega,b5,b6,⟨rfl,rfl,rfl,rfl,rfl,rfl,rfl,rfl,rfl,trivial⟩,rfl⟩ ?_
      rintro m fr st ⟨q,kids2,p2,k2,tx2,e1,d1,d2,d3,d4,d5,d6,hh,rfl⟩
      obtain ⟨fr,rfl⟩:=hh.split
      clear hh
      have hqL:=mulL q 3 B (by omega) (by omega)
      have hq0:=mul0 q B (by omega)
      have hqS:=mulS q B
      have out:(3*i+q≤3*(i+1))∧(T.sizeL kids2:Int)≤((i+1:Nat):Int)*C∧(p≤p2∧p2≤p+1+((i+1:Nat):Int)*C)∧(k≤k2∧k2≤k+1+((i+1:Nat):Int)*C):=by
       rw [hmS]; omega
      have wi:V.int .i64 (IntKind.i64.wrap (i+1))=.int .i64 ((i+1:Nat):Int):=by
       rw [wrap64 (by omega) (by omega)]; simp
      by_cases hq:(q:Int) < c
      · have hqL:=mulL q 2 B (by omega) (by omega)
        have hcall:=hcT p2 k2 ik (by omega) (by omega) (by omega) (by omega) hki
        by_cases hk14:k2.tmod 100 < 14
        · have wq:V.int .i64 (IntKind.i64.wrap (q+1))=.int .i64 ((q+1:Nat):Int):=by
           rw [wrap64 (by omega) (by omega)]; simp
          rcases kids2 with _ | ⟨t0,ts⟩
          all_goals
           conv=>whnf
           rw [ltB_t hq]
           conv=>whnf
           refine ⟨by decide,?_⟩
           conv=>whnf
           rw [ltB_t hk14]
           conv=>whnf
           refine ⟨by omega,irows,_,3,rfl,hgi,rfl,rfl,?_⟩
           conv=>whnf
           rw [wd]
           refine ⟨[0,1],false,?_⟩
           conv=>whnf
           refine hcall.mono ?_
           rintro o st' ⟨t,p3,k3,s1,s2,s3,s4,s5,s6,rfl,rfl⟩
           rcases t with ⟨tid,tk,ttx,tks⟩
           conv=>whnf
           refine ⟨by conv=>whnf
                      rfl,?_⟩
           conv=>whnf
           refine ⟨fun m hm=>by rw [List.mem_singleton.1 hm]; rfl,?_⟩
           conv=>whnf
          · refine ⟨by show 1*64≤_; omega,.inr ⟨(by intro e; cases e),?_⟩⟩
            conv=>whnf
            refine ⟨m - 1,by omega,some [0,1,2,3,4,5,7],?_⟩
            conv=>whnf
            exact ⟨q+1,[.mk tid tk ttx tks],p3,k3,tx2,by omega,by simp; omega,by rw [hqS]; simp only [T.sizeL]; omega,by rw [hqS]; omega,by rw [hqS]; omega,d5,⟨by simpa using s1,KN.snoc (kids:=[]) k0 d6.2 (by omega) s2.2.1⟩,⟨rfl,rfl,rfl,rfl,rfl,rfl,rfl,rfl,wq,trivial⟩,rfl⟩
          · refine ⟨by
             show ((T.rows (t0::ts)).length+1)*64≤_
             rw [Go.Cod.rows_len]; omega,?_⟩
            conv=>whnf
            refine ⟨m - 1,by omega,some [0,1,2,3,4,5,8],?_⟩
            conv=>whnf
            refine ⟨q+1,(t0::ts)++[.mk tid tk ttx tks],p3,k3,tx2,by omega,by simp at d1 ⊢; omega,by rw [hqS,T.sizeL_append]; simp only [T.sizeL] at d2 s2 ⊢; omega,by rw [hqS]; omega,by rw [hqS]; omega,d5,⟨small_snoc d6.1 s1,KN.snoc k0 d6.2 (by omega) s2.2.1⟩,⟨rfl,rfl,rfl,rfl,rfl,rfl,rfl,rfl,wq,trivial⟩,?_⟩
            rw [kidsO_snoc]
            rfl
        · cases kids2
          all_goals
           conv=>whnf
           rw [ltB_t hq]
           conv=>whnf
           refine ⟨by decide,?_⟩
           conv=>whnf
           rw [ltB_f (by omega)]
           conv=>whnf
           exact ⟨n - 1,by omega,none,i+1,_,p2,k2,tx2,by omega,by omega,out.2.1,out.2.2.1,out.2.2.2,d5,d6,⟨rfl,rfl,rfl,rfl,rfl,rfl,wi,trivial⟩,rfl⟩
      · cases kids2
        all_goals
         conv=>whnf
         rw [ltB_f (by omega)]
         conv=>whnf
         exact ⟨n - 1,by omega,none,i+1,_,p2,k2,tx2,by omega,by omega,out.2.1,out.2.2.1,out.2.2.2,d5,d6,⟨rfl,rfl,rfl,rfl,rfl,rfl,wi,trivial⟩,rfl⟩
    · cases kids
      all_goals
       conv=>whnf
       rw [hlr,ltB_t (by omega)]
       conv=>whnf
       rw [ltB_f (by omega)]
       conv=>whnf
       refine ⟨[],false,?_⟩
       conv=>whnf
       exact ⟨.mk k kind tx' _,p',k',(fin i _ p' k' tx' (by omega) b1 b2 b3.1 b3.2 b4.1 b4.2 b5 b6).1,(fin i _ p' k' tx' (by omega) b1 b2 b3.1 b3.2 b4.1 b4.2 b5 b6).2.1,by omega,by omega,by omega,by omega,rfl,rfl⟩
  · cases kids
    all_goals
     conv=>whnf
     rw [hlr,ltB_f (by omega)]
     conv=>whnf
     refine ⟨[],false,?_⟩
     conv=>whnf
     exact ⟨.mk k kind tx' _,p',k',(fin i _ p' k' tx' (by omega) b1 b2 b3.1 b3.2 b4.1 b4.2 b5 b6).1,(fin i _ p' k' tx' (by omega) b1 b2 b3.1 b3.2 b4.1 b4.2 b5 b6).2.1,by omega,by omega,by omega,by omega,rfl,rfl⟩
theorem l11Tree_3 (bs:List UInt8) (hb:bs.length≤2000):TreeC bs 3 256:=by
 have h4:=l11Tree_step bs hb 4 1 (by omega) (by omega) (by omega) (fun h=>by omega)
 exact l11Tree_step bs hb 3 16 (by omega) (by omega) (by omega) (fun _=>h4)
theorem l11Tree_1 (bs:List UInt8) (hb:bs.length≤2000):TreeC bs 1 65536:=by
 have h2:=l11Tree_step bs hb 2 256 (by omega) (by omega) (by omega) (fun _=>l11Tree_3 bs hb)
 exact l11Tree_step bs hb 1 4096 (by omega) (by omega) (by omega) (fun _=>h2)
def TreeR1 (bs:List UInt8) (p B:Int) (o:Out) (st':St):Prop:=∃ (t:T) (p':Int),t.Small∧((t.size:Int)≤B∧t.ids.Nodup∧(∀ i∈t.ids,1≤i∧i < 20)∧t.id=1)∧p≤p'∧p'≤p+B∧o=.ret (.agg t.cells)∧st'=[rdO bs p']
theorem l11Doc_full (bs:List UInt8) (hb:bs.length≤2000) (p:Int) (p0:0≤p) (p1:p+65536≤1073741824):Full Tryd.prog noY 60 [.ptr 0 0 0] [rdO bs p] (TreeR1 bs p 65536):=by
 have h:=l11Tree_1 bs hb p 1 kDoc p0 p1 (by omega) (by omega) (by decide)
 refine full_of_awp good Tryd.func60 rfl (by kernel_rfl) (by decide) ?_
 conv=>whnf
 refine ⟨[0,2],false,?_⟩
 conv=>whnf
 refine h.mono ?_
 rintro o st' ⟨t,p',k',s1,s2,s3,s4,s5,s6,rfl,rfl⟩
 rcases t with ⟨tid,tk,ttx,tks⟩
 conv=>whnf
 refine ⟨[],false,?_⟩
 conv=>whnf
 exact ⟨.mk tid tk ttx tks,p',s1,⟨s2.1,s2.2.1.ones.1,s2.2.1.ones.2,s2.2.2⟩,s3,s4,rfl,rfl⟩
end Go.Cod
set_option linter.all false
namespace Go.Cod
open Go Go.Proofs
set_option maxRecDepth 10000
def kindsW:List (List UInt8):=[kDoc,kSec,kPar,kTitle,[120]]
theorem kindsW_len (kind:List UInt8) (h:kind∈kindsW):kind.length≤1048576:=by
 simp only [kindsW,List.mem_cons,List.not_mem_nil,or_false] at h
 rcases h with rfl | rfl | rfl | rfl | rfl <;> decide
def WildC (bs:List UInt8) (d B:Int):Prop:=∀ (p k:Int),0≤p→p+B≤1073741824→0≤k→k+B≤1073741824 →
 Full Tryd.prog noY 61 [.ptr 0 0 0,.int .i64 d,.ptr 1 0 0] [rdO bs p,nxO k] (TreeR bs p k B)
def WildJ (bs:List UInt8) (d p k B:Int) (kd tx:List UInt8) (n:Nat) (fr:Nat→V) (st:St):Prop:=∃ (kids:List T) (p' k':Int),kids.length+n≤3∧(T.sizeL kids:Int)+n*B≤3*B∧(p≤p'∧p'+n*B≤p+3+3*B)∧(k≤k'∧k'+n*B≤k+1+3*B)∧((∀ t∈kids,t.Small)∧KN (T.idsL kids) (k+1) k k') ∧
 Holds fr [(0,.ptr 0 0 0),(1,.int .i64 d),(2,.ptr 1 0 0),(6,.ptr 2 0 0),(7,.ptr 3 0 0),(8,.int .i64 n)] ∧
 st=[rdO bs p',nxO k',bxO zrow 4,bxO [.int .i64 k,.str kd,.str tx,kidsV kids 4] 4]++kidsO kids
set_option maxHeartbeats 8000000 in
theorem l11Wild_step (bs:List UInt8) (hb:bs.length≤2000) (d B:Int) (hB:1≤B) (hB':B≤65536) (hd:0≤d∧d≤1000) (hT:d < 6→WildC bs (d+1) B):WildC bs d (8*B):=by
 intro p k p0 p1 k0 k1
 have hof:=of_full bs p kindsW hb p0 (by omega) (by decide) (by decide)
 have ht:=l11Text_full bs (p+1) hb (by omega) (by omega)
 have hp4:=pick_full bs (p+1+1) 4 hb (by omega) (by omega)
 have mulS:∀ (i:Nat) (X:Int),((i+1:Nat):Int)*X=i*X+X:=fun i X=>by
  rw [Int.natCast_add,Int.add_mul]; simp
 have mulL:∀ (i n:Nat) (X:Int),0≤X→i≤n→(i:Int)*X≤n*X:=fun i n X hX h=>Int.mul_le_mul_of_nonneg_right (by omega) hX
 have mul0:∀ (i:Nat) (X:Int),0≤X→0≤(i:Int)*X:=fun i X hX=>Int.mul_nonneg (by omega) hX
 have wd:IntKind.i64.wrap (d+1)=d+1:=wrap64 (by omega) (by omega)
 have w1:IntKind.i64.wrap (k+1)=k+1:=wrap64 (by omega) (by omega)
 have fin:∀ (m:Nat) (kids:List T) (p' k':Int) (kd tx:List UInt8),kids.length+m≤3→(T.sizeL kids:Int)+m*B≤3*B→p≤p'→p'+m*B≤p+3+3*B→k≤k'→k'+m*B≤k+1+3*B→kd.length≤1048576→tx.length≤12→((∀ t∈kids,t.Small)∧KN (T.idsL kids) (k+1) k k') →
   (T.mk k kd tx kids).Small∧(((T.mk k kd tx kids).size:Int)≤8*B∧KN (T.mk k kd tx kids).ids k k k'∧(T.mk k kd tx kids).id=k)∧p≤p'∧p'≤p+8*B∧k≤k'∧k'≤k+8*B:=by
  intro m kids p' k' kd tx g1 g2 g3 g4 g5 g6 g7 g8 g9
  have:=mul0 m B (by omega)
  refine ⟨.mk (by omega) g7 (by omega) (by omega) g9.1,⟨?_,g9.2.node,rfl⟩,g3,?_,g5,?_⟩
  · simp only [T.size]; omega
  · omega
  · omega
 refine full_of_awp good Tryd.func61 rfl (by kernel_rfl) (by decide) ?_
 conv=>whnf
 repeat' (first
  | (refine ⟨[0],false,?_⟩
     conv=>whnf
     first
      | (refine hof.mono ?_
         rintro o st' ⟨kd,hkd,rfl,rfl⟩)
      | (refine ht.mono ?_
         rintro o st' ⟨tx,htx,rfl,rfl⟩)
     conv=>whnf
     refine ⟨by conv=>whnf
                rfl,?_⟩
     conv=>whnf)
  | (refine And.intro ?_ ?_ <;> (conv=>whnf)))
 all_goals
  rw [w1]
  have hkl:=kindsW_len kd hkd
  refine ⟨[0],false,?_⟩
  conv=>whnf
  refine hp4.mono ?_
  rintro o st' ⟨c,c0,c1,rfl,rfl⟩
  have c1:=c1 (by omega)
  have hcB:=mulL c.toNat 3 B (by omega) (by omega)
  have hcc:V.int .i64 c=.int .i64 (c.toNat:Int):=by rw [Int.toNat_of_nonneg c0]
  conv=>whnf
  first
   | refine loop_drop (WildJ bs d p k B kd tx) c.toNat (some [0,1,2,3]) (by
      conv=>whnf
      exact ⟨[],p+1+1+1,k+1,by simp only [List.length_nil]; omega,by simp only [T.sizeL]; omega,by omega,by omega,⟨by simp,KN.nil k⟩,⟨rfl,rfl,rfl,rfl,rfl,hcc,trivial⟩,rfl⟩) ?_
   | refine loop_drop (WildJ bs d p k B kd tx) c.toNat (some [0,1,2,4]) (by
      conv=>whnf
      exact ⟨[],p+1+1+1,k+1,by simp only [List.length_nil]; omega,by simp only [T.sizeL]; omega,by omega,by omega,⟨by simp,KN.nil k⟩,⟨rfl,rfl,rfl,rfl,rfl,hcc,trivial⟩,rfl⟩) ?_
 all_goals
  rintro n fr st ⟨kids,p',k',b1,b2,b3,b4,b6,hh,rfl⟩
  obtain ⟨fr,rfl⟩:=hh.split
  clear hh
  have hfin:=fin n kids p' k' kd tx b1 b2 b3.1 b3.2 b4.1 b4.2 hkl (by omega) b6
  by_cases hn:0 < n
  · obtain ⟨n,rfl⟩:∃ m,n=m+1:=⟨n - 1,by omega⟩
    have hnS:=mulS n B
    have hn0:=mul0 n B (by omega)
    rw [hnS] at b2 b3 b4
    have wn:V.int .i64 (IntKind.i64.wrap (((n+1:Nat):Int) - 1))=.int .i64 (n:Int):=by
     rw [wrap64 (by omega) (by omega)]; congr 1; omega
    by_cases hd6:d < 6
    · have hcall:=hT hd6 p' k' (by omega) (by omega) (by omega) (by omega)
      by_cases hk18:k'.tmod 100 < 18
      · rcases kids with _ | ⟨t0,ts⟩
        all_goals
         conv=>whnf
         rw [ltB_t (by omega)]
         conv=>whnf
         rw [ltB_t hd6]
         conv=>whnf
         refine ⟨by decide,?_⟩
         conv=>whnf
         rw [ltB_t hk18]
         conv=>whnf
         rw [wd]
         refine ⟨[0,1],false,?_⟩
         conv=>whnf
         refine hcall.mono ?_
         rintro o st' ⟨t,p3,k3,s1,s2,s3,s4,s5,s6,rfl,rfl⟩
         rcases t with ⟨tid,tk,ttx,tks⟩
         conv=>whnf
         refine ⟨by conv=>whnf
                    rfl,?_⟩
         conv=>whnf
         refine ⟨fun m hm=>by rw [List.mem_singleton.1 hm]; rfl,?_⟩
         conv=>whnf
        · refine ⟨by show 1*64≤_; omega,.inr ⟨(by intro e; cases e),?_⟩⟩
          conv=>whnf
          refine ⟨n,by omega,some [0,1,2,3,5],?_⟩
          conv=>whnf
          exact ⟨[.mk tid tk ttx tks],p3,k3,by simp at b1 ⊢; omega,by simp only [T.sizeL] at b2 ⊢; omega,by omega,by omega,⟨by simpa using s1,KN.snoc (kids:=[]) k0 b6.2 hk18 s2.2.1⟩,⟨rfl,rfl,rfl,rfl,rfl,wn,trivial⟩,rfl⟩
        · refine ⟨by
           show ((T.rows (t0::ts)).length+1)*64≤_
           rw [Go.Cod.rows_len]; omega,?_⟩
          conv=>whnf
          refine ⟨n,by omega,some [0,1,2,3,6],?_⟩
          conv=>whnf
          refine ⟨(t0::ts)++[.mk tid tk ttx tks],p3,k3,by simp at b1 ⊢; omega,by rw [T.sizeL_append]; simp only [T.sizeL] at b2 s2 ⊢; omega,by omega,by omega,⟨small_snoc b6.1 s1,KN.snoc k0 b6.2 hk18 s2.2.1⟩,⟨rfl,rfl,rfl,rfl,rfl,wn,trivial⟩,?_⟩
          rw [kidsO_snoc]
          rfl
      · cases kids
        all_goals
         conv=>whnf
         rw [ltB_t (by omega)]
         conv=>whnf
         rw [ltB_t hd6]
         conv=>whnf
         refine ⟨by decide,?_⟩
         conv=>whnf
         rw [ltB_f (by omega)]
         conv=>whnf
         refine ⟨[],false,?_⟩
         conv=>whnf
         exact ⟨.mk k kd tx _,p',k',hfin.1,hfin.2.1,by omega,by omega,by omega,by omega,rfl,rfl⟩
    · cases kids
      all_goals
       conv=>whnf
       rw [ltB_t (by omega)]
       conv=>whnf
       rw [ltB_f (by omega)]
       conv=>whnf
       refine ⟨[],false,?_⟩
       conv=>whnf
       exact ⟨.mk k kd tx _,p',k',hfin.1,hfin.2.1,by omega,by omega,by omega,by omega,rfl,rfl⟩
  · cases kids
    all_goals
     conv=>whnf
     rw [ltB_f (by omega)]
     conv=>whnf
     refine ⟨[],false,?_⟩
     conv=>whnf
     exact ⟨.mk k kd tx _,p',k',hfin.1,hfin.2.1,by omega,by omega,by omega,by omega,rfl,rfl⟩
theorem l11Wild_1 (bs:List UInt8) (hb:bs.length≤2000):WildC bs 1 262144:=by
 have h6:=l11Wild_step bs hb 6 1 (by omega) (by omega) (by omega) (fun h=>by omega)
 have h5:=l11Wild_step bs hb 5 8 (by omega) (by omega) (by omega) (fun _=>h6)
 have h4:=l11Wild_step bs hb 4 64 (by omega) (by omega) (by omega) (fun _=>h5)
 have h3:=l11Wild_step bs hb 3 512 (by omega) (by omega) (by omega) (fun _=>h4)
 have h2:=l11Wild_step bs hb 2 4096 (by omega) (by omega) (by omega) (fun _=>h3)
 exact l11Wild_step bs hb 1 32768 (by omega) (by omega) (by omega) (fun _=>h2)
theorem l11AnyTree_full (bs:List UInt8) (hb:bs.length≤2000) (p:Int) (p0:0≤p) (p1:p+262145≤1073741824):Full Tryd.prog noY 42 [.ptr 0 0 0] [rdO bs p] (TreeR1 bs p 262145):=by
 have hp:=pick_full bs p 2 hb (by omega) (by omega)
 have hd:=l11Doc_full bs hb (p+1) (by omega) (by omega)
 have hw:=l11Wild_1 bs hb (p+1) 1 (by omega) (by omega) (by omega) (by omega)
 refine full_of_awp good Tryd.func42 rfl (by kernel_rfl) (by decide) ?_
 conv=>whnf
 refine ⟨[0],false,?_⟩
 conv=>whnf
 refine hp.mono ?_
 rintro o st' ⟨c,c0,c1,rfl,rfl⟩
 conv=>whnf
 by_cases hc:c=0
 · rw [eqB_t hc]
   conv=>whnf
   refine ⟨[0],false,?_⟩
   conv=>whnf
   refine hd.mono ?_
   rintro o st' ⟨t,p',s1,s2,s3,s4,rfl,rfl⟩
   rcases t with ⟨tid,tk,ttx,tks⟩
   conv=>whnf
   refine ⟨[],false,?_⟩
   conv=>whnf
   exact ⟨.mk tid tk ttx tks,p',s1,⟨by omega,s2.2⟩,by omega,by omega,rfl,rfl⟩
 · rw [eqB_f hc]
   conv=>whnf
   refine ⟨[0,2],false,?_⟩
   conv=>whnf
   refine hw.mono ?_
   rintro o st' ⟨t,p',k',s1,s2,s3,s4,s5,s6,rfl,rfl⟩
   rcases t with ⟨tid,tk,ttx,tks⟩
   conv=>whnf
   refine ⟨[],false,?_⟩
   conv=>whnf
   exact ⟨.mk tid tk ttx tks,p',s1,⟨by omega,s2.2.1.ones.1,s2.2.1.ones.2,s2.2.2⟩,by omega,by omega,rfl,rfl⟩
end Go.Cod
set_option linter.all false
namespace Go.Cod
open Go Go.Proofs
set_option maxRecDepth 10000
theorem l2Copy_own (t:T) (ht:t.Small) :
  Full Tryd.prog noY 62 [.agg t.cells] [] (fun o st'=>o=.ret (.agg [.int .i64 t.id,.str t.kind,.str t.text,kidsV t.kids 0])∧st'=kidsO t.kids):=by
 have hT:∀ t'∈t.kids,Pure Tryd.prog 62 [.agg t'.cells] (·=.agg t'.cells):=fun t' h=>by
  cases ht with
  | mk g1 g2 g3 g4 g5=>exact l2Copy_pure t' (g5 t' h)
 cases ht with
 | @mk id kind text kids g1 g2 g3 g4 g5 =>
 simp only [T.kids,T.id,T.kind,T.text] at hT ⊢
 have hlr:=Go.Cod.rows_len kids
 refine full_of_awp good Tryd.func62 rfl (by kernel_rfl) (by decide) ?_
 conv=>whnf
 refine loop_drop (fun n fr st=>∃ i:Nat,n+i=kids.length∧Holds fr [(1,.ptr 0 0 0),(2,.ptr 1 0 0),(3,.ptr 2 0 0),(4,.int .i64 i)] ∧
   ((i=0∧st=[⟨[[.int .i64 id,.str kind,.str text,.sl (T.rows kids)]],4,true,true,true,.cell⟩,⟨[zrow],4,true,true,true,.cell⟩,⟨[[.int .i64 id,.str kind,.str text,.nils]],4,true,true,true,.cell⟩]) ∨
    (0 < i∧st=[⟨[[.int .i64 id,.str kind,.str text,.sl (T.rows kids)]],4,true,true,true,.cell⟩,⟨[zrow],4,true,true,true,.cell⟩,⟨[[.int .i64 id,.str kind,.str text,.own 3]],4,true,true,true,.cell⟩,⟨T.rows (kids.take i),4,true,true,false,.cell⟩]))) kids.length none
  ⟨0,rfl,⟨rfl,rfl,rfl,rfl,trivial⟩,.inl ⟨rfl,rfl⟩⟩ ?_
 rintro n fr st ⟨i,hi,hh,hst⟩
 obtain ⟨fr,rfl⟩:=hh.split
 clear hh
 rcases hst with ⟨rfl,rfl⟩ | ⟨hi0,rfl⟩
 · conv=>whnf
   by_cases hlt:0 < kids.length
   · rw [hlr,ltB_t (by omega)]
     conv=>whnf
     refine ⟨by omega,T.rows kids,kids[0].cells,4,rfl,rows_get kids 0 hlt,rfl,Go.Cod.cells_len _,?_⟩
     have hc:=hT kids[0] (List.getElem_mem _)
     have htk:=T.rows_take kids 0 hlt
     generalize kids[0]=t at hc htk
     cases t with
     | mk id' kind' text' kids' =>
     conv=>whnf
     refine ⟨_,.inl hc,?_⟩
     conv=>whnf
     refine ⟨fun m hm=>by rw [List.mem_singleton.1 hm]; rfl,?_⟩
     conv=>whnf
     refine ⟨by show 1*64≤_; omega,.inr ⟨(by intro e; cases e),?_⟩⟩
     conv=>whnf
     refine ⟨n - 1,by omega,some [0,1,2,4],?_⟩
     conv=>whnf
     refine ⟨1,by omega,⟨rfl,rfl,rfl,rfl,trivial⟩,.inr ⟨by omega,?_⟩⟩
     rw [htk]
     rfl
   · rw [hlr,ltB_f (by omega)]
     conv=>whnf
     have:kids=[]:=List.eq_nil_of_length_eq_zero (by omega)
     subst this
     refine ⟨[],true,?_⟩
     conv=>whnf
     exact ⟨rfl,rfl⟩
 · conv=>whnf
   by_cases hlt:i < kids.length
   · rw [hlr,ltB_t (by omega)]
     conv=>whnf
     refine ⟨by omega,T.rows kids,kids[i].cells,4,rfl,rows_get kids i hlt,rfl,Go.Cod.cells_len _,?_⟩
     have hc:=hT kids[i] (List.getElem_mem _)
     have htk:=T.rows_take kids i hlt
     generalize kids[i]=t at hc htk
     cases t with
     | mk id' kind' text' kids' =>
     conv=>whnf
     refine ⟨_,.inl hc,?_⟩
     conv=>whnf
     refine ⟨fun m hm=>by rw [List.mem_singleton.1 hm]; rfl,?_⟩
     conv=>whnf
     refine ⟨by
      show ((T.rows (kids.take i)).length+1)*64≤_
      rw [Go.Cod.rows_len,List.length_take]; omega,?_⟩
     conv=>whnf
     refine ⟨n - 1,by omega,some [0,1,2,5],?_⟩
     conv=>whnf
     refine ⟨i+1,by omega,⟨rfl,rfl,rfl,?_,trivial⟩,.inr ⟨by omega,?_⟩⟩
     · show V.int .i64 (IntKind.i64.wrap (i+1))=_
       rw [wrap64 (by omega) (by omega)]; simp
     · rw [htk]
       rfl
   · rw [hlr,ltB_f (by omega)]
     conv=>whnf
     rw [List.take_of_length_le (by omega)]
     refine ⟨[3],true,?_⟩
     conv=>whnf
     obtain ⟨t0,ts,rfl⟩:∃ t0 ts,kids=t0::ts:=by
      cases kids with
      | nil=>simp at hi; omega
      | cons a b=>exact ⟨a,b,rfl⟩
     exact ⟨rfl,rfl⟩
end Go.Cod
set_option linter.all false
namespace Go.Cod
open Go Go.Proofs
set_option maxRecDepth 10000
def wideN:Nat→List T
 | 0=>[]
 | i+1=>wideN i++[.mk (600+i) [112,97,114] [] []]
def deepN (t:T):Nat→T
 | 0=>t
 | i+1=>.mk (500+i) [120] [] [deepN t i]
inductive SpoilOf:T→T→Prop
 | kid {id:Int} {kind text:List UInt8} {kids:List T} (i:Nat) (h:i < kids.length) (t':T) (hs:SpoilOf kids[i] t'):SpoilOf (.mk id kind text kids) (.mk id kind text (kids.set i t'))
 | id {id:Int} {kind text:List UInt8} {kids:List T} (z:Int) (hz:z=0∨z=-1∨z=999∨z=1000∨z=1):SpoilOf (.mk id kind text kids) (.mk z kind text kids)
 | word {id:Int} {kind text:List UInt8} {kids:List T} (k' x':List UInt8):SpoilOf (.mk id kind text kids) (.mk id k' x' kids)
 | twice {id:Int} {kind text:List UInt8} {kids:List T}:SpoilOf (.mk id kind text kids) (.mk id kind text (kids++[.mk id kind text kids]))
 | deep {t:T}:SpoilOf t (deepN t 6)
 | wide {id:Int} {kind text:List UInt8} {kids:List T}:SpoilOf (.mk id kind text kids) (.mk id kind text (kids++wideN 20))
theorem wide_snoc {xi id:Int} {xk xt kind text:List UInt8} {xs kids:List T} {i:Nat} (h:T.mk xi xk xt xs=.mk id kind text (kids++wideN i)):T.mk xi xk xt (xs++[.mk (600+i) [112,97,114] [] []])=.mk id kind text (kids++wideN (i+1)):=by
 cases h
 simp only [wideN,List.append_assoc]
def SpoilR (bs:List UInt8) (t:T) (p:Int) (o:Out) (st':St):Prop:=∃ (t':T) (p':Int),t'.Small∧((t'.size:Int)≤2*t.size+20∧SpoilOf t t')∧p≤p'∧p'≤p+2*t.size+2∧o=.ret (.agg t'.cells)∧st'=[rdO bs p']
theorem size_pos (t:T):1≤t.size:=by cases t; simp [T.size]; try omega
theorem sizeL_get:∀ (ts:List T) (i:Nat) (h:i < ts.length),ts[i].size≤T.sizeL ts
 | t::ts,0,_=>by simp [T.sizeL]
 | t::ts,i+1,h=>by
   have:=sizeL_get ts i (by simpa using h)
   simp [T.sizeL]; omega
theorem sizeL_set:∀ (ts:List T) (i:Nat) (h:i < ts.length) (t':T),T.sizeL (ts.set i t')+ts[i].size=T.sizeL ts+t'.size
 | t::ts,0,_,t'=>by simp [T.sizeL]; omega
 | t::ts,i+1,h,t'=>by
   have:=sizeL_set ts i (by simpa using h) t'
   simp [T.sizeL]; omega
theorem length_le_sizeL:∀ ts:List T,ts.length≤T.sizeL ts
 | []=>by simp
 | t::ts=>by
   have:=length_le_sizeL ts
   have:=size_pos t
   simp [T.sizeL]; omega
theorem rows_set (ts:List T) (i:Nat) (t':T):T.rows (ts.set i t')=(T.rows ts).set i t'.cells:=by
 rw [T.rows_eq,T.rows_eq,List.map_set]
mutual
theorem softT:∀ t:T,(V.agg t.cells).soft=.agg t.cells
 | .mk id kind text kids=>by
   have h:=softRows kids
   simp only [T.cells,V.soft,V.softL,h]
theorem softRows:∀ ts:List T,V.softLL (T.rows ts)=T.rows ts
 | []=>rfl
 | t::ts=>by
   have h1:=softT t
   simp only [V.soft,V.agg.injEq] at h1
   simp only [T.rows,V.softLL,softRows ts,h1]
end
theorem softLL_append (a b:List (List V)):V.softLL (a++b)=V.softLL a++V.softLL b:=by simp [V.softLL_eq]
def kidsR (kids:List T) (R:List (List V)):List O:=match kids with
 | []=>[]
 | _::_=>[⟨R,4,true,true,false,.cell⟩]
def SpoilN (bs:List UInt8) (t:T) (p:Int) (o:Out) (st':St):Prop:=∃ (t':T) (p':Int),t'.Small∧((t'.size:Int)≤2*t.size+20∧SpoilOf t t')∧p≤p'∧p'≤p+2*t.size+2∧(∃ v,o=.ret v∧v.soft=.agg t'.cells)∧st'=[rdO bs p']
def SpJ (bs:List UInt8) (q:Int) (o1:O) (slot m sz:Nat) (F:Nat→T→Prop) (n:Nat) (fr:Nat→V) (st:St):Prop:=∃ (x:T) (i:Nat) (R:List (List V)),n+i=m∧x.Small∧(x.size≤sz+i∧F i x)∧V.softLL R=T.rows x.kids ∧
 Holds fr [(0,.ptr 0 0 0),(4,.ptr 2 0 0),(5,.ptr 3 0 0),(slot,.int .i64 i)]∧st=[rdO bs q,o1,bxO zrow 4,bxO [.int .i64 x.id,.str x.kind,.str x.text,kidsV x.kids 4] 4]++kidsR x.kids R
set_option maxHeartbeats 8000000 in
theorem spoil_full (bs:List UInt8) (hb:bs.length≤2000) (t:T) (ht:t.Small):∀ p:Int,0≤p→p+2*t.size+2≤1073741824→t.size≤500000 →
  Full Tryd.prog noY 43 [.ptr 0 0 0,.agg t.cells] [rdO bs p] (SpoilR bs t p):=by
 induction ht with
 | @mk id kind text kids g1 g2 g3 g4 g5 ih =>
 intro p p0 p1 p2
 have hcp:=l2Copy_own (.mk id kind text kids) (.mk g1 g2 g3 g4 g5)
 simp only [T.kids,T.id,T.kind,T.text] at hcp
 have hp2:=pick_full bs p 2 hb p0 (by omega)
 refine Full.soft (R:=SpoilN bs (.mk id kind text kids) p) ?_ ?_
 rotate_left
 · rintro o st' ⟨t',p',h1,h2,h3,h4,⟨v,rfl,hv⟩,rfl⟩
   exact ⟨t',p',h1,h2,h3,h4,by rw [← hv]; rfl,rfl⟩
 refine full_of_awp good Tryd.func43 rfl (by kernel_rfl) (by decide) ?_
 conv=>whnf
 refine .inr (.inl ⟨[],false,?_⟩)
 conv=>whnf
 refine hcp.mono ?_
 rintro o st' ⟨rfl,rfl⟩
 have hpc:∀ (q n:Int),0≤q→q≤1073741824→Full Tryd.prog noY 13 [.ptr 0 0 0,.int .i64 n] [rdO bs q] fun o st'=>∃ m:Int,0≤m∧(1≤n→m < n)∧o=.ret (.int .i64 m)∧st'=[rdO bs (q+1)]:=fun q n h0 h1=>pick_full bs q n hb h0 h1
 have hsz:((T.mk id kind text kids).size:Int)=1+T.sizeL kids:=by simp [T.size]
 rw [hsz] at p1
 have hk5:kids.length≤500000:=Nat.le_trans (length_le_sizeL kids) (by simp only [T.size] at p2; omega)
 have hk6:T.sizeL kids≤500000:=by simp only [T.size] at p2; omega
 have five:∀ c:Int,0≤c→c < 5→∃ z:Int,((-9223372036854775808≤z∧z≤9223372036854775807)∧(z=0∨z=-1∨z=999∨z=1000∨z=1))∧[[V.int .i64 0],[.int .i64 (-1)],[.int .i64 999],[.int .i64 1000],[.int .i64 1]][c.toNat]? = some [.int .i64 z]:=fun c h0 h1=>by
  obtain ⟨n,rfl⟩:∃ n:Nat,c=n:=⟨c.toNat,by omega⟩
  have:n < 5:=by omega
  match n,this with
  | 0,_=>exact ⟨0,by omega,rfl⟩
  | 1,_=>exact ⟨-1,by omega,rfl⟩
  | 2,_=>exact ⟨999,by omega,rfl⟩
  | 3,_=>exact ⟨1000,by omega,rfl⟩
  | 4,_=>exact ⟨1,by omega,rfl⟩
 have hmany:=l1Many_pure [116] 13 (by decide) (by decide) (by decide) (by decide)
 have hpure:=l2Copy_pure (.mk id kind text kids) (.mk g1 g2 g3 g4 g5)
 have tail:∀ (kk:List T) (q:Int),kk=kids→p+1≤q→q≤p+2 →
   (∀ (z:Int) (kd tx:List UInt8),(-9223372036854775808≤z∧z≤9223372036854775807)→kd.length≤1048576→tx.length≤1048576→(T.mk z kd tx kk).Small∧((T.mk z kd tx kk).size:Int)≤2*((T.mk id kind text kk).size:Int)+20) ∧
   (∀ x:T,x.Small→(x.size:Int)≤1+T.sizeL kk+20→(x.size:Int)≤2*((T.mk id kind text kk).size:Int)+20)∧q+1≤p+2*((T.mk id kind text kk).size:Int)+2∧q≤p+2*((T.mk id kind text kk).size:Int)+2:=by
  intro kk q hkk h1 h2
  subst hkk
  have:((T.mk id kind text kk).size:Int)=1+T.sizeL kk:=by simp [T.size]
  refine ⟨fun z kd tx q1 q2 q3=>⟨.mk q1 q2 q3 g4 g5,?_⟩,fun x _ hx=>by omega,by omega,by omega⟩
  have:((T.mk z kd tx kk).size:Int)=1+T.sizeL kk:=by simp [T.size]
  omega
 have hsm:=T.Small.mk g1 g2 g3 g4 g5
 cases kids
 case' nil =>
  conv=>whnf
  rw [ltB_f (by simp)]
  conv=>whnf
  refine ⟨[0],false,?_⟩
  conv=>whnf
  refine (hpc p 6 p0 (by omega)).mono ?_
  rintro o st' ⟨c,c0,c1,rfl,rfl⟩
  obtain ⟨tl1,tl2,tl3,tl4⟩:=tail _ (p+1) rfl (by omega) (by omega)
  have q0:0≤p+1∧p+1≤1073741822∧p≤p+1:=by omega
  generalize p+1=q at *
 case' cons k0 ks =>
  conv=>whnf
  rw [ltB_t (by rw [Go.Cod.rows_len]; simp)]
  conv=>whnf
  refine ⟨[0],false,?_⟩
  conv=>whnf
  refine hp2.mono ?_
  rintro o st' ⟨c,c0,c1,rfl,rfl⟩
  conv=>whnf
  by_cases e0:c=0
  · rw [eqB_t e0]
    conv=>whnf
    refine ⟨[0],false,?_⟩
    conv=>whnf
    refine (hpc (p+1) _ (by omega) (by omega)).mono ?_
    rintro o st' ⟨c,c0,c1,rfl,rfl⟩
    have hlr:=Go.Cod.rows_len (k0::ks)
    have hlk:(k0::ks).length=ks.length+1:=rfl
    have c1:=c1 (by rw [hlr,hlk]; omega)
    rw [hlr] at c1
    have hct:c.toNat < (k0::ks).length:=by omega
    have hg:=rows_get (k0::ks) c.toNat hct
    have hki:=ih (k0::ks)[c.toNat] (List.getElem_mem _) (p+1+1) (by omega)
    have hs1:=sizeL_get (k0::ks) c.toNat hct
    have hs2:=sizeL_set (k0::ks) c.toNat hct
    have hs3:=rows_set (k0::ks) c.toNat
    have hs5:∀ t':T,t'.Small→∀ x∈(k0::ks).set c.toNat t',x.Small:=fun t' h x hx=>(List.mem_or_eq_of_mem_set hx).elim (g5 x) (fun e=>e ▸ h)
    have hs6:∀ t':T,((k0::ks).set c.toNat t').length=(k0::ks).length:=fun t'=>List.length_set
    have hsk:∀ t',SpoilOf (k0::ks)[c.toNat] t'→SpoilOf (.mk id kind text (k0::ks)) (.mk id kind text ((k0::ks).set c.toNat t')):=fun t' h=>.kid c.toNat hct t' h
    generalize (k0::ks)[c.toNat]=kt at *
    have hki:=hki (by omega) (by omega)
    rcases kt with ⟨ti,tk,tx,tks⟩
    conv=>whnf
    refine ⟨c0,_,_,4,rfl,hg,rfl,rfl,?_⟩
    conv=>whnf
    refine AtRow_intro _ hg ?_
    conv=>whnf
    refine ⟨[0],false,?_⟩
    conv=>whnf
    refine hki.mono ?_
    rintro o st' ⟨t',p',s1,s2,s3,s4,rfl,rfl⟩
    have hs2:=hs2 t'
    have hs3:=hs3 t'
    have hs5:=hs5 t' s1
    have hs6:=hs6 t'
    have e1s:∀ X,(T.mk id kind text X).size=1+T.sizeL X:=fun X=>by simp [T.size]
    rcases t' with ⟨ti',tk',tx',tks'⟩
    conv=>whnf
    repeat (refine And.intro (by conv=>whnf
                                 first
                                  | rfl
                                  | exact ⟨c0,_,_,4,rfl,hg,rfl,rfl,rfl⟩
                                  | exact AtRow_intro _ hg rfl) ?_
            conv=>whnf)
    refine ⟨c0,_,_,4,rfl,hg,rfl,rfl,?_⟩
    conv=>whnf
    refine AtRow_intro _ hg ?_
    conv=>whnf
    refine ⟨[],false,?_⟩
    conv=>whnf
    refine ⟨.mk id kind text ((k0::ks).set c.toNat (.mk ti' tk' tx' tks')),p',.mk g1 g2 g3 (by rw [hs6]; omega) hs5,⟨by rw [e1s,e1s]; omega,hsk _ s2.2⟩,by omega,by rw [e1s]; omega,⟨_,rfl,?_⟩,rfl⟩
    refine Eq.trans ?_ (softT _)
    show (V.agg [.int .i64 id,.str kind,.str text,.sl ((T.rows (k0::ks)).set c.toNat (T.mk ti' tk' tx' tks').cells)]).soft=_
    rw [← hs3]
    rfl
  rw [eqB_f e0]
  conv=>whnf
  refine ⟨[0],false,?_⟩
  conv=>whnf
  refine (hpc (p+1) 6 (by omega) (by omega)).mono ?_
  rintro o st' ⟨c,c0,c1,rfl,rfl⟩
  obtain ⟨tl1,tl2,tl3,tl4⟩:=tail _ (p+1+1) rfl (by omega) (by omega)
  have q0:0≤p+1+1∧p+1+1≤1073741822∧p≤p+1+1:=by omega
  generalize p+1+1=q at *
 all_goals
  clear tail hsz hp2
  conv=>whnf
  by_cases e0:c=0
  · rw [eqB_t e0]
    conv=>whnf
    refine ⟨[0],false,?_⟩
    conv=>whnf
    refine (hpc q 5 (by omega) (by omega)).mono ?_
    rintro o st' ⟨c,c0,c1,rfl,rfl⟩
    obtain ⟨z,hz,hzg⟩:=five c c0 (c1 (by omega))
    conv=>whnf
    refine ⟨c0,_,_,1,rfl,hzg,rfl,rfl,?_⟩
    conv=>whnf
    refine AtRow_intro _ hzg ?_
    conv=>whnf
    refine ⟨[],false,?_⟩
    conv=>whnf
    exact ⟨.mk z kind text _,q+1,(tl1 z kind text hz.1 g2 g3).1,⟨(tl1 z kind text hz.1 g2 g3).2,.id z hz.2⟩,by omega,tl3,⟨.agg (T.cells (.mk z kind text _)),rfl,softT _⟩,rfl⟩
  rw [eqB_f e0]
  conv=>whnf
  by_cases e1:c=1
  · rw [eqB_t e1]
    conv=>whnf
    refine ⟨[0],false,?_⟩
    conv=>whnf
    refine (of_full bs q [[],[65],[116,111,111,108,111,110,103,110,97,109,101],[120]] hb (by omega) (by omega) (by decide) (by decide)).mono ?_
    rintro o st' ⟨s,hs,rfl,rfl⟩
    have hsl:s.length≤1048576:=by
     simp only [List.mem_cons,List.not_mem_nil,or_false] at hs
     rcases hs with rfl | rfl | rfl | rfl <;> decide
    conv=>whnf
    refine ⟨[],false,?_⟩
    conv=>whnf
    exact ⟨.mk id s text _,q+1,(tl1 id s text g1 hsl g3).1,⟨(tl1 id s text g1 hsl g3).2,.word s text⟩,by omega,tl3,⟨.agg (T.cells (.mk id s text _)),rfl,softT _⟩,rfl⟩
  rw [eqB_f e1]
  conv=>whnf
  by_cases e2:c=2
  · rw [eqB_t e2]
    conv=>whnf
    refine .inl (hmany.mono ?_)
    rintro r ⟨tt,htt,rfl⟩
    conv=>whnf
    refine ⟨[0],false,?_⟩
    conv=>whnf
    refine (of_full bs q [[34],[10],tt] hb (by omega) (by omega) (by simp) (by simp)).mono ?_
    rintro o st' ⟨s,hs,rfl,rfl⟩
    have hsl:s.length≤1048576:=by
     simp only [List.mem_cons,List.not_mem_nil,or_false] at hs
     rcases hs with rfl | rfl | rfl
     · decide
     · decide
     · rw [htt]; decide
    conv=>whnf
    refine ⟨[],false,?_⟩
    conv=>whnf
    exact ⟨.mk id kind s _,q+1,(tl1 id kind s g1 g2 hsl).1,⟨(tl1 id kind s g1 g2 hsl).2,.word kind s⟩,by omega,tl3,⟨.agg (T.cells (.mk id kind s _)),rfl,softT _⟩,rfl⟩
  rw [eqB_f e2]
  conv=>whnf
  by_cases e3:c=3
  · rw [eqB_t e3]
    conv=>whnf
    refine ⟨_,.inl hpure,?_⟩
    conv=>whnf
    refine ⟨fun m hm=>by rw [List.mem_singleton.1 hm]; rfl,?_⟩
    conv=>whnf
    first
     | refine ⟨by show 1*64≤_; omega,.inr ⟨(by intro e; cases e),?_⟩⟩
     | refine ⟨by
        show ((T.rows (_::_)).length+1)*64≤_
        rw [Go.Cod.rows_len]; omega,?_⟩
    conv=>whnf
    refine ⟨[],false,?_⟩
    conv=>whnf
    first
     | exact ⟨.mk id kind text [.mk id kind text []],q,.mk g1 g2 g3 (by simp) (by simpa using hsm),⟨by simp only [T.size,T.sizeL]; omega,.twice (kids:=[])⟩,by omega,tl4,⟨.agg (T.cells (.mk id kind text [.mk id kind text []])),rfl,softT _⟩,rfl⟩
     | (refine ⟨.mk id kind text ((k0::ks)++[.mk id kind text (k0::ks)]),q,.mk g1 g2 g3 (by rw [List.length_append]; simp only [List.length_singleton]; omega) (small_snoc g5 hsm),⟨by simp only [T.size,T.sizeL_append,T.sizeL]; omega,.twice⟩,by omega,tl4,⟨_,rfl,?_⟩,rfl⟩
        refine Eq.trans ?_ (softT _)
        show (V.agg [.int .i64 id,.str kind,.str text,.sl (T.rows (k0::ks)++[(T.mk id kind text (k0::ks)).cells])]).soft=_
        rw [← T.rows_snoc]
        rfl)
  rw [eqB_f e3]
  conv=>whnf
  by_cases e4:c=4
  · rw [eqB_t e4]
    conv=>whnf
    first
     | refine loop_drop (SpJ bs q _ 7 6 (1+T.sizeL []) (fun i x=>x=deepN (.mk id kind text []) i)) 6 (some [0,1,2,3]) (by
        conv=>whnf
        exact ⟨.mk id kind text _,0,_,rfl,hsm,⟨by simp only [T.size]; omega,rfl⟩,softRows _,⟨rfl,rfl,rfl,rfl,trivial⟩,rfl⟩) ?_
     | refine loop_drop (SpJ bs q _ 7 6 (1+T.sizeL (k0::ks)) (fun i x=>x=deepN (.mk id kind text (k0::ks)) i)) 6 (some [0,1,2,4,3]) (by
        conv=>whnf
        exact ⟨.mk id kind text _,0,_,rfl,hsm,⟨by simp only [T.size]; omega,rfl⟩,softRows _,⟨rfl,rfl,rfl,rfl,trivial⟩,rfl⟩) ?_
    rintro n fr st ⟨x,i,R,hi,x1,⟨x2,xF⟩,hR,hh,rfl⟩
    obtain ⟨fr,rfl⟩:=hh.split
    clear hh
    have x3:=tl2 x x1
    rcases x with ⟨xi,xk,xt,xs⟩
    simp only [T.id,T.kind,T.text,T.kids] at hR ⊢
    have x4:=x1
    cases x4 with
    | mk y1 y2 y3 y4 y5 =>
    by_cases hlt:i < 6
    · have w1:IntKind.i64.wrap (500+(i:Int))=500+(i:Int):=wrap64 (by omega) (by omega)
      have w2:V.int .i64 (IntKind.i64.wrap ((i:Int)+1))=.int .i64 ((i+1:Nat):Int):=by
       rw [wrap64 (by omega) (by omega)]; rfl
      rcases xs with _ | ⟨x0,xs⟩
      all_goals
       conv=>whnf
       rw [ltB_t (by omega)]
       conv=>whnf
      · refine ⟨n - 1,by omega,some [0,1,2,3,4],?_⟩
        conv=>whnf
        refine ⟨.mk (500+i) [120] [] [.mk xi xk xt []],i+1,_,by omega,.mk (by omega) (by simp) (by simp) (by simp) (by simpa using x1),⟨by simp only [T.size,T.sizeL] at x2 ⊢; omega,by rw [xF]; rfl⟩,(rfl:V.softLL [[.int .i64 xi,.str xk,.str xt,.nils]]=_),⟨rfl,rfl,rfl,w2,trivial⟩,?_⟩
        rw [w1]; rfl
      · refine ⟨n - 1,by omega,some [0,1,2,3,5],?_⟩
        conv=>whnf
        refine ⟨.mk (500+i) [120] [] [.mk xi xk xt (x0::xs)],i+1,[[.int .i64 xi,.str xk,.str xt,.sl R]],by omega,.mk (by omega) (by simp) (by simp) (by simp) (by simpa using x1),⟨by simp only [T.size,T.sizeL] at x2 ⊢; omega,by rw [xF]; rfl⟩,by show [[V.int .i64 xi,.str xk,.str xt,.sl (V.softLL R)]]=_; rw [hR]; rfl,⟨rfl,rfl,rfl,w2,trivial⟩,?_⟩
        rw [w1]; rfl
    · rcases xs with _ | ⟨x0,xs⟩
      all_goals
       conv=>whnf
       rw [ltB_f (by omega)]
       conv=>whnf
       refine ⟨[],false,?_⟩
       conv=>whnf
       first
        | exact ⟨.mk xi xk xt [],q,x1,⟨x3 (by omega),by (obtain rfl:i=6:=by omega); rw [xF]; exact .deep⟩,by omega,tl4,⟨_,rfl,rfl⟩,rfl⟩
        | exact ⟨.mk xi xk xt (x0::xs),q,x1,⟨x3 (by omega),by (obtain rfl:i=6:=by omega); rw [xF]; exact .deep⟩,by omega,tl4,⟨.agg [.int .i64 xi,.str xk,.str xt,.sl R],rfl,by show V.agg [.int .i64 xi,.str xk,.str xt,.sl (V.softLL R)]=_; rw [hR]; rfl⟩,rfl⟩
  rw [eqB_f e4]
  conv=>whnf
  first
   | refine loop_drop (SpJ bs q _ 8 20 (1+T.sizeL []) (fun i x=>x=.mk id kind text ([]++wideN i))) 20 (some [0,1,2,3]) (by
      conv=>whnf
      exact ⟨.mk id kind text _,0,_,rfl,hsm,⟨by simp only [T.size]; omega,by simp [wideN]⟩,softRows _,⟨rfl,rfl,rfl,rfl,trivial⟩,rfl⟩) ?_
   | refine loop_drop (SpJ bs q _ 8 20 (1+T.sizeL (k0::ks)) (fun i x=>x=.mk id kind text ((k0::ks)++wideN i))) 20 (some [0,1,2,4,3]) (by
      conv=>whnf
      exact ⟨.mk id kind text _,0,_,rfl,hsm,⟨by simp only [T.size]; omega,by simp [wideN]⟩,softRows _,⟨rfl,rfl,rfl,rfl,trivial⟩,rfl⟩) ?_
  rintro n fr st ⟨x,i,R,hi,x1,⟨x2,xF⟩,hR,hh,rfl⟩
  obtain ⟨fr,rfl⟩:=hh.split
  clear hh
  have x3:=tl2 x x1
  have x6:=length_le_sizeL x.kids
  rcases x with ⟨xi,xk,xt,xs⟩
  simp only [T.id,T.kind,T.text,T.kids] at x6 hR ⊢
  have x4:=x1
  cases x4 with
  | mk y1 y2 y3 y4 y5 =>
  by_cases hlt:i < 20
  · have w1:IntKind.i64.wrap (600+(i:Int))=600+(i:Int):=wrap64 (by omega) (by omega)
    have w2:V.int .i64 (IntKind.i64.wrap ((i:Int)+1))=.int .i64 ((i+1:Nat):Int):=by
     rw [wrap64 (by omega) (by omega)]; rfl
    have hsn:(T.mk (600+i) [112,97,114] [] []).Small:=.mk (by omega) (by simp) (by simp) (by simp) (by simp)
    rcases xs with _ | ⟨x0,xs⟩
    all_goals
     conv=>whnf
     rw [ltB_t (by omega)]
     conv=>whnf
     rw [w1]
     refine ⟨fun m hm=>by rw [List.mem_singleton.1 hm]; rfl,?_⟩
     conv=>whnf
    · refine ⟨by show 1*64≤_; omega,.inr ⟨(by intro e; cases e),?_⟩⟩
      conv=>whnf
      refine ⟨n - 1,by omega,some [0,1,2,3,5],?_⟩
      conv=>whnf
      exact ⟨.mk xi xk xt [.mk (600+i) [112,97,114] [] []],i+1,[[.int .i64 (600+i),.str [112,97,114],.str [],.nils]],by omega,.mk y1 y2 y3 (by simp) (by simpa using hsn),⟨by simp only [T.size,T.sizeL] at x2 ⊢; omega,wide_snoc xF⟩,rfl,⟨rfl,rfl,rfl,w2,trivial⟩,rfl⟩
    · refine ⟨by
       show (R.length+1)*64≤_
       have hRl:R.length=(x0::xs).length:=by
        have:=congrArg List.length hR
        rwa [V.softLL_eq,List.length_map,Go.Cod.rows_len] at this
       rw [hRl]; omega,?_⟩
      conv=>whnf
      refine ⟨n - 1,by omega,some [0,1,2,3,6],?_⟩
      conv=>whnf
      refine ⟨.mk xi xk xt ((x0::xs)++[.mk (600+i) [112,97,114] [] []]),i+1,R++[[.int .i64 (600+i),.str [112,97,114],.str [],.nils]],by omega,.mk y1 y2 y3 (by rw [List.length_append]; simp only [T.size] at x2; simp only [List.length_singleton]; omega) (small_snoc y5 hsn),⟨by simp only [T.size,T.sizeL_append] at x2 ⊢; simp only [T.sizeL,T.size] at x2 ⊢; omega,wide_snoc xF⟩,by rw [softLL_append,hR]; simp only [T.kids]; rw [T.rows_snoc]; rfl,⟨rfl,rfl,rfl,w2,trivial⟩,rfl⟩
  · rcases xs with _ | ⟨x0,xs⟩
    all_goals
     conv=>whnf
     rw [ltB_f (by omega)]
     conv=>whnf
     refine ⟨[],false,?_⟩
     conv=>whnf
     first
       | exact ⟨.mk xi xk xt [],q,x1,⟨x3 (by omega),by (obtain rfl:i=20:=by omega); rw [xF]; exact .wide⟩,by omega,tl4,⟨_,rfl,rfl⟩,rfl⟩
       | exact ⟨.mk xi xk xt (x0::xs),q,x1,⟨x3 (by omega),by (obtain rfl:i=20:=by omega); rw [xF]; exact .wide⟩,by omega,tl4,⟨.agg [.int .i64 xi,.str xk,.str xt,.sl R],rfl,by show V.agg [.int .i64 xi,.str xk,.str xt,.sl (V.softLL R)]=_; rw [hR]; rfl⟩,rfl⟩
end Go.Cod
set_option linter.all false
namespace Go.Cod
open Go Go.Proofs
set_option maxRecDepth 10000
theorem l1Open_full (bs:List UInt8) (hb:bs.length≤1048576):Full Tryd.prog noY 11 [.sl (brows bs)] [] fun o st'=>o=.ret (.ptr 0 0 0)∧∃ bs':List UInt8,bs'.length≤2000∧st'=[rdO bs' 0]:=by
 have hl:=brows_len bs
 have h1:∀ r∈brows bs,r.length=1:=fun r h=>by
  obtain ⟨b,_,rfl⟩:=List.mem_map.1 h; rfl
 have h2:((brows bs).take 2000).drop 0=brows (bs.take 2000):=by rw [brows,brows,List.map_take]; rfl
 refine full_of_awp good Tryd.func11 rfl (by kernel_rfl) (by decide) ?_
 generalize hR:brows bs=R at *
 conv=>whnf
 by_cases a:2000 < R.length
 · rw [ltB_t (by omega)]
   conv=>whnf
   refine ⟨h1,by omega,by show 2000≤_; omega,?_⟩
   conv=>whnf
   refine ⟨[0],false,?_⟩
   conv=>whnf
   refine ⟨rfl,bs.take 2000,by rw [List.length_take]; omega,?_⟩
   show [(⟨[[.sl ((R.take 2000).drop 0),.int .i64 0]],2,true,true,true,.cell⟩:O)]=_
   rw [h2]; rfl
 · rw [ltB_f (by omega)]
   conv=>whnf
   refine ⟨[0],false,?_⟩
   conv=>whnf
   refine ⟨rfl,bs,by omega,?_⟩
   rw [rdO,hR]; rfl
def Drawn (t:T):Prop:=∃ t0:T,t0.ids.Nodup∧(∀ i∈t0.ids,1≤i∧i < 20)∧t0.id=1∧(t.size:Int)≤2*t0.size+20∧(t=t0∨SpoilOf t0 t)
theorem l11Some_drawn (bs:List UInt8) (hb:bs.length≤2000) (p n:Int) (p0:0≤p) (p1:p≤1000000):Full Tryd.prog noY 27 [.ptr 0 0 0,.int .i64 n] [rdO bs p] fun o st'=>∃ (t:T) (p':Int),t.Small∧(t.size≤600000∧Drawn t)∧p≤p'∧p'≤p+1000000∧o=.ret (.agg t.cells)∧st'=[rdO bs p']:=by
 have ha:=l11AnyTree_full bs hb p p0 (by omega)
 refine full_of_awp good Tryd.func27 rfl (by kernel_rfl) (by decide) ?_
 conv=>whnf
 refine ⟨[0],false,?_⟩
 conv=>whnf
 refine ha.mono ?_
 rintro o st' ⟨t,p2,s1,s2,s3,s4,rfl,rfl⟩
 have hs:=spoil_full bs hb t s1 (p2+1) (by omega) (by omega) (by omega)
 have hp:=pick_full bs p2 n hb (by omega) (by omega)
 rcases t with ⟨ti,tk,tx,tks⟩
 conv=>whnf
 refine ⟨[0],false,?_⟩
 conv=>whnf
 refine hp.mono ?_
 rintro o st' ⟨c,c0,c1,rfl,rfl⟩
 conv=>whnf
 by_cases hc:c=0
 · rw [eqB_t hc]
   conv=>whnf
   refine ⟨[0],false,?_⟩
   conv=>whnf
   refine hs.mono ?_
   rintro o st' ⟨t',p',q1,q2,q3,q4,rfl,rfl⟩
   rcases t' with ⟨ti',tk',tx',tks'⟩
   conv=>whnf
   refine ⟨[],false,?_⟩
   conv=>whnf
   exact ⟨.mk ti' tk' tx' tks',p',q1,⟨by omega,_,s2.2.1,s2.2.2.1,s2.2.2.2,q2.1,.inr q2.2⟩,by omega,by omega,rfl,rfl⟩
 · rw [eqB_f hc]
   conv=>whnf
   refine ⟨[],false,?_⟩
   conv=>whnf
   exact ⟨.mk ti tk tx tks,p2+1,s1,⟨by omega,_,s2.2.1,s2.2.2.1,s2.2.2.2,by omega,.inl rfl⟩,by omega,by omega,rfl,rfl⟩
end Go.Cod
set_option linter.all false
namespace Go.Cod
open Go Go.Proofs Go.ChangeShapes Go.WideShapes Go.ChangeAt Go.RowKit
set_option maxRecDepth 10000
end Go.Cod
set_option linter.all false
namespace Go.Cod
open Go Go.Proofs
set_option maxRecDepth 10000
end Go.Cod
set_option linter.all false
namespace Go.Cod
open Go Go.Proofs
set_option maxRecDepth 10000
end Go.Cod
set_option linter.all false
namespace Go.Cod
open Go Go.Proofs
set_option maxRecDepth 10000
end Go.Cod
set_option linter.all false
namespace Go.Cod
open Go Go.Proofs
set_option maxRecDepth 10000
end Go.Cod
set_option linter.all false
namespace Go.Cod
open Go Go.Proofs
set_option maxRecDepth 10000
def LT.id:LT→Int
 | .mk id _ _ _ _=>id
mutual
def LT.upd (x:Int) (f:LT→LT):LT→Option LT
 | .mk id kind text h kids=>if id=x then some (f (.mk id kind text h kids)) else match h with
   | none=>none
   | some p=>(LT.updL x f kids).map fun ks=>.mk id kind text (some p) ks
def LT.updL (x:Int) (f:LT→LT):List LT→Option (List LT)
 | []=>none
 | l::ls=>match LT.upd x f l with
   | some l'=>some (l'::ls)
   | none=>(LT.updL x f ls).map (l::·)
end
end Go.Cod
set_option linter.all false
namespace Go.Cod
open Go Go.Proofs
set_option maxRecDepth 10000
end Go.Cod
set_option linter.all false
namespace Go.Cod
open Go Go.Proofs
set_option maxRecDepth 10000
end Go.Cod
set_option linter.all false
namespace Go.Cod
open Go Go.Proofs
set_option maxRecDepth 10000
mutual
def T.mapAt (x:Int) (f:T→T):T→T
 | .mk id kind text kids=>if id=x then f (.mk id kind text kids) else .mk id kind text (T.mapAtL x f kids)
def T.mapAtL (x:Int) (f:T→T):List T→List T
 | []=>[]
 | t::ts=>T.mapAt x f t::T.mapAtL x f ts
end
mutual
def T.upd (x:Int) (f:T→T):T→Option T
 | .mk id kind text kids=>if id=x then some (f (.mk id kind text kids)) else (T.updL x f kids).map fun ks=>.mk id kind text ks
def T.updL (x:Int) (f:T→T):List T→Option (List T)
 | []=>none
 | t::ts=>match T.upd x f t with
   | some t'=>some (t'::ts)
   | none=>(T.updL x f ts).map (t::·)
end
mutual
def T.cut (x:Int):T→T
 | .mk id kind text kids=>.mk id kind text (T.cutL x kids)
def T.cutL (x:Int):List T→List T
 | []=>[]
 | t::ts=>if t.id=x then T.cutL x ts else T.cut x t::T.cutL x ts
end
mutual
theorem T.mapAt_none (x:Int) (f:T→T):∀ t:T,x∉t.ids→t.mapAt x f=t
 | .mk id kind text kids,h=>by
   simp only [T.ids,List.mem_cons,not_or] at h
   simp only [T.mapAt,if_neg (Ne.symm h.1),T.mapAtL_none x f kids h.2]
theorem T.mapAtL_none (x:Int) (f:T→T):∀ ts:List T,x∉T.idsL ts→T.mapAtL x f ts=ts
 | [],_=>rfl
 | t::ts,h=>by
   simp only [T.idsL,List.mem_append,not_or] at h
   simp only [T.mapAtL,T.mapAt_none x f t h.1,T.mapAtL_none x f ts h.2]
end
theorem T.idsL_append (a b:List T):T.idsL (a++b)=T.idsL a++T.idsL b:=by
 induction a with
 | nil=>rfl
 | cons t a ih=>simp [T.idsL,ih]
theorem T.cutL_append (x:Int) (a b:List T):T.cutL x (a++b)=T.cutL x a++T.cutL x b:=by
 induction a with
 | nil=>rfl
 | cons t a ih =>
   simp only [List.cons_append,T.cutL]
   split <;> simp [ih]
theorem T.mapAtL_eq (x:Int) (f:T→T) (ts:List T):T.mapAtL x f ts=ts.map (T.mapAt x f):=by
 induction ts with
 | nil=>rfl
 | cons t ts ih=>simp [T.mapAtL,ih]
mutual
theorem T.mapAt_size (x:Int) (f:T→T) (m:Nat) (hf:∀ s:T,(f s).size≤s.size+m):∀ t:T,(t.mapAt x f).size≤t.size*(m+1)
 | .mk id kind text kids=>by
   have hL:=T.mapAtL_size x f m hf kids
   have e:(1+T.sizeL kids)*(m+1)=(m+1)+T.sizeL kids*(m+1):=by rw [Nat.add_mul,Nat.one_mul]
   have e2:T.sizeL kids≤T.sizeL kids*(m+1):=Nat.le_mul_of_pos_right _ (by omega)
   simp only [T.mapAt]
   split
   · have:=hf (.mk id kind text kids)
     simp only [T.size] at this ⊢
     omega
   · simp only [T.size]
     omega
theorem T.mapAtL_size (x:Int) (f:T→T) (m:Nat) (hf:∀ s:T,(f s).size≤s.size+m):∀ ts:List T,T.sizeL (T.mapAtL x f ts)≤T.sizeL ts*(m+1)
 | []=>by simp [T.mapAtL,T.sizeL]
 | t::ts=>by
   have h1:=T.mapAt_size x f m hf t
   have h2:=T.mapAtL_size x f m hf ts
   have e:(t.size+T.sizeL ts)*(m+1)=t.size*(m+1)+T.sizeL ts*(m+1):=Nat.add_mul _ _ _
   simp only [T.mapAtL,T.sizeL]
   omega
end
mutual
theorem T.mapAt_small (x:Int) (f:T→T) (N:Nat) (hf:∀ s:T,s.Small→s.id=x→s.size≤N→(f s).Small):∀ t:T,t.Small→t.size≤N→(t.mapAt x f).Small
 | .mk id kind text kids,h,hN=>by
   have h':=h
   cases h with
   | mk g1 g2 g3 g4 g5 =>
   simp only [T.mapAt]
   split
   · rename_i hid
     exact hf _ h' hid hN
   · simp only [T.size] at hN
     exact .mk g1 g2 g3 (by rw [T.mapAtL_eq,List.length_map]; exact g4) (T.mapAtL_small x f N hf kids g5 (by omega))
theorem T.mapAtL_small (x:Int) (f:T→T) (N:Nat) (hf:∀ s:T,s.Small→s.id=x→s.size≤N→(f s).Small):∀ ts:List T,(∀ t∈ts,t.Small)→T.sizeL ts≤N→∀ t∈T.mapAtL x f ts,t.Small
 | [],_,_,t,h=>by simp [T.mapAtL] at h
 | t::ts,hs,hN,y,h=>by
   simp only [T.sizeL] at hN
   have h0:=T.mapAt_small x f N hf t (hs t (by simp)) (by omega)
   simp only [T.mapAtL,List.mem_cons] at h
   rcases h with rfl | h
   · exact h0
   · exact T.mapAtL_small x f N hf ts (fun z hz=>hs z (by simp [hz])) (by omega) y h
end
theorem T.cutL_len (x:Int) (ts:List T):(T.cutL x ts).length≤ts.length:=by
 induction ts with
 | nil=>simp [T.cutL]
 | cons t ts ih =>
   simp only [T.cutL]
   split
   · simp only [List.length_cons]; omega
   · simp only [List.length_cons]; omega
mutual
theorem T.cut_small (x:Int):∀ t:T,t.Small→(t.cut x).Small∧(t.cut x).size≤t.size
 | .mk id kind text kids,h=>by
   cases h with
   | mk g1 g2 g3 g4 g5 =>
   obtain ⟨h1,h2⟩:=T.cutL_small x kids g5
   simp only [T.cut,T.size]
   exact ⟨.mk g1 g2 g3 (by have:=T.cutL_len x kids; omega) h1,by omega⟩
theorem T.cutL_small (x:Int):∀ ts:List T,(∀ t∈ts,t.Small)→(∀ t∈T.cutL x ts,t.Small)∧T.sizeL (T.cutL x ts)≤T.sizeL ts
 | [],_=>by simp [T.cutL]
 | t::ts,hs=>by
   obtain ⟨h1,h2⟩:=T.cut_small x t (hs t (by simp))
   obtain ⟨h3,h4⟩:=T.cutL_small x ts (fun z hz=>hs z (by simp [hz]))
   simp only [T.cutL]
   split
   · exact ⟨h3,by simp only [T.sizeL]; omega⟩
   · refine ⟨fun y hy=>?_,by simp only [T.sizeL]; omega⟩
     rcases List.mem_cons.1 hy with rfl | hy
     · exact h1
     · exact h3 y hy
end
def putKidT (n:Nat) (y:T):T→T
 | .mk id kind text kids=>.mk id kind text (kids.take n++y::kids.drop n)
def setT (k:List UInt8) (s:List UInt8):T→T
 | .mk id _ _ kids=>.mk id k s kids
theorem T.sizeL_put (n:Nat) (y:T) (ts:List T):T.sizeL (ts.take n++y::ts.drop n)=T.sizeL ts+y.size:=by
 have:T.sizeL ts=T.sizeL (ts.take n)+T.sizeL (ts.drop n):=by rw [← T.sizeL_append,List.take_append_drop]
 rw [T.sizeL_append,this]
 simp only [T.sizeL]; omega
theorem putKidT_size (n:Nat) (y s:T):(putKidT n y s).size=s.size+y.size:=by
 cases s with
 | mk id kind text kids=>simp only [putKidT,T.size,T.sizeL_put]; omega
theorem putKidT_small (n:Nat) (y s:T) (hs:s.Small) (hy:y.Small) (hz:s.size≤1000000):(putKidT n y s).Small:=by
 have hlen:∀ ts:List T,ts.length≤T.sizeL ts:=fun ts=>by
  induction ts with
  | nil=>simp
  | cons t ts ih =>
    have:1≤t.size:=by cases t; simp only [T.size]; omega
    simp only [T.sizeL,List.length_cons]; omega
 cases hs with
 | @mk id kind text kids g1 g2 g3 g4 g5 =>
 have:=hlen kids
 simp only [T.size] at hz
 refine .mk g1 g2 g3 (by simp only [List.length_append,List.length_cons,List.length_take,List.length_drop]; omega) fun t ht=>?_
 rcases List.mem_append.1 ht with h | h
 · exact g5 t (List.mem_of_mem_take h)
 · rcases List.mem_cons.1 h with rfl | h
   · exact hy
   · exact g5 t (List.mem_of_mem_drop h)
theorem setT_size (k s:List UInt8) (t:T):(setT k s t).size=t.size:=by cases t; rfl
theorem setT_small (k s:List UInt8) (t:T) (ht:t.Small) (hk:k.length≤1048576) (hs:s.length≤1048576):(setT k s t).Small:=by
 cases ht with
 | mk g1 g2 g3 g4 g5=>exact .mk g1 hk hs g4 g5
structure Stp where
 kind:Int
 id:Int
 at_:Int
 node:T
 text:List UInt8
def Stp.cells (s:Stp):List V:=[.int .i64 s.kind,.int .i64 s.id,.int .i64 s.at_]++s.node.cells++[.str s.text]
def noneT:T→Bool
 | .mk id kind text kids=>decide (id=0)&&decide (kind=[])&&decide (text=[])&&decide (kids.length=0)
def bareT (s:Stp):Bool :=
 if s.kind=1 then decide (s.text=[]) else if s.kind=2 then noneT s.node&&decide (s.text=[])&&decide (s.at_=0) else noneT s.node&&decide (s.at_=0)
def editT (t:T) (s:Stp):Option T:=match fT t s.id with
 | none=>none
 | some x=>if bareT s=false then none else
   if s.kind=1 then (if 0≤s.at_∧s.at_≤x.kids.length∧okT s.node=true then some (t.mapAt s.id (putKidT s.at_.toNat s.node)) else none)
   else if s.kind=2 then (if s.id=t.id then none else some (t.cut s.id))
   else if s.kind=3 then some (t.mapAt s.id (setT x.kind s.text))
   else if s.kind=4 then some (t.mapAt s.id (setT s.text x.text))
   else none
def doT (t:T) (s:Stp):Option T:=match editT t s with
 | none=>none
 | some y=>if okT y=true then some y else none
end Go.Cod
set_option linter.all false
namespace Go.Cod
open Go Go.Proofs
set_option maxRecDepth 10000
mutual
def T.PutOk (x:Int) (n:Nat):T→Prop
 | .mk id _ _ kids=>if id=x then n≤kids.length else T.PutOkL x n kids
def T.PutOkL (x:Int) (n:Nat):List T→Prop
 | []=>True
 | t::ts=>T.PutOk x n t∧T.PutOkL x n ts
end
theorem T.PutOkL_mem {x:Int} {n:Nat} {ts:List T} (h:T.PutOkL x n ts):∀ t∈ts,T.PutOk x n t:=by
 induction ts with
 | nil=>simp
 | cons t ts ih =>
   intro y hy
   rcases List.mem_cons.1 hy with rfl | hy
   · exact h.1
   · exact ih h.2 y hy
theorem T.mapAtL_len (x:Int) (f:T→T) (ts:List T):(T.mapAtL x f ts).length=ts.length:=by rw [T.mapAtL_eq,List.length_map]
theorem T.mapAtL_rows (x:Int) (f:T→T) (ts:List T) (i:Nat) (h:i < ts.length):T.rows ((T.mapAtL x f ts).take (i+1))=T.rows ((T.mapAtL x f ts).take i)++[(ts[i].mapAt x f).cells]:=by
 rw [T.mapAtL_eq,T.rows_eq,T.rows_eq,List.take_succ_eq_append_getElem (by simpa using h),List.map_append]
 simp
theorem T.rows_put (n:Nat) (y:T) (ts:List T):T.rows (ts.take n++y::ts.drop n)=(T.rows ts).take n++y.cells::(T.rows ts).drop n:=by
 simp only [T.rows_eq,List.map_append,List.map_cons,List.map_take,List.map_drop]
set_option maxHeartbeats 4000000 in
theorem l4Put_at (t:T) (ht:t.Small) (x:Int) (n:Nat) (y:T) (hid:t.id=x) (hn:n≤t.kids.length) :
  Pure Tryd.prog 47 [.agg t.cells,.int .i64 x,.int .i64 n,.agg y.cells] (·=.agg (putKidT n y t).cells):=by
 cases ht with
 | @mk id kind text kids g1 g2 g3 g4 g5 =>
 cases y with
 | mk yi yk yx yks =>
 simp only [T.id] at hid
 simp only [T.kids] at hn
 subst hid
 have hlr:=Go.Cod.rows_len kids
 have hw:=T.rows_wid kids
 have hput:=T.rows_put n (.mk yi yk yx yks) kids
 refine pure_of_awp good Tryd.func47 rfl (by kernel_rfl) (by decide) ?_
 conv=>whnf
 rw [eqB_refl]
 conv=>whnf
 refine ⟨hw,by omega,by show n≤(T.rows kids).length; omega,?_⟩
 conv=>whnf
 have hA:(T.rows kids).take (n:Int).toNat=(T.rows kids).take n:=rfl
 have hB:(((T.rows kids).take (T.rows kids).length).drop (n:Int).toNat)=(T.rows kids).drop n:=by rw [List.take_length]; rfl
 have hAl:((T.rows kids).take n).length=n:=by rw [List.length_take]; omega
 have hBl:((T.rows kids).drop n).length=kids.length - n:=by rw [List.length_drop]; omega
 have hBw:∀ r∈(T.rows kids).drop n,r.length=4:=fun r hr=>hw r (List.mem_of_mem_drop hr)
 rw [← hA] at hput hAl
 rw [← hB] at hput hBl hBw
 refine ⟨fun m hm=>hw m (List.mem_of_mem_take hm),by show ((T.rows kids).take (n:Int).toNat).length*64≤_; omega,?_⟩
 generalize (T.rows kids).take (n:Int).toNat=A at *
 cases A with
 | nil =>
   refine .inl ⟨rfl,?_⟩
   conv=>whnf
   refine ⟨fun m hm=>by rw [List.mem_singleton.1 hm]; rfl,?_⟩
   conv=>whnf
   refine ⟨by show 1*64≤_; omega,.inr ⟨(by intro e; cases e),?_⟩⟩
   conv=>whnf
   refine ⟨hw,by omega,by show n≤(T.rows kids).length; omega,?_⟩
   conv=>whnf
   refine ⟨hBw,?_⟩
   conv=>whnf
   refine ⟨by show (1+(((T.rows kids).take (T.rows kids).length).drop (n:Int).toNat).length)*64≤_; omega,?_⟩
   conv=>whnf
   simp only [putKidT,T.cells]
   rw [hput]
   rfl
 | cons a A =>
   refine .inr ⟨by simp,?_⟩
   conv=>whnf
   refine ⟨fun m hm=>by rw [List.mem_singleton.1 hm]; rfl,?_⟩
   conv=>whnf
   refine ⟨by show ((a::A).length+1)*64≤_; omega,?_⟩
   conv=>whnf
   refine ⟨hw,by omega,by show n≤(T.rows kids).length; omega,?_⟩
   conv=>whnf
   refine ⟨hBw,?_⟩
   conv=>whnf
   refine ⟨by
    simp only [List.length_append,List.length_map,List.length_drop,List.length_cons,List.length_nil,List.length_take] at hAl hBl ⊢
    show (A.length+1+(0+1)+_)*64≤_
    omega,?_⟩
   conv=>whnf
   simp only [putKidT,T.cells]
   rw [hput,show ∀ (c:List V) (B:List (List V)),a::A++c::B=(a::A++[c])++B by simp]
   rfl
theorem l4Put_in1 (t:T) (ht:t.Small) (x:Int) (n:Nat) (y:T) (hid:¬ t.id=x) (hT:∀ t'∈t.kids,Pure Tryd.prog 47 [.agg t'.cells,.int .i64 x,.int .i64 n,.agg y.cells] (·=.agg (t'.mapAt x (putKidT n y)).cells)) :
  Pure Tryd.prog 47 [.agg t.cells,.int .i64 x,.int .i64 n,.agg y.cells] (·=.agg (t.mapAt x (putKidT n y)).cells):=by
 cases ht with
 | @mk id kind text kids g1 g2 g3 g4 g5 =>
 simp only [T.kids] at hT
 simp only [T.id] at hid
 simp only [T.mapAt,if_neg hid]
 have hlr:=Go.Cod.rows_len kids
 have hrow:=T.mapAtL_rows x (putKidT n y) kids
 have hlen:=T.mapAtL_len x (putKidT n y) kids
 generalize T.mapAtL x (putKidT n y) kids=ks at *
 generalize hf:T.mapAt x (putKidT n y)=f at *
 cases y with
 | mk yi yk yx yks =>
 refine pure_of_awp good Tryd.func47 rfl (by kernel_rfl) (by decide) ?_
 conv=>whnf
 rw [eqB_f hid]
 conv=>whnf
 refine loop_drop (fun m fr st=>∃ i:Nat,m+i=kids.length ∧
   ((i=0∧Holds fr [(1,.int .i64 x),(2,.int .i64 n),(4,.ptr 0 0 0),(7,.ptr 1 0 0),(8,.ptr 2 0 0),(10,.nils),(11,.int .i64 0)]∧st=[⟨[[.int .i64 id,.str kind,.str text,.sl (T.rows kids)]],4,true,true,true,.cell⟩,⟨[[.int .i64 yi,.str yk,.str yx,.sl (T.rows yks)]],4,true,true,true,.cell⟩,⟨[zrow],4,true,true,true,.cell⟩]) ∨
    (0 < i∧Holds fr [(1,.int .i64 x),(2,.int .i64 n),(4,.ptr 0 0 0),(7,.ptr 1 0 0),(8,.ptr 2 0 0),(10,.own 3),(11,.int .i64 i)]∧st=[⟨[[.int .i64 id,.str kind,.str text,.sl (T.rows kids)]],4,true,true,true,.cell⟩,⟨[[.int .i64 yi,.str yk,.str yx,.sl (T.rows yks)]],4,true,true,true,.cell⟩,⟨[zrow],4,true,true,true,.cell⟩,⟨T.rows (ks.take i),4,true,true,false,.cell⟩]))) kids.length none
  ⟨0,rfl,.inl ⟨rfl,⟨rfl,rfl,rfl,rfl,rfl,rfl,rfl,trivial⟩,rfl⟩⟩ ?_
 rintro m fr st ⟨i,hi,⟨rfl,hh,rfl⟩ | ⟨hi0,hh,rfl⟩⟩
 · obtain ⟨fr,rfl⟩:=hh.split
   clear hh
   conv=>whnf
   by_cases hlt:0 < kids.length
   · rw [hlr,ltB_t (by omega)]
     have hc:=hT kids[0] (List.getElem_mem _)
     have htk:=hrow 0 hlt
     have hg:=Go.Cod.rows_get kids 0 hlt
     generalize kids[0]=t at hc htk hg
     generalize f t=ft at hc htk
     cases t with
     | mk id' kind' text' kids' =>
     cases ft with
     | mk fi fk fx fks =>
     conv=>whnf
     refine ⟨by omega,T.rows kids,_,4,rfl,hg,rfl,rfl,?_⟩
     conv=>whnf
     refine ⟨_,.inl hc,?_⟩
     conv=>whnf
     refine ⟨fun m hm=>by rw [List.mem_singleton.1 hm]; rfl,?_⟩
     conv=>whnf
     refine ⟨by show 1*64≤_; omega,.inr ⟨(by intro e; cases e),?_⟩⟩
     conv=>whnf
     refine ⟨m - 1,by omega,some [0,1,2,4],?_⟩
     conv=>whnf
     refine ⟨1,by omega,.inr ⟨by omega,⟨rfl,rfl,rfl,rfl,rfl,rfl,rfl,trivial⟩,?_⟩⟩
     rw [htk]
     rfl
   · rw [hlr,ltB_f (by omega)]
     conv=>whnf
     have:kids=[]:=List.eq_nil_of_length_eq_zero (by omega)
     subst this
     have:ks=[]:=List.eq_nil_of_length_eq_zero hlen
     subst this
     rfl
 · obtain ⟨fr,rfl⟩:=hh.split
   clear hh
   conv=>whnf
   by_cases hlt:i < kids.length
   · rw [hlr,ltB_t (by omega)]
     have hc:=hT kids[i] (List.getElem_mem _)
     have htk:=hrow i hlt
     have hg:=Go.Cod.rows_get kids i hlt
     generalize kids[i]=t at hc htk hg
     generalize f t=ft at hc htk
     cases t with
     | mk id' kind' text' kids' =>
     cases ft with
     | mk fi fk fx fks =>
     conv=>whnf
     refine ⟨by omega,T.rows kids,_,4,rfl,hg,rfl,rfl,?_⟩
     conv=>whnf
     refine ⟨_,.inl hc,?_⟩
     conv=>whnf
     refine ⟨fun m hm=>by rw [List.mem_singleton.1 hm]; rfl,?_⟩
     conv=>whnf
     refine ⟨by
      show ((T.rows (ks.take i)).length+1)*64≤_
      rw [Go.Cod.rows_len,List.length_take]; omega,?_⟩
     conv=>whnf
     refine ⟨m - 1,by omega,some [0,1,2,5],?_⟩
     conv=>whnf
     refine ⟨i+1,by omega,.inr ⟨by omega,⟨rfl,rfl,rfl,rfl,rfl,rfl,?_,trivial⟩,?_⟩⟩
     · show V.int .i64 (IntKind.i64.wrap (i+1))=_
       rw [wrap64 (by omega) (by omega)]; simp
     · rw [htk]
       rfl
   · rw [hlr,ltB_f (by omega)]
     conv=>whnf
     rw [List.take_of_length_le (by omega)]
     rfl
theorem l4Put_pure (t:T) (ht:t.Small) (x:Int) (n:Nat) (y:T) (hp:t.PutOk x n):Pure Tryd.prog 47 [.agg t.cells,.int .i64 x,.int .i64 n,.agg y.cells] (·=.agg (t.mapAt x (putKidT n y)).cells):=by
 induction ht with
 | @mk id kind text kids g1 g2 g3 g4 g5 ih =>
   simp only [T.PutOk] at hp
   by_cases hid:id=x
   · rw [if_pos hid] at hp
     have:=l4Put_at (.mk id kind text kids) (.mk g1 g2 g3 g4 g5) x n y hid hp
     simp only [T.mapAt,if_pos hid]
     exact this
   · rw [if_neg hid] at hp
     exact l4Put_in1 _ (.mk g1 g2 g3 g4 g5) x n y hid fun t' h=>ih t' h (T.PutOkL_mem hp t' h)
theorem l4Set_at (t:T) (ht:t.Small) (x:Int) (k w:List UInt8) (hid:t.id=x):Pure Tryd.prog 49 [.agg t.cells,.int .i64 x,.str k,.str w] (·=.agg (setT k w t).cells):=by
 cases ht with
 | @mk id kind text kids g1 g2 g3 g4 g5 =>
 simp only [T.id] at hid
 subst hid
 refine pure_of_awp good Tryd.func49 rfl (by kernel_rfl) (by decide) ?_
 conv=>whnf
 rw [eqB_refl]
 conv=>whnf
 rfl
theorem l4Set_in1 (t:T) (ht:t.Small) (x:Int) (k w:List UInt8) (hid:¬ t.id=x) (hT:∀ t'∈t.kids,Pure Tryd.prog 49 [.agg t'.cells,.int .i64 x,.str k,.str w] (·=.agg (t'.mapAt x (setT k w)).cells)) :
  Pure Tryd.prog 49 [.agg t.cells,.int .i64 x,.str k,.str w] (·=.agg (t.mapAt x (setT k w)).cells):=by
 cases ht with
 | @mk id kind text kids g1 g2 g3 g4 g5 =>
 simp only [T.kids] at hT
 simp only [T.id] at hid
 simp only [T.mapAt,if_neg hid]
 have hlr:=Go.Cod.rows_len kids
 have hrow:=T.mapAtL_rows x (setT k w) kids
 have hlen:=T.mapAtL_len x (setT k w) kids
 generalize T.mapAtL x (setT k w) kids=ks at *
 generalize hf:T.mapAt x (setT k w)=f at *
 refine pure_of_awp good Tryd.func49 rfl (by kernel_rfl) (by decide) ?_
 conv=>whnf
 rw [eqB_f hid]
 conv=>whnf
 refine loop_drop (fun m fr st=>∃ i:Nat,m+i=kids.length ∧
   ((i=0∧Holds fr [(1,.int .i64 x),(2,.str k),(3,.str w),(4,.ptr 0 0 0),(8,.ptr 1 0 0),(9,.nils),(10,.int .i64 0)]∧st=[⟨[[.int .i64 id,.str kind,.str text,.sl (T.rows kids)]],4,true,true,true,.cell⟩,⟨[zrow],4,true,true,true,.cell⟩]) ∨
    (0 < i∧Holds fr [(1,.int .i64 x),(2,.str k),(3,.str w),(4,.ptr 0 0 0),(8,.ptr 1 0 0),(9,.own 2),(10,.int .i64 i)]∧st=[⟨[[.int .i64 id,.str kind,.str text,.sl (T.rows kids)]],4,true,true,true,.cell⟩,⟨[zrow],4,true,true,true,.cell⟩,⟨T.rows (ks.take i),4,true,true,false,.cell⟩]))) kids.length none
  ⟨0,rfl,.inl ⟨rfl,⟨rfl,rfl,rfl,rfl,rfl,rfl,rfl,trivial⟩,rfl⟩⟩ ?_
 rintro m fr st ⟨i,hi,⟨rfl,hh,rfl⟩ | ⟨hi0,hh,rfl⟩⟩
 · obtain ⟨fr,rfl⟩:=hh.split
   clear hh
   conv=>whnf
   by_cases hlt:0 < kids.length
   · rw [hlr,ltB_t (by omega)]
     have hc:=hT kids[0] (List.getElem_mem _)
     have htk:=hrow 0 hlt
     have hg:=Go.Cod.rows_get kids 0 hlt
     generalize kids[0]=t at hc htk hg
     generalize f t=ft at hc htk
     cases t with
     | mk id' kind' text' kids' =>
     cases ft with
     | mk fi fk fx fks =>
     conv=>whnf
     refine ⟨by omega,T.rows kids,_,4,rfl,hg,rfl,rfl,?_⟩
     conv=>whnf
     refine .inl (hc.mono ?_)
     rintro r rfl
     conv=>whnf
     refine ⟨fun m hm=>by rw [List.mem_singleton.1 hm]; rfl,?_⟩
     conv=>whnf
     refine ⟨by show 1*64≤_; omega,.inr ⟨(by intro e; cases e),?_⟩⟩
     conv=>whnf
     refine ⟨m - 1,by omega,some [0,1,3],?_⟩
     conv=>whnf
     refine ⟨1,by omega,.inr ⟨by omega,⟨rfl,rfl,rfl,rfl,rfl,rfl,rfl,trivial⟩,?_⟩⟩
     rw [htk]
     rfl
   · rw [hlr,ltB_f (by omega)]
     conv=>whnf
     have:kids=[]:=List.eq_nil_of_length_eq_zero (by omega)
     subst this
     have:ks=[]:=List.eq_nil_of_length_eq_zero hlen
     subst this
     rfl
 · obtain ⟨fr,rfl⟩:=hh.split
   clear hh
   conv=>whnf
   by_cases hlt:i < kids.length
   · rw [hlr,ltB_t (by omega)]
     have hc:=hT kids[i] (List.getElem_mem _)
     have htk:=hrow i hlt
     have hg:=Go.Cod.rows_get kids i hlt
     generalize kids[i]=t at hc htk hg
     generalize f t=ft at hc htk
     cases t with
     | mk id' kind' text' kids' =>
     cases ft with
     | mk fi fk fx fks =>
     conv=>whnf
     refine ⟨by omega,T.rows kids,_,4,rfl,hg,rfl,rfl,?_⟩
     conv=>whnf
     refine .inl (hc.mono ?_)
     rintro r rfl
     conv=>whnf
     refine ⟨fun m hm=>by rw [List.mem_singleton.1 hm]; rfl,?_⟩
     conv=>whnf
     refine ⟨by
      show ((T.rows (ks.take i)).length+1)*64≤_
      rw [Go.Cod.rows_len,List.length_take]; omega,?_⟩
     conv=>whnf
     refine ⟨m - 1,by omega,some [0,1,4],?_⟩
     conv=>whnf
     refine ⟨i+1,by omega,.inr ⟨by omega,⟨rfl,rfl,rfl,rfl,rfl,rfl,?_,trivial⟩,?_⟩⟩
     · show V.int .i64 (IntKind.i64.wrap (i+1))=_
       rw [wrap64 (by omega) (by omega)]; simp
     · rw [htk]
       rfl
   · rw [hlr,ltB_f (by omega)]
     conv=>whnf
     rw [List.take_of_length_le (by omega)]
     rfl
theorem l4Set_pure (t:T) (ht:t.Small) (x:Int) (k w:List UInt8):Pure Tryd.prog 49 [.agg t.cells,.int .i64 x,.str k,.str w] (·=.agg (t.mapAt x (setT k w)).cells):=by
 induction ht with
 | @mk id kind text kids g1 g2 g3 g4 g5 ih =>
   by_cases hid:id=x
   · have:=l4Set_at (.mk id kind text kids) (.mk g1 g2 g3 g4 g5) x k w hid
     simp only [T.mapAt,if_pos hid]
     exact this
   · exact l4Set_in1 _ (.mk g1 g2 g3 g4 g5) x k w hid ih
end Go.Cod
set_option linter.all false
namespace Go.Cod
open Go Go.Proofs
set_option maxRecDepth 10000
theorem rows_snocT (l:List T) (t:T):T.rows (l++[t])=T.rows l++[t.cells]:=by rw [T.rows_eq,T.rows_eq]; simp
theorem cutL_take (x:Int) (ts:List T) (i:Nat) (h:i < ts.length):T.cutL x (ts.take (i+1))=if ts[i].id=x then T.cutL x (ts.take i) else T.cutL x (ts.take i)++[ts[i].cut x]:=by
 rw [List.take_succ_eq_append_getElem h,T.cutL_append]
 simp only [T.cutL]
 split <;> simp
theorem l4Cut_pure1 (t:T) (ht:t.Small) (x:Int) (hT:∀ t'∈t.kids,Pure Tryd.prog 48 [.agg t'.cells,.int .i64 x] (·=.agg (t'.cut x).cells)) :
  Pure Tryd.prog 48 [.agg t.cells,.int .i64 x] (·=.agg (t.cut x).cells):=by
 cases ht with
 | @mk id kind text kids g1 g2 g3 g4 g5 =>
 simp only [T.kids] at hT
 have hlr:=Go.Cod.rows_len kids
 refine pure_of_awp good Tryd.func48 rfl (by kernel_rfl) (by decide) ?_
 conv=>whnf
 refine loop_drop (fun m fr st=>∃ i:Nat,m+i=kids.length ∧
   ((T.cutL x (kids.take i)=[]∧Holds fr [(1,.int .i64 x),(2,.ptr 0 0 0),(4,.ptr 1 0 0),(5,.nils),(6,.int .i64 i)]∧st=[⟨[[.int .i64 id,.str kind,.str text,.sl (T.rows kids)]],4,true,true,true,.cell⟩,⟨[zrow],4,true,true,true,.cell⟩]) ∨
    (T.cutL x (kids.take i)≠[]∧Holds fr [(1,.int .i64 x),(2,.ptr 0 0 0),(4,.ptr 1 0 0),(5,.own 2),(6,.int .i64 i)]∧st=[⟨[[.int .i64 id,.str kind,.str text,.sl (T.rows kids)]],4,true,true,true,.cell⟩,⟨[zrow],4,true,true,true,.cell⟩,⟨T.rows (T.cutL x (kids.take i)),4,true,true,false,.cell⟩]))) kids.length none
  ⟨0,rfl,.inl ⟨rfl,⟨rfl,rfl,rfl,rfl,rfl,trivial⟩,rfl⟩⟩ ?_
 rintro m fr st ⟨i,hi,⟨he,hh,rfl⟩ | ⟨he,hh,rfl⟩⟩
 · obtain ⟨fr,rfl⟩:=hh.split
   clear hh
   conv=>whnf
   by_cases hlt:i < kids.length
   · rw [hlr,ltB_t (by omega)]
     have hc:=hT kids[i] (List.getElem_mem _)
     have htk:=cutL_take x kids i hlt
     have hg:=Go.Cod.rows_get kids i hlt
     have hle:=T.cutL_len x (kids.take i)
     rw [List.length_take] at hle
     have w1:V.int .i64 (IntKind.i64.wrap (i+1))=.int .i64 ((i+1:Nat):Int):=by rw [wrap64 (by omega) (by omega)]; simp
     generalize kids[i]=t at hc htk hg
     generalize hct:T.cut x t=ft at hc htk
     cases t with
     | mk id' kind' text' kids' =>
     conv=>whnf
     refine ⟨by omega,T.rows kids,_,4,rfl,hg,rfl,rfl,?_⟩
     conv=>whnf
     by_cases hx:id'=x
     · rw [eqB_t hx]
       conv=>whnf
       have htk:T.cutL x (kids.take (i+1))=T.cutL x (kids.take i):=by rw [htk,if_pos (show (T.mk id' kind' text' kids').id=x from hx)]
       refine ⟨m - 1,by omega,none,?_⟩
       conv=>whnf
       refine ⟨i+1,by omega,.inl ⟨by rw [htk]; exact he,⟨rfl,rfl,rfl,rfl,w1,trivial⟩,rfl⟩⟩
     · rw [eqB_f hx]
       conv=>whnf
       have htk:T.cutL x (kids.take (i+1))=T.cutL x (kids.take i)++[ft]:=by rw [htk,if_neg (show ¬ (T.mk id' kind' text' kids').id=x from hx)]
       cases ft with
       | mk fi fk fx fks =>
       refine ⟨by omega,T.rows kids,_,4,rfl,hg,rfl,rfl,?_⟩
       conv=>whnf
       refine .inl (hc.mono ?_)
       rintro r rfl
       conv=>whnf
       refine ⟨fun m hm=>by rw [List.mem_singleton.1 hm]; rfl,?_⟩
       conv=>whnf
       refine ⟨by show 1*64≤_; omega,.inr ⟨(by intro e; cases e),?_⟩⟩
       conv=>whnf
       refine ⟨m - 1,by omega,some [0,1,3],?_⟩
       conv=>whnf
       refine ⟨i+1,by omega,.inr ⟨by rw [htk]; simp,⟨rfl,rfl,rfl,rfl,w1,trivial⟩,?_⟩⟩
       rw [htk,he]
       rfl
   · rw [hlr,ltB_f (by omega)]
     conv=>whnf
     rw [List.take_of_length_le (by omega)] at he
     simp only [T.cut,T.cells]; rw [he]
     rfl
 · obtain ⟨fr,rfl⟩:=hh.split
   clear hh
   conv=>whnf
   by_cases hlt:i < kids.length
   · rw [hlr,ltB_t (by omega)]
     have hc:=hT kids[i] (List.getElem_mem _)
     have htk:=cutL_take x kids i hlt
     have hg:=Go.Cod.rows_get kids i hlt
     have hle:=T.cutL_len x (kids.take i)
     rw [List.length_take] at hle
     have w1:V.int .i64 (IntKind.i64.wrap (i+1))=.int .i64 ((i+1:Nat):Int):=by rw [wrap64 (by omega) (by omega)]; simp
     generalize kids[i]=t at hc htk hg
     generalize hct:T.cut x t=ft at hc htk
     cases t with
     | mk id' kind' text' kids' =>
     conv=>whnf
     refine ⟨by omega,T.rows kids,_,4,rfl,hg,rfl,rfl,?_⟩
     conv=>whnf
     by_cases hx:id'=x
     · rw [eqB_t hx]
       conv=>whnf
       have htk:T.cutL x (kids.take (i+1))=T.cutL x (kids.take i):=by rw [htk,if_pos (show (T.mk id' kind' text' kids').id=x from hx)]
       refine ⟨m - 1,by omega,none,?_⟩
       conv=>whnf
       refine ⟨i+1,by omega,.inr ⟨by rw [htk]; exact he,⟨rfl,rfl,rfl,rfl,w1,trivial⟩,by rw [htk]; rfl⟩⟩
     · rw [eqB_f hx]
       conv=>whnf
       have htk:T.cutL x (kids.take (i+1))=T.cutL x (kids.take i)++[ft]:=by rw [htk,if_neg (show ¬ (T.mk id' kind' text' kids').id=x from hx)]
       cases ft with
       | mk fi fk fx fks =>
       refine ⟨by omega,T.rows kids,_,4,rfl,hg,rfl,rfl,?_⟩
       conv=>whnf
       refine .inl (hc.mono ?_)
       rintro r rfl
       conv=>whnf
       refine ⟨fun m hm=>by rw [List.mem_singleton.1 hm]; rfl,?_⟩
       conv=>whnf
       refine ⟨by
        show ((T.rows (T.cutL x (kids.take i))).length+1)*64≤_
        rw [Go.Cod.rows_len]; omega,?_⟩
       conv=>whnf
       refine ⟨m - 1,by omega,some [0,1,4],?_⟩
       conv=>whnf
       refine ⟨i+1,by omega,.inr ⟨by rw [htk]; simp,⟨rfl,rfl,rfl,rfl,w1,trivial⟩,?_⟩⟩
       rw [htk,rows_snocT]
       rfl
   · rw [hlr,ltB_f (by omega)]
     conv=>whnf
     rw [List.take_of_length_le (by omega)]
     rfl
theorem l4Cut_pure (t:T) (ht:t.Small) (x:Int):Pure Tryd.prog 48 [.agg t.cells,.int .i64 x] (·=.agg (t.cut x).cells):=by
 induction ht with
 | @mk id kind text kids g1 g2 g3 g4 g5 ih=>exact l4Cut_pure1 _ (.mk g1 g2 g3 g4 g5) x ih
end Go.Cod
set_option linter.all false
namespace Go.Cod
open Go Go.Proofs
set_option maxRecDepth 10000
theorem bareT_none {kind sid at_:Int} {node:T} {text:List UInt8} {b:Bool} (hb:noneT node=b):bareT ⟨kind,sid,at_,node,text⟩=if kind=1 then decide (text=[]) else if kind=2 then b&&decide (text=[])&&decide (at_=0) else b&&decide (at_=0):=by
 unfold bareT
 simp only [hb]
set_option maxHeartbeats 4000000 in
theorem l4Bare_pure (s:Stp):Pure Tryd.prog 19 [.agg s.cells] (·=.bool (bareT s)):=by
 cases s with
 | mk kind sid at_ node text =>
 cases node with
 | mk nid nk nx nks =>
 have hl:((T.rows nks).length:Int)=(nks.length:Int):=by rw [Go.Cod.rows_len]
 refine pure_of_awp good Tryd.func19 rfl (by kernel_rfl) (by decide) ?_
 conv=>whnf
 by_cases h1:nid=0
 rotate_left
 rw [eqB_f h1]
 rw [bareT_none (b:=false) (by simp only [noneT]; simp [h1])]
 rotate_right
 rw [eqB_t h1]
 conv=>whnf
 by_cases h2:nk=[]
 rotate_left
 rw [eqS_f h2]
 rw [bareT_none (b:=false) (by simp only [noneT]; simp [h2])]
 rotate_right
 rw [eqS_t h2]
 conv=>whnf
 by_cases h3:nx=[]
 rotate_left
 rw [eqS_f h3]
 rw [bareT_none (b:=false) (by simp only [noneT]; simp [h3])]
 rotate_right
 rw [eqS_t h3]
 conv=>whnf
 by_cases h4:(T.rows nks).length=0
 rotate_left
 rw [eqB_f (show ((T.rows nks).length:Int)≠0 by omega)]
 rw [bareT_none (b:=false) (by simp only [noneT]; simp [h1,h2,h3]; intro e; subst e; exact h4 rfl)]
 rotate_right
 rw [eqB_t (show ((T.rows nks).length:Int)=0 by omega)]
 rw [bareT_none (b:=true) (by simp only [noneT]; simp [h1,h2,h3]; exact List.eq_nil_of_length_eq_zero (by omega))]
 all_goals
  conv=>whnf
  by_cases k1:kind=1
  · rw [eqB_t k1,if_pos k1]
    conv=>whnf
    exact congrArg V.bool (eqS_def _ _)
  · rw [eqB_f k1,if_neg k1]
    conv=>whnf
    by_cases k2:kind=2
    · rw [eqB_t k2,if_pos k2]
      conv=>whnf
      first
       | rfl
       | (by_cases k3:text=[]
          · rw [eqS_t k3]
            conv=>whnf
            refine congrArg V.bool ((eqB_def _ _).trans ?_)
            simp [k3]
          · rw [eqS_f k3]
            conv=>whnf
            simp [k3])
    · rw [eqB_f k2,if_neg k2]
      conv=>whnf
      first
       | rfl
       | (refine congrArg V.bool ((eqB_def _ _).trans ?_)
          simp)
end Go.Cod
set_option linter.all false
namespace Go.Cod
open Go Go.Proofs
set_option maxRecDepth 10000
mutual
theorem T.mapAt_size1 (x:Int) (f:T→T) (m:Nat) (hf:∀ s:T,(f s).size≤s.size+m):∀ t:T,t.ids.Nodup→(t.mapAt x f).size≤t.size+m
 | .mk id kind text kids,hn=>by
   simp only [T.ids,List.nodup_cons] at hn
   simp only [T.mapAt]
   split
   · exact hf _
   · have:=T.mapAtL_size1 x f m hf kids hn.2
     simp only [T.size]; omega
theorem T.mapAtL_size1 (x:Int) (f:T→T) (m:Nat) (hf:∀ s:T,(f s).size≤s.size+m):∀ ts:List T,(T.idsL ts).Nodup→T.sizeL (T.mapAtL x f ts)≤T.sizeL ts+m
 | [],_=>by simp [T.mapAtL,T.sizeL]
 | t::ts,hn=>by
   simp only [T.idsL,List.nodup_append] at hn
   simp only [T.mapAtL,T.sizeL]
   by_cases hx:x∈t.ids
   · rw [T.mapAtL_none x f ts fun h=>hn.2.2 x hx x h rfl]
     have:=T.mapAt_size1 x f m hf t hn.1
     omega
   · rw [T.mapAt_none x f t hx]
     have:=T.mapAtL_size1 x f m hf ts hn.2.1
     omega
end
mutual
theorem putOk_none (x:Int) (n:Nat):∀ t:T,x∉t.ids→t.PutOk x n
 | .mk id kind text kids,h=>by
   simp only [T.ids,List.mem_cons,not_or] at h
   simp only [T.PutOk,if_neg (Ne.symm h.1)]
   exact putOkL_none x n kids h.2
theorem putOkL_none (x:Int) (n:Nat):∀ ts:List T,x∉T.idsL ts→T.PutOkL x n ts
 | [],_=>trivial
 | t::ts,h=>by
   simp only [T.idsL,List.mem_append,not_or] at h
   exact ⟨putOk_none x n t h.1,putOkL_none x n ts h.2⟩
end
mutual
theorem putOk_found (x:Int) (n:Nat):∀ (t s:T),t.ids.Nodup→fT t x=some s→n≤s.kids.length→t.PutOk x n
 | .mk id kind text kids,s,hn,hf,hl=>by
   simp only [T.ids,List.nodup_cons] at hn
   simp only [fT] at hf
   simp only [T.PutOk]
   split
   · rename_i h
     rw [if_pos h,Option.some.injEq] at hf
     subst hf; exact hl
   · rename_i h
     rw [if_neg h] at hf
     exact putOkL_found x n kids s hn.2 hf hl
theorem putOkL_found (x:Int) (n:Nat):∀ (ts:List T) (s:T),(T.idsL ts).Nodup→fL ts x=some s→n≤s.kids.length→T.PutOkL x n ts
 | [],_,_,hf,_=>by simp [fL] at hf
 | t::ts,s,hn,hf,hl=>by
   simp only [T.idsL,List.nodup_append] at hn
   simp only [fL] at hf
   cases h1:fT t x with
   | some s' =>
     rw [h1,Option.some.injEq] at hf
     subst hf
     have hx:x∈t.ids:=by
      refine Decidable.byContradiction fun h=>?_
      rw [(fT_none t x).2 h] at h1; cases h1
     exact ⟨putOk_found x n t s' hn.1 h1 hl,putOkL_none x n ts fun h=>hn.2.2 x hx x h rfl⟩
   | none =>
     rw [h1] at hf
     exact ⟨putOk_none x n t ((fT_none t x).1 h1),putOkL_found x n ts s hn.2.1 hf hl⟩
end
def okO (y:T):Option T:=if okT y=true then some y else none
def doR (t:T):Option T→V
 | some y=>.tup [.agg y.cells,.bool true]
 | none=>.tup [.agg t.cells,.bool false]
theorem okT_size {t:T} (h:okT t=true):t.size≤20:=by
 have:=((okT_iff' t).1 h).2.2
 rwa [T.ids_size] at this
theorem doT_none {t:T} {s:Stp} (h:editT t s=none):doT t s=none:=by unfold doT; rw [h]
theorem doT_some {t y:T} {s:Stp} (h:editT t s=some y):doT t s=okO y:=by unfold doT okO; rw [h]
end Go.Cod
set_option linter.all false
namespace Go.Cod
open Go Go.Proofs
set_option maxRecDepth 10000
theorem okO_some {y z:T} (h:okO y=some z):y=z∧okT y=true:=by
 unfold okO at h
 split at h
 · rename_i h1
   exact ⟨Option.some.inj h,h1⟩
 · cases h
theorem doT_ok {t:T} {s:Stp} {y:T} (h:doT t s=some y):editT t s=some y∧okT y=true:=by
 unfold doT at h
 cases he:editT t s with
 | none=>rw [he] at h; cases h
 | some z =>
   rw [he] at h
   obtain ⟨rfl,h2⟩:=okO_some h
   exact ⟨rfl,h2⟩
theorem editT_small {t:T} {s:Stp} {y:T} (ht:t.Small) (hz:t.size≤1000000) (hs:s.node.Small) (htx:s.text.length≤1048576) (h:editT t s=some y):y.Small:=by
 have hsm:=fun x=>fT_small t s.id ht x
 unfold editT at h
 cases hf:fT t s.id with
 | none=>rw [hf] at h; cases h
 | some x =>
   rw [hf] at h
   have hx:=hsm x hf
   have hxk:x.kind.length≤1048576∧x.text.length≤1048576:=by
    cases hx with
    | mk g1 g2 g3 g4 g5=>exact ⟨g2,g3⟩
   simp only at h
   split at h
   · cases h
   split at h
   · split at h
     · cases h
       exact T.mapAt_small _ _ 1000000 (fun y h1 _ h2=>putKidT_small _ s.node y h1 hs h2) t ht hz
     · cases h
   split at h
   · split at h
     · cases h
     · cases h
       exact (T.cut_small s.id t ht).1
   split at h
   · cases h
     exact T.mapAt_small _ _ 1000000 (fun y h1 _ _=>setT_small _ _ y h1 hxk.1 htx) t ht hz
   split at h
   · cases h
     exact T.mapAt_small _ _ 1000000 (fun y h1 _ _=>setT_small _ _ y h1 htx hxk.2) t ht hz
   · cases h
end Go.Cod
set_option linter.all false
namespace Go.Cod
open Go Go.Proofs
set_option maxRecDepth 10000
end Go.Cod
set_option linter.all false
namespace Go.Cod
open Go Go.Proofs
set_option maxRecDepth 10000
end Go.Cod
set_option linter.all false
namespace Go.Cod
open Go Go.Proofs
set_option maxRecDepth 10000
end Go.Cod
set_option linter.all false
namespace Go.Cod
open Go Go.Proofs
set_option maxRecDepth 10000
end Go.Cod
set_option linter.all false
namespace Go.Cod
open Go Go.Proofs
set_option maxRecDepth 10000
end Go.Cod
set_option linter.all false
namespace Go.Cod
open Go Go.Proofs
set_option maxRecDepth 10000
def nothingT (s:Stp):Bool:=decide (s.at_=0)&&noneT s.node
set_option maxHeartbeats 4000000 in
theorem stepPutsNothing_pure (s:Stp):Pure Tryd.prog 32 [.agg s.cells] (·=.bool (nothingT s)):=by
 cases s with
 | mk kind sid at_ node text =>
 cases node with
 | mk nid nk nx nks =>
 have hl:((T.rows nks).length:Int)=(nks.length:Int):=by rw [Go.Cod.rows_len]
 show Pure Tryd.prog _ [.agg [.int .i64 kind,.int .i64 sid,.int .i64 at_,.int .i64 nid,.str nk,.str nx,.sl (T.rows nks),.str text]] _
 refine pure_of_awp good Tryd.func32 rfl (by kernel_rfl) (by decide) ?_
 conv=>whnf
 by_cases h0:at_=0
 rotate_left
 · rw [eqB_f h0]
   conv=>whnf
   simp [nothingT,h0]
 rw [eqB_t h0]
 conv=>whnf
 by_cases h1:nid=0
 rotate_left
 · rw [eqB_f h1]
   conv=>whnf
   simp [nothingT,noneT,h1]
 rw [eqB_t h1]
 conv=>whnf
 by_cases h2:nk=[]
 rotate_left
 · rw [eqS_f h2]
   conv=>whnf
   simp [nothingT,noneT,h2]
 rw [eqS_t h2]
 conv=>whnf
 by_cases h3:nx=[]
 rotate_left
 · rw [eqS_f h3]
   conv=>whnf
   simp [nothingT,noneT,h3]
 rw [eqS_t h3]
 conv=>whnf
 by_cases h4:nks.length=0
 · rw [eqB_t (show ((T.rows nks).length:Int)=0 by omega)]
   conv=>whnf
   simp only [nothingT,noneT,h0,h1,h2,h3,h4,decide_true,Bool.and_self]
 · rw [eqB_f (show ((T.rows nks).length:Int)≠0 by omega)]
   conv=>whnf
   simp only [nothingT,noneT,h0,h1,h2,h3,h4,decide_true,decide_false,Bool.and_self,Bool.and_false]
end Go.Cod
set_option linter.all false
namespace Go.Cod
open Go Go.Proofs
set_option maxRecDepth 10000
def deedV (s:Stp):V:=if s.kind=1 then .iface 80 (.agg ([.int .i64 s.id,.int .i64 s.at_]++s.node.cells)) else if s.kind=2 then .iface 82 (.agg [.int .i64 s.id]) else if s.kind=3 then .iface 84 (.agg [.int .i64 s.id,.str s.text])
 else if s.kind=4 then .iface 86 (.agg [.int .i64 s.id,.str s.text]) else .raw .nilIface
def deedOk (s:Stp):Bool:=if s.kind=1 then decide (s.text=[])&&okT s.node else if s.kind=2 then decide (s.text=[])&&nothingT s else if s.kind=3 then nothingT s else if s.kind=4 then nothingT s else false
set_option maxHeartbeats 4000000 in
theorem stepDeedOf_pure (s:Stp) (hs:s.node.Small):Pure Tryd.prog 15 [.agg s.cells] (·=.tup [deedV s,.bool (deedOk s)]):=by
 have f1:=implTreeOk s.node hs
 have f2:=stepPutsNothing_pure s
 have hv:deedV s=if s.kind=1 then .iface 80 (.agg ([.int .i64 s.id,.int .i64 s.at_]++s.node.cells)) else if s.kind=2 then .iface 82 (.agg [.int .i64 s.id]) else if s.kind=3 then .iface 84 (.agg [.int .i64 s.id,.str s.text])
  else if s.kind=4 then .iface 86 (.agg [.int .i64 s.id,.str s.text]) else .raw .nilIface:=rfl
 have hk:deedOk s=if s.kind=1 then decide (s.text=[])&&okT s.node else if s.kind=2 then decide (s.text=[])&&nothingT s else if s.kind=3 then nothingT s else if s.kind=4 then nothingT s else false:=rfl
 generalize deedV s=dv at *
 generalize deedOk s=dk at *
 generalize nothingT s=nt at *
 generalize okT s.node=ok at *
 simp only [Stp.cells] at f2 ⊢
 cases s with
 | mk kind sid at_ node text =>
 cases node with
 | mk nid nk nx nks =>
 simp only at hv hk f1 f2
 refine pure_of_awp good Tryd.func15 rfl (by kernel_rfl) (by decide) ?_
 conv=>whnf
 by_cases k1:kind=1
 · rw [if_pos k1] at hv hk
   rw [eqB_t k1]
   conv=>whnf
   by_cases h1:text=[]
   · rw [eqS_t h1]
     conv=>whnf
     refine ⟨_,.inl f1,?_⟩
     conv=>whnf
     rw [hv,hk,h1]
     cases ok <;> rfl
   · rw [eqS_f h1]
     conv=>whnf
     rw [hv,hk,show decide (text=[])=false by simpa using h1]
     rfl
 rw [if_neg k1] at hv hk
 rw [eqB_f k1]
 conv=>whnf
 by_cases k2:kind=2
 · rw [if_pos k2] at hv hk
   rw [eqB_t k2]
   conv=>whnf
   by_cases h1:text=[]
   · rw [eqS_t h1]
     conv=>whnf
     refine ⟨_,.inl f2,?_⟩
     conv=>whnf
     rw [hv,hk,h1]
     cases nt <;> rfl
   · rw [eqS_f h1]
     conv=>whnf
     rw [hv,hk,show decide (text=[])=false by simpa using h1]
     rfl
 rw [if_neg k2] at hv hk
 rw [eqB_f k2]
 conv=>whnf
 by_cases k3:kind=3
 · rw [if_pos k3] at hv hk
   rw [eqB_t k3]
   conv=>whnf
   refine ⟨_,.inl f2,?_⟩
   conv=>whnf
   rw [hv,hk]
   rfl
 rw [if_neg k3] at hv hk
 rw [eqB_f k3]
 conv=>whnf
 by_cases k4:kind=4
 · rw [if_pos k4] at hv hk
   rw [eqB_t k4]
   conv=>whnf
   refine ⟨_,.inl f2,?_⟩
   conv=>whnf
   rw [hv,hk]
   rfl
 rw [if_neg k4] at hv hk
 rw [eqB_f k4]
 conv=>whnf
 rw [hv,hk]
 rfl
end Go.Cod
set_option linter.all false
namespace Go.Cod
open Go Go.Proofs
set_option maxRecDepth 10000
end Go.Cod
set_option linter.all false
namespace Go.Cod
open Go Go.Proofs
set_option maxRecDepth 10000
end Go.Cod
set_option linter.all false
namespace Go.Cod
open Go Go.Proofs Go.ChangeShapes Go.WideShapes Go.ChangeAt Go.RowKit
set_option maxRecDepth 10000
end Go.Cod
set_option linter.all false
namespace Go.Cod
open Go Go.Proofs Go.ChangeShapes Go.WideShapes Go.ChangeAt Go.RowKit
set_option maxRecDepth 10000
end Go.Cod
set_option linter.all false
namespace Go.Cod
open Go Go.Proofs
set_option maxRecDepth 10000
theorem l1Many2 (s:List UInt8) (n:Int) (h0:0≤n) (hn64:n≤1048576) (hL:s.length*n.toNat≤1048576) (hs:s.length≤1048576):Pure Tryd.prog 63 [.str s,.int .i64 n] fun r=>∃ t:List UInt8,t.length=s.length*n.toNat∧(∀ x∈t,x∈s)∧r=.str t:=by
 generalize hLL:s.length*n.toNat=L at *
 refine pure_of_awp good Tryd.func63 rfl (by kernel_rfl) (by decide) ?_
 conv=>whnf
 refine loop_intro (fun m fr st=>st=[]∧∃ (a b:List UInt8),a.length+b.length*m=L∧b.length≤2097152∧(m:Int)≤n∧((∀ x∈a,x∈s)∧∀ x∈b,x∈s)∧Holds fr [(0,.str b),(1,.int .i64 m),(5,.str a)]) n.toNat
  ⟨rfl,[],s,by simp [hLL],by omega,by omega,⟨by simp,fun _ h=>h⟩,rfl,by rw [Int.toNat_of_nonneg h0]; rfl,rfl,trivial⟩ ?_
 rintro m fr st ⟨rfl,a,b,h1,h2,h3,⟨h4,h5⟩,hh⟩
 obtain ⟨fr,rfl⟩:=hh.split
 clear hh
 conv=>whnf
 by_cases hlt:0 < m
 · rw [ltB_t (by omega)]
   conv=>whnf
   refine ⟨by decide,?_⟩
   conv=>whnf
   have hbm:b.length≤b.length*m:=Nat.le_mul_of_pos_right _ hlt
   have e1:(m:Int).tmod 2=((m % 2:Nat):Int):=by rw [Int.tmod_eq_emod_of_nonneg (by omega)]; omega
   have e4:IntKind.i64.wrap ((m:Int).tdiv 2)=((m / 2:Nat):Int):=by
    rw [Int.tdiv_eq_ediv_of_nonneg (by omega),wrap64 (by omega) (by omega)]; omega
   have hm:m=2*(m / 2)+m % 2:=by omega
   have hmul:b.length*m=2*(b.length*(m / 2))+b.length*(m % 2):=by
    conv=>lhs; rw [hm,Nat.mul_add,Nat.mul_left_comm]
   rw [e1]
   by_cases ho:m % 2=1
   · rw [eqB_t (by omega)]
     conv=>whnf
     rw [ho,Nat.mul_one] at hmul
     refine ⟨by omega,?_⟩
     conv=>whnf
     refine ⟨by omega,?_⟩
     conv=>whnf
     refine ⟨by decide,?_⟩
     conv=>whnf
     refine ⟨m / 2,by omega,rfl,a++b,b++b,?_,by simp; omega,by omega,⟨fun x h=>(List.mem_append.1 h).elim (h4 x) (h5 x),fun x h=>(List.mem_append.1 h).elim (h5 x) (h5 x)⟩,rfl,by rw [← e4]; rfl,rfl,trivial⟩
     rw [List.length_append,List.length_append,Nat.add_mul]; omega
   · rw [eqB_f (by omega)]
     conv=>whnf
     rw [show m % 2=0 by omega,Nat.mul_zero] at hmul
     refine ⟨by omega,?_⟩
     conv=>whnf
     refine ⟨by decide,?_⟩
     conv=>whnf
     refine ⟨m / 2,by omega,rfl,a,b++b,?_,by simp; omega,by omega,⟨h4,fun x h=>(List.mem_append.1 h).elim (h5 x) (h5 x)⟩,rfl,by rw [← e4]; rfl,rfl,trivial⟩
     rw [List.length_append,Nat.add_mul]; omega
 · rw [ltB_f (by omega)]
   conv=>whnf
   have:m=0:=by omega
   subst this
   exact ⟨a,by omega,h4,rfl⟩
theorem l11Text2 (bs:List UInt8) (p:Int) (hb:bs.length≤2000) (h0:0≤p) (h1:p≤1073741824) :
  Full Tryd.prog noY 46 [.ptr 0 0 0] [rdO bs p] fun o st'=>∃ s:List UInt8,(s.length≤12∧(10:UInt8)∉s)∧o=.ret (.str s)∧st'=[rdO bs (p+1)]:=by
 have hm:=l1Many2 [116] 12 (by decide) (by decide) (by decide) (by decide)
 refine full_of_awp good Tryd.func46 rfl (by kernel_rfl) (by decide) ?_
 conv=>whnf
 refine .inl (hm.mono ?_)
 rintro r ⟨t,ht,ht2,rfl⟩
 have ho:=of_full bs p [[],[97],[98],[111,110,101,32,116,119,111],[120],t] hb h0 h1 (by simp) (by simp)
 conv=>whnf
 refine ⟨[0],false,?_⟩
 conv=>whnf
 refine ho.mono ?_
 rintro o st' ⟨s,hs,rfl,rfl⟩
 conv=>whnf
 refine ⟨[],false,?_⟩
 conv=>whnf
 refine ⟨s,?_,rfl,rfl⟩
 simp only [List.mem_cons,List.not_mem_nil,or_false] at hs
 rcases hs with rfl | rfl | rfl | rfl | rfl | rfl <;> first | decide | exact ⟨by rw [ht]; decide,fun h=>by have:=ht2 _ h; simp at this⟩
end Go.Cod
set_option linter.all false
namespace Go.Cod
open Go Go.Proofs Go.ChangeShapes Go.WideShapes Go.ChangeAt Go.RowKit
set_option maxRecDepth 10000
def Stp.Int64 (s:Stp):Prop:=-9223372036854775808≤s.id∧s.id≤9223372036854775807∧-9223372036854775808≤s.at_∧s.at_≤9223372036854775807
def Stp.Dr (s:Stp):Prop:=s.node.Small∧s.node.size≤256∧s.text.length≤1000∧(10:UInt8)∉s.text∧s.Int64
theorem ids_i64 (t:T) (h:t.Small):∀ x∈t.ids,-9223372036854775808≤x∧x≤9223372036854775807:=by
 induction h with
 | @mk id kind text kids g1 g2 g3 g4 g5 ih =>
   intro x hx
   rw [T.ids] at hx
   rcases List.mem_cons.1 hx with rfl | hx
   · exact g1
   · have:∀ ks:List T,(∀ t∈ks,t∈kids)→x∈T.idsL ks→-9223372036854775808≤x∧x≤9223372036854775807:=by
      intro ks
      induction ks with
      | nil=>intro _ h; simp [T.idsL] at h
      | cons k ks ihk =>
        intro hk h
        rw [T.idsL] at h
        rcases List.mem_append.1 h with h | h
        · exact ih k (hk k (by simp)) x h
        · exact ihk (fun t ht=>hk t (by simp [ht])) h
     exact this kids (fun _ h=>h) hx
def EdR (bs:List UInt8) (p k:Int) (o:Out) (st':St):Prop:=∃ (s:Stp) (p' k':Int),s.Dr∧p≤p'∧p'≤p+1000∧0≤k'∧k'≤k+1000∧o=.ret (.agg s.cells)∧st'=[rdO bs p',nxO k']
theorem noneS_small:(T.mk 0 [] [] []).Small:=.mk (by omega) (by simp) (by simp) (by simp) (by simp)
set_option maxHeartbeats 8000000 in
theorem l11Edit_full (bs:List UInt8) (hb:bs.length≤2000) (p k:Int) (p0:0≤p) (p1:p≤10000000) (k0:0≤k) (k1:k≤1000000) (t:T) (ht:t.Small) (hz:t.size≤600000) :
  Full Tryd.prog noY 28 [.ptr 0 0 0,.agg t.cells,.ptr 1 0 0] [rdO bs p,nxO k] (EdR bs p k):=by
 have hn:=T.ids_size t
 have hi:=l2Ids_pure t ht (by omega)
 have hl:(irows t.ids).length=t.ids.length:=by simp [irows]
 have hp:∀ (q n:Int),0≤q→q≤1073741824→Full Tryd.prog noY 13 [.ptr 0 0 0,.int .i64 n] [rdO bs q] fun o st'=>∃ m:Int,0≤m∧(1≤n→m < n)∧o=.ret (.int .i64 m)∧st'=[rdO bs (q+1)]:=fun q n h0 h1=>pick_full bs q n hb h0 h1
 have ho:∀ (q:Int) (ss:List (List UInt8)),0≤q→q≤1073741824→1≤ss.length→ss.length≤1048576→Full Tryd.prog noY 30 [.ptr 0 0 0,.sl (drows ss)] [rdO bs q] fun o st'=>∃ s∈ss,o=.ret (.str s)∧st'=[rdO bs (q+1)]:=fun q ss h0 h1 h2 h3=>of_full bs q ss hb h0 h1 h2 h3
 have hx:=fun q h0 h1=>l11Text2 bs q hb h0 h1
 have hT:=l11Tree_3 bs hb
 have hpos:=size_pos t
 have hg:∀ (m:Int),0≤m→m < t.ids.length→∃ x:Int,(irows t.ids)[m.toNat]? = some [.int .i64 x]∧-9223372036854775808≤x∧x≤9223372036854775807:=fun m h0 h1=>by
  have:m.toNat < t.ids.length:=by omega
  exact ⟨t.ids[m.toNat],by simp [irows,this],ids_i64 t ht _ (List.getElem_mem this)⟩
 have hf:=fun x=>l2Find_pure t ht x
 have hfx:∀ x,∃ (s:T) (b:Bool),fR (fT t x)=.tup [.agg s.cells,.bool b]∧s.size≤600000:=fun x=>by
  cases h:fT t x with
  | none=>exact ⟨TZ,false,rfl,by simp [TZ,T.size,T.sizeL]⟩
  | some s=>exact ⟨s,true,rfl,by have:=fT_size t x s h; omega⟩
 have hkl:∀ s:T,s.size≤600000→s.kids.length≤600000:=fun s h=>by
  have h2:∀ ts:List T,ts.length≤T.sizeL ts:=length_le_sizeL
  have h3:=T.kids_size s
  have:=h2 s.kids
  omega
 generalize irows t.ids=rows at *
 generalize t.ids.length=n at *
 cases t with
 | mk id kind text kids =>
 refine full_of_awp good Tryd.func28 rfl (by kernel_rfl) (by decide) ?_
 conv=>whnf
 refine .inl (hi.mono ?_)
 rintro r rfl
 conv=>whnf
 refine ⟨[0],false,?_⟩
 conv=>whnf
 refine (hp p _ p0 (by omega)).mono ?_
 rintro o st' ⟨c,c0,c1,rfl,rfl⟩
 obtain ⟨x,hgx,hx0,hx1⟩:=hg c c0 (by have:=c1 (by omega); omega)
 conv=>whnf
 refine ⟨c0,_,_,1,rfl,hgx,rfl,rfl,?_⟩
 conv=>whnf
 refine .inl ((hf x).mono ?_)
 rintro r rfl
 obtain ⟨y,yb,hy1,hy2⟩:=hfx x
 rw [hy1]
 have hyk:=hkl y hy2
 cases y with
 | mk yid yk yt yks =>
 simp only [T.kids] at hyk
 have hyl:=Go.Cod.rows_len yks
 conv=>whnf
 refine ⟨[0],false,?_⟩
 conv=>whnf
 refine (hp (p+1) 7 (by omega) (by omega)).mono ?_
 rintro o st' ⟨d,d0,d1,rfl,rfl⟩
 conv=>whnf
 have hend:∀ (s:Stp) (p' k':Int),s.Dr→p≤p'→p'≤p+1000→0≤k'→k'≤k+1000→EdR bs p k (.ret (.agg s.cells)) [rdO bs p',nxO k']:=fun s p' k' h1 h2 h3 h4 h5=>⟨s,p',k',h1,h2,h3,h4,h5,rfl,rfl⟩
 have hsec:kSec∈kinds11:=by decide
 have hput:∀ (kd:List UInt8) (k':Int),kd∈kinds11→0≤k'→k'≤1000000→Full Tryd.prog noY 45 [.ptr 0 0 0,.str kd,.int .i64 3,.ptr 1 0 0] [rdO bs (p+1+1+1+1),nxO k'] (TreeR bs (p+1+1+1+1) k' 256):=fun kd k' h1 h2 h3=>hT (p+1+1+1+1) k' kd (by omega) (by omega) h2 (by omega) h1
 have hw:90 < k.tmod 100→IntKind.i64.wrap (k - 50)=k - 50∧0≤k - 50:=fun h3=>by
  have h5:k.tmod 100≤k:=by rw [Int.tmod_eq_emod_of_nonneg k0]; omega
  exact ⟨wrap64 (by omega) (by omega),by omega⟩
 have hw0:90 < k.tmod 100→0≤k - 50:=fun h=>(hw h).2
 have hsec:kSec∈kinds11:=by decide
 have hput:∀ (kd:List UInt8) (k':Int),kd∈kinds11→0≤k'→k'≤1000000→Full Tryd.prog noY 45 [.ptr 0 0 0,.str kd,.int .i64 3,.ptr 1 0 0] [rdO bs (p+1+1+1+1),nxO k'] (TreeR bs (p+1+1+1+1) k' 256):=fun kd k' h1 h2 h3=>hT (p+1+1+1+1) k' kd (by omega) (by omega) h2 (by omega) h1
 have hw:90 < k.tmod 100→IntKind.i64.wrap (k - 50)=k - 50∧0≤k - 50:=fun h3=>by
  have h5:k.tmod 100≤k:=by rw [Int.tmod_eq_emod_of_nonneg k0]; omega
  exact ⟨wrap64 (by omega) (by omega),by omega⟩
 have hw0:90 < k.tmod 100→0≤k - 50:=fun h=>(hw h).2
 by_cases e0:d=0
 · rw [eqB_t e0]
   conv=>whnf
   refine ⟨[0],false,?_⟩
   conv=>whnf
   refine (ho (p+1+1) [[112,97,114],[112,97,114],[115,101,99],[110,111,116,101],[116,105,116,108,101]] (by omega) (by omega) (by simp) (by simp)).mono ?_
   rintro o st' ⟨kd,hkd,rfl,rfl⟩
   have hkd:kd∈kinds11:=by
    simp only [List.mem_cons,List.not_mem_nil,or_false] at hkd
    simp only [kinds11,kPar,kSec,kNote,kTitle,List.mem_cons,List.not_mem_nil,or_false]
    rcases hkd with rfl | rfl | rfl | rfl | rfl <;> simp
   conv=>whnf
   by_cases hdoc:yk=[100,111,99]
   case' pos =>
    rw [eqS_t hdoc]
    conv=>whnf
   case' neg =>
    rw [eqS_f hdoc]
    conv=>whnf
   all_goals
    refine ⟨by omega,?_⟩
    conv=>whnf
    by_cases hm:90 < k.tmod 100
    · rw [ltB_t hm]
      conv=>whnf
      rw [(hw hm).1]
      refine ⟨[0],false,?_⟩
      conv=>whnf
      refine (hp (p+1+1+1) _ (by omega) (by omega)).mono ?_
      rintro o st' ⟨c,c0,c1,rfl,rfl⟩
      have hc2:c≤9223372036854775807:=by
       have c1:=c1 (by rw [wrap64 (by omega) (by omega)]; omega)
       rw [wrap64 (by omega) (by omega)] at c1
       omega
      conv=>whnf
      refine ⟨[0,1],false,?_⟩
      conv=>whnf
      first
       | refine (hput kSec (k - 50) hsec (by first | omega | exact hw0 hm) (by omega)).mono ?_
       | refine (hput kd (k - 50) hkd (by first | omega | exact hw0 hm) (by omega)).mono ?_
      rintro o st' ⟨nt,p',k',n1,n2,n3,n4,n5,n6,rfl,rfl⟩
      rcases nt with ⟨ni,nk,nx,nks⟩
      conv=>whnf
      refine ⟨[],false,?_⟩
      conv=>whnf
      exact hend ⟨1,x,c,.mk ni nk nx nks,[]⟩ p' k' ⟨n1,by show (T.mk ni nk nx nks).size≤256; omega,by simp,by simp,hx0,hx1,by show (-9223372036854775808:Int)≤c; omega,hc2⟩ (by omega) (by omega) (by omega) (by omega)
    · rw [ltB_f (by omega)]
      conv=>whnf
      refine ⟨[0],false,?_⟩
      conv=>whnf
      refine (hp (p+1+1+1) _ (by omega) (by omega)).mono ?_
      rintro o st' ⟨c,c0,c1,rfl,rfl⟩
      have hc2:c≤9223372036854775807:=by
       have c1:=c1 (by rw [wrap64 (by omega) (by omega)]; omega)
       rw [wrap64 (by omega) (by omega)] at c1
       omega
      conv=>whnf
      refine ⟨[0,1],false,?_⟩
      conv=>whnf
      first
       | refine (hput kSec k hsec (by first | omega | exact hw0 hm) (by omega)).mono ?_
       | refine (hput kd k hkd (by first | omega | exact hw0 hm) (by omega)).mono ?_
      rintro o st' ⟨nt,p',k',n1,n2,n3,n4,n5,n6,rfl,rfl⟩
      rcases nt with ⟨ni,nk,nx,nks⟩
      conv=>whnf
      refine ⟨[],false,?_⟩
      conv=>whnf
      exact hend ⟨1,x,c,.mk ni nk nx nks,[]⟩ p' k' ⟨n1,by show (T.mk ni nk nx nks).size≤256; omega,by simp,by simp,hx0,hx1,by show (-9223372036854775808:Int)≤c; omega,hc2⟩ (by omega) (by omega) (by omega) (by omega)
 rw [eqB_f e0]
 conv=>whnf
 by_cases e1:d=1
 · rw [eqB_t e1]
   conv=>whnf
   refine ⟨[0],false,?_⟩
   conv=>whnf
   refine (ho (p+1+1) [[112,97,114],[112,97,114],[115,101,99],[110,111,116,101],[116,105,116,108,101]] (by omega) (by omega) (by simp) (by simp)).mono ?_
   rintro o st' ⟨kd,hkd,rfl,rfl⟩
   have hkd:kd∈kinds11:=by
    simp only [List.mem_cons,List.not_mem_nil,or_false] at hkd
    simp only [kinds11,kPar,kSec,kNote,kTitle,List.mem_cons,List.not_mem_nil,or_false]
    rcases hkd with rfl | rfl | rfl | rfl | rfl <;> simp
   conv=>whnf
   by_cases hdoc:yk=[100,111,99]
   case' pos =>
    rw [eqS_t hdoc]
    conv=>whnf
   case' neg =>
    rw [eqS_f hdoc]
    conv=>whnf
   all_goals
    refine ⟨by omega,?_⟩
    conv=>whnf
    by_cases hm:90 < k.tmod 100
    · rw [ltB_t hm]
      conv=>whnf
      rw [(hw hm).1]
      refine ⟨[0],false,?_⟩
      conv=>whnf
      refine (hp (p+1+1+1) _ (by omega) (by omega)).mono ?_
      rintro o st' ⟨c,c0,c1,rfl,rfl⟩
      have hc2:c≤9223372036854775807:=by
       have c1:=c1 (by rw [wrap64 (by omega) (by omega)]; omega)
       rw [wrap64 (by omega) (by omega)] at c1
       omega
      conv=>whnf
      refine ⟨[0,1],false,?_⟩
      conv=>whnf
      first
       | refine (hput kSec (k - 50) hsec (by first | omega | exact hw0 hm) (by omega)).mono ?_
       | refine (hput kd (k - 50) hkd (by first | omega | exact hw0 hm) (by omega)).mono ?_
      rintro o st' ⟨nt,p',k',n1,n2,n3,n4,n5,n6,rfl,rfl⟩
      rcases nt with ⟨ni,nk,nx,nks⟩
      conv=>whnf
      refine ⟨[],false,?_⟩
      conv=>whnf
      exact hend ⟨1,x,c,.mk ni nk nx nks,[]⟩ p' k' ⟨n1,by show (T.mk ni nk nx nks).size≤256; omega,by simp,by simp,hx0,hx1,by show (-9223372036854775808:Int)≤c; omega,hc2⟩ (by omega) (by omega) (by omega) (by omega)
    · rw [ltB_f (by omega)]
      conv=>whnf
      refine ⟨[0],false,?_⟩
      conv=>whnf
      refine (hp (p+1+1+1) _ (by omega) (by omega)).mono ?_
      rintro o st' ⟨c,c0,c1,rfl,rfl⟩
      have hc2:c≤9223372036854775807:=by
       have c1:=c1 (by rw [wrap64 (by omega) (by omega)]; omega)
       rw [wrap64 (by omega) (by omega)] at c1
       omega
      conv=>whnf
      refine ⟨[0,1],false,?_⟩
      conv=>whnf
      first
       | refine (hput kSec k hsec (by first | omega | exact hw0 hm) (by omega)).mono ?_
       | refine (hput kd k hkd (by first | omega | exact hw0 hm) (by omega)).mono ?_
      rintro o st' ⟨nt,p',k',n1,n2,n3,n4,n5,n6,rfl,rfl⟩
      rcases nt with ⟨ni,nk,nx,nks⟩
      conv=>whnf
      refine ⟨[],false,?_⟩
      conv=>whnf
      exact hend ⟨1,x,c,.mk ni nk nx nks,[]⟩ p' k' ⟨n1,by show (T.mk ni nk nx nks).size≤256; omega,by simp,by simp,hx0,hx1,by show (-9223372036854775808:Int)≤c; omega,hc2⟩ (by omega) (by omega) (by omega) (by omega)
 rw [eqB_f e1]
 conv=>whnf
 by_cases e2:d=2
 · rw [eqB_t e2]
   conv=>whnf
   refine ⟨[],false,?_⟩
   conv=>whnf
   exact hend ⟨2,x,0,.mk 0 [] [] [],[]⟩ _ k ⟨noneS_small,by simp [T.size,T.sizeL],by simp,by simp,hx0,hx1,by simp,by simp⟩ (by omega) (by omega) (by omega) (by omega)
 rw [eqB_f e2]
 conv=>whnf
 by_cases e3:d=3
 · rw [eqB_t e3]
   conv=>whnf
   refine ⟨[0],false,?_⟩
   conv=>whnf
   refine (hp (p+1+1) 3 (by omega) (by omega)).mono ?_
   rintro o st' ⟨c,c0,c1,rfl,rfl⟩
   conv=>whnf
   by_cases e4:c=0
   · rw [eqB_t e4]
     conv=>whnf
     refine ⟨[0],false,?_⟩
     conv=>whnf
     refine (ho (p+1+1+1) [[112,97,114],[110,111,116,101],[115,101,99],[116,105,116,108,101],[120]] (by omega) (by omega) (by simp) (by simp)).mono ?_
     rintro o st' ⟨kd,hkd,rfl,rfl⟩
     have hkl:kd.length≤1000∧(10:UInt8)∉kd:=by
      simp only [List.mem_cons,List.not_mem_nil,or_false] at hkd
      rcases hkd with rfl | rfl | rfl | rfl | rfl <;> decide
     conv=>whnf
     refine ⟨[],false,?_⟩
     conv=>whnf
     exact hend ⟨4,x,0,.mk 0 [] [] [],kd⟩ _ k ⟨noneS_small,by simp [T.size,T.sizeL],hkl.1,hkl.2,hx0,hx1,by simp,by simp⟩ (by omega) (by omega) (by omega) (by omega)
   · rw [eqB_f e4]
     conv=>whnf
     refine ⟨[0],false,?_⟩
     conv=>whnf
     refine (hx (p+1+1+1) (by omega) (by omega)).mono ?_
     rintro o st' ⟨tx,htx,rfl,rfl⟩
     conv=>whnf
     refine ⟨[],false,?_⟩
     conv=>whnf
     exact hend ⟨3,x,0,.mk 0 [] [] [],tx⟩ _ k ⟨noneS_small,by simp [T.size,T.sizeL],by simp only; omega,htx.2,hx0,hx1,by simp,by simp⟩ (by omega) (by omega) (by omega) (by omega)
 · rw [eqB_f e3]
   conv=>whnf
   refine ⟨[0],false,?_⟩
   conv=>whnf
   refine (hx (p+1+1) (by omega) (by omega)).mono ?_
   rintro o st' ⟨tx,htx,rfl,rfl⟩
   conv=>whnf
   refine ⟨[],false,?_⟩
   conv=>whnf
   exact hend ⟨3,x,0,.mk 0 [] [] [],tx⟩ _ k ⟨noneS_small,by simp [T.size,T.sizeL],by simp only; omega,htx.2,hx0,hx1,by simp,by simp⟩ (by omega) (by omega) (by omega) (by omega)
end Go.Cod
set_option linter.all false
namespace Go.Cod
open Go Go.Proofs Go.ChangeShapes Go.WideShapes Go.ChangeAt Go.RowKit
set_option maxRecDepth 10000
theorem three (a b c m:Int) (h0:0≤m) (h1:m < 3):∃ z:Int,[[V.int .i64 a],[.int .i64 b],[.int .i64 c]][m.toNat]? = some [.int .i64 z]∧(z=a∨z=b∨z=c):=by
 obtain ⟨n,rfl⟩:∃ n:Nat,m=n:=⟨m.toNat,by omega⟩
 have:n < 3:=by omega
 match n,this with
 | 0,_=>exact ⟨_,rfl,.inl rfl⟩
 | 1,_=>exact ⟨_,rfl,.inr (.inl rfl)⟩
 | 2,_=>exact ⟨_,rfl,.inr (.inr rfl)⟩
def SpR (bs:List UInt8) (p:Int) (o:Out) (st':St):Prop:=∃ (s:Stp) (p':Int),s.Dr∧p≤p'∧p'≤p+10∧o=.ret (.agg s.cells)∧st'=[rdO bs p']
set_option maxHeartbeats 8000000 in
theorem l11SpoilStep_full (bs:List UInt8) (hb:bs.length≤2000) (p:Int) (p0:0≤p) (p1:p≤10000000) (s:Stp) (hs:s.Dr) :
  Full Tryd.prog noY 14 [.ptr 0 0 0,.agg s.cells] [rdO bs p] (SpR bs p):=by
 have hp:∀ (q n:Int),0≤q→q≤1073741824→Full Tryd.prog noY 13 [.ptr 0 0 0,.int .i64 n] [rdO bs q] fun o st'=>∃ m:Int,0≤m∧(1≤n→m < n)∧o=.ret (.int .i64 m)∧st'=[rdO bs (q+1)]:=fun q n h0 h1=>pick_full bs q n hb h0 h1
 have ho:∀ (q:Int) (ss:List (List UInt8)),0≤q→q≤1073741824→1≤ss.length→ss.length≤1048576→Full Tryd.prog noY 30 [.ptr 0 0 0,.sl (drows ss)] [rdO bs q] fun o st'=>∃ s∈ss,o=.ret (.str s)∧st'=[rdO bs (q+1)]:=fun q ss h0 h1 h2 h3=>of_full bs q ss hb h0 h1 h2 h3
 have hend:∀ (s:Stp) (p':Int),s.Dr→p≤p'→p'≤p+10→SpR bs p (.ret (.agg s.cells)) [rdO bs p']:=fun s p' h1 h2 h3=>⟨s,p',h1,h2,h3,rfl,rfl⟩
 obtain ⟨kind,sid,at_,node,text⟩:=s
 cases node with
 | mk nid nk nx nks =>
 obtain ⟨d1,d2,d3,d4,d5⟩:=hs
 simp only at d1 d2 d3 d4
 obtain ⟨d5,d6,d7,d8⟩:=d5
 simp only at d5 d6 d7 d8
 show Full Tryd.prog noY _ [.ptr 0 0 0,.agg [.int .i64 kind,.int .i64 sid,.int .i64 at_,.int .i64 nid,.str nk,.str nx,.sl (T.rows nks),.str text]] _ _
 refine full_of_awp good Tryd.func14 rfl (by kernel_rfl) (by decide) ?_
 conv=>whnf
 refine ⟨[0],false,?_⟩
 conv=>whnf
 refine (hp p 6 p0 (by omega)).mono ?_
 rintro o st' ⟨d,e0,e1,rfl,rfl⟩
 conv=>whnf
 by_cases a0:d=0
 · rw [eqB_t a0]
   conv=>whnf
   refine ⟨[0],false,?_⟩
   conv=>whnf
   refine (hp (p+1) 5 (by omega) (by omega)).mono ?_
   rintro o st' ⟨m,m0,m1,rfl,rfl⟩
   conv=>whnf
   refine ⟨[0],false,?_⟩
   conv=>whnf
   refine (hp (p+1+1) 3 (by omega) (by omega)).mono ?_
   rintro o st' ⟨c,c0,c1,rfl,rfl⟩
   obtain ⟨z,hz,hzz⟩:=three 0 5 m c c0 (c1 (by omega))
   conv=>whnf
   refine ⟨c0,_,_,1,rfl,hz,rfl,rfl,?_⟩
   conv=>whnf
   refine AtRow_intro _ hz ?_
   conv=>whnf
   refine ⟨[],false,?_⟩
   conv=>whnf
   exact hend ⟨z,sid,at_,.mk nid nk nx nks,text⟩ _ ⟨d1,d2,d3,d4,d5,d6,d7,d8⟩ (by omega) (by omega)
 rw [eqB_f a0]
 conv=>whnf
 by_cases a1:d=1
 · rw [eqB_t a1]
   conv=>whnf
   refine ⟨[0],false,?_⟩
   conv=>whnf
   refine (hp (p+1) 40 (by omega) (by omega)).mono ?_
   rintro o st' ⟨m,m0,m1,rfl,rfl⟩
   conv=>whnf
   refine ⟨[],false,?_⟩
   conv=>whnf
   have w0:IntKind.i64.wrap (m - 1)=m - 1:=wrap64 (by omega) (by have:=m1 (by omega); omega)
   exact hend ⟨kind,_,at_,.mk nid nk nx nks,text⟩ _ ⟨d1,d2,d3,d4,by show _≤IntKind.i64.wrap (m - 1); rw [w0]; omega,by show IntKind.i64.wrap (m - 1)≤_; rw [w0]; have:=m1 (by omega); omega,d7,d8⟩ (by omega) (by omega)
 rw [eqB_f a1]
 conv=>whnf
 by_cases a2:d=2
 · rw [eqB_t a2]
   conv=>whnf
   refine ⟨[0],false,?_⟩
   conv=>whnf
   refine (hp (p+1) 3 (by omega) (by omega)).mono ?_
   rintro o st' ⟨c,c0,c1,rfl,rfl⟩
   obtain ⟨z,hz,hzz⟩:=three (-1) 9 1 c c0 (c1 (by omega))
   conv=>whnf
   refine ⟨c0,_,_,1,rfl,hz,rfl,rfl,?_⟩
   conv=>whnf
   refine AtRow_intro _ hz ?_
   conv=>whnf
   refine ⟨[],false,?_⟩
   conv=>whnf
   exact hend ⟨kind,sid,z,.mk nid nk nx nks,text⟩ _ ⟨d1,d2,d3,d4,d5,d6,by show _≤z; omega,by show z≤_; omega⟩ (by omega) (by omega)
 rw [eqB_f a2]
 conv=>whnf
 by_cases a3:d=3
 · rw [eqB_t a3]
   conv=>whnf
   refine ⟨[0],false,?_⟩
   conv=>whnf
   refine (ho (p+1) [[120],[34],[65]] (by omega) (by omega) (by simp) (by simp)).mono ?_
   rintro o st' ⟨tx,htx,rfl,rfl⟩
   have hl:tx.length≤1000∧(10:UInt8)∉tx:=by
    simp only [List.mem_cons,List.not_mem_nil,or_false] at htx
    rcases htx with rfl | rfl | rfl <;> decide
   conv=>whnf
   refine ⟨[],false,?_⟩
   conv=>whnf
   exact hend ⟨kind,sid,at_,.mk nid nk nx nks,tx⟩ _ ⟨d1,d2,hl.1,hl.2,d5,d6,d7,d8⟩ (by omega) (by omega)
 rw [eqB_f a3]
 conv=>whnf
 refine ⟨[0],false,?_⟩
 conv=>whnf
 refine (hp (p+1) 5 (by omega) (by omega)).mono ?_
 rintro o st' ⟨m,m0,m1,rfl,rfl⟩
 have w1:IntKind.i64.wrap (1+m)=1+m:=wrap64 (by omega) (by have:=m1 (by omega); omega)
 conv=>whnf
 rw [w1]
 refine ⟨[],false,?_⟩
 conv=>whnf
 exact hend ⟨kind,sid,at_,.mk (1+m) [112,97,114] [] [],text⟩ _ ⟨.mk (by have:=m1 (by omega); omega) (by simp) (by simp) (by simp) (by simp),by simp [T.size,T.sizeL],d3,d4,d5,d6,d7,d8⟩ (by omega) (by omega)
end Go.Cod
set_option linter.all false
namespace Go.Cod
open Go Go.Proofs
set_option maxRecDepth 10000
mutual
def T.hd:T→List (Int × List UInt8 × List UInt8)
 | .mk id kind text kids=>(id,kind,text)::T.hdL kids
def T.hdL:List T→List (Int × List UInt8 × List UInt8)
 | []=>[]
 | t::ts=>t.hd++T.hdL ts
end
end Go.Cod
set_option linter.all false
namespace Go.Cod
open Go Go.Proofs
set_option maxRecDepth 10000
def prows (ls:List Stp):List (List V):=ls.map Stp.cells
theorem prows_len (ls:List Stp):(prows ls).length=ls.length:=by simp [prows]
theorem prows_get (ls:List Stp) (i:Nat) (h:i < ls.length):(prows ls)[i]? = some ls[i].cells:=by simp [prows,h]
end Go.Cod
set_option linter.all false
namespace Go.Cod
open Go Go.Proofs
set_option maxRecDepth 10000
end Go.Cod
set_option linter.all false
namespace Go.Cod
open Go Go.Proofs
set_option maxRecDepth 10000
end Go.Cod
set_option linter.all false
namespace Go.Cod
open Go Go.Proofs
set_option maxRecDepth 10000
end Go.Cod
set_option linter.all false
namespace Go.Cod
open Go Go.Proofs
set_option maxRecDepth 10000
end Go.Cod
set_option linter.all false
namespace Go.Cod
open Go Go.Proofs
set_option maxRecDepth 10000
end Go.Cod
set_option linter.all false
namespace Go.Cod
open Go Go.Proofs
set_option maxRecDepth 10000
end Go.Cod
set_option linter.all false
namespace Go.Cod
open Go Go.Proofs
set_option maxRecDepth 10000
end Go.Cod
set_option linter.all false
namespace Go.Cod
open Go Go.Proofs
set_option maxRecDepth 10000
end Go.Cod
set_option linter.all false
namespace Go.Cod
open Go Go.Proofs
set_option maxRecDepth 10000
end Go.Cod
set_option linter.all false
namespace Go.Cod
open Go Go.Proofs
set_option maxRecDepth 10000
end Go.Cod
set_option linter.all false
namespace Go.Cod
open Go Go.Proofs
set_option maxRecDepth 10000
def T.Even (t:T):Prop:=∀ (x:Int) (s:T) (n:Nat),fT t x=some s→n≤s.kids.length→t.PutOk x n
def EvenL (ts:List T):Prop:=∀ (x:Int) (s:T) (n:Nat),fL ts x=some s→n≤s.kids.length→T.PutOkL x n ts
theorem even_nodup {t:T} (hn:t.ids.Nodup):t.Even:=fun x s n h1 h2=>putOk_found x n t s hn h1 h2
theorem evenL_nodup {ts:List T} (hn:(T.idsL ts).Nodup):EvenL ts:=fun x s n h1 h2=>putOkL_found x n ts s hn h1 h2
theorem even_mk {id:Int} {kind text:List UInt8} {kids:List T} (h:∀ (x:Int) (s:T) (n:Nat),x≠id→fL kids x=some s→n≤s.kids.length→T.PutOkL x n kids):(T.mk id kind text kids).Even:=by
 intro x s n h1 h2
 simp only [fT] at h1
 simp only [T.PutOk]
 by_cases e:id=x
 · rw [if_pos e] at h1 ⊢
   cases h1
   exact h2
 · rw [if_neg e] at h1 ⊢
   exact h x s n (Ne.symm e) h1 h2
theorem fL_append (a b:List T) (x:Int):fL (a++b) x=match fL a x with
  | some s=>some s
  | none=>fL b x:=by
 induction a with
 | nil=>rfl
 | cons t a ih =>
   simp only [List.cons_append,fL,ih]
   cases fT t x <;> rfl
theorem putOkL_append {x:Int} {n:Nat} {a b:List T} (ha:T.PutOkL x n a) (hb:T.PutOkL x n b):T.PutOkL x n (a++b):=by
 induction a with
 | nil=>exact hb
 | cons t a ih=>exact ⟨ha.1,ih ha.2⟩
def Spec (i:Int):Prop:=i < 2∨20≤i
theorem wide_ids:∀ i:Nat,∀ x∈T.idsL (wideN i),600≤x
 | 0,x,h=>by simp [wideN,T.idsL] at h
 | i+1,x,h=>by
   rw [wideN,idsL_snoc] at h
   rcases List.mem_append.1 h with h | h
   · exact wide_ids i x h
   · simp [T.ids,T.idsL] at h; omega
theorem deep_ids (t:T):∀ i:Nat,∀ x∈(deepN t i).ids,x∈t.ids∨500≤x
 | 0,x,h=>.inl h
 | i+1,x,h=>by
   simp only [deepN,T.ids,T.idsL,List.mem_cons,List.append_nil] at h
   rcases h with h | h
   · right; omega
   · exact deep_ids t i x h
theorem spoil_ids {t t':T} (h:SpoilOf t t'):∀ x∈t'.ids,x∈t.ids∨Spec x:=by
 induction h with
 | @kid id kind text kids i hi t' hs ih =>
   intro x hx
   simp only [T.ids,List.mem_cons] at hx ⊢
   rcases hx with hx | hx
   · exact .inl (.inl hx)
   · have:∀ (ks:List T) (j:Nat) (hj:j < ks.length),(∀ y∈t'.ids,y∈ks[j].ids∨Spec y)→∀ y∈T.idsL (ks.set j t'),y∈T.idsL ks∨Spec y:=by
      intro ks
      induction ks with
      | nil=>intro j hj; simp at hj
      | cons k ks ihk =>
        intro j hj hh y hy
        cases j with
        | zero =>
          simp only [List.set_cons_zero,T.idsL,List.mem_append] at hy ⊢
          rcases hy with hy | hy
          · exact (hh y hy).imp .inl _root_.id
          · exact .inl (.inr hy)
        | succ j =>
          simp only [List.set_cons_succ,T.idsL,List.mem_append] at hy ⊢
          rcases hy with hy | hy
          · exact .inl (.inl hy)
          · exact (ihk j (by simpa using hj) hh y hy).imp .inr _root_.id
     exact (this kids i hi ih x hx).imp .inr _root_.id
 | id z hz =>
   intro x hx
   simp only [T.ids,List.mem_cons] at hx ⊢
   rcases hx with rfl | hx
   · right; unfold Spec; omega
   · exact .inl (.inr hx)
 | word k' x'=>exact fun x hx=>.inl hx
 | @twice id kind text kids =>
   intro x hx
   simp only [T.ids,idsL_snoc,List.mem_cons,List.mem_append] at hx ⊢
   rcases hx with hx | hx | hx | hx
   · exact .inl (.inl hx)
   · exact .inl (.inr hx)
   · exact .inl (.inl hx)
   · exact .inl (.inr hx)
 | @deep t =>
   intro x hx
   rcases deep_ids t 6 x hx with h | h
   · exact .inl h
   · right; unfold Spec; omega
 | @wide id kind text kids =>
   intro x hx
   simp only [T.ids,T.idsL_append,List.mem_cons,List.mem_append] at hx ⊢
   rcases hx with hx | hx | hx
   · exact .inl (.inl hx)
   · exact .inl (.inr hx)
   · have:=wide_ids 20 x hx
     right; unfold Spec; omega
theorem wide_put (x:Int):∀ (i:Nat) (n:Nat),n≤0→T.PutOkL x n (wideN i)
 | 0,_,_=>trivial
 | i+1,n,h=>by
   rw [wideN]
   refine putOkL_append (wide_put x i n h) ⟨?_,trivial⟩
   simp only [T.PutOk]
   split
   · omega
   · trivial
theorem wide_kids:∀ (i:Nat) (x:Int) (s:T),fL (wideN i) x=some s→s.kids=[]
 | 0,x,s,h=>by simp [wideN,fL] at h
 | i+1,x,s,h=>by
   rw [wideN,fL_append] at h
   cases h1:fL (wideN i) x with
   | some s' =>
     rw [h1] at h
     cases h
     exact wide_kids i x s h1
   | none =>
     rw [h1] at h
     simp only [fL,fT] at h
     split at h
     · rename_i s' h2
       split at h2
       · cases h2; cases h; rfl
       · cases h2
     · cases h
theorem deep_even (t:T) (ht:t.Even) (hl:∀ x∈t.ids,x < 500):∀ i:Nat,(deepN t i).Even
 | 0=>ht
 | i+1=>by
   refine even_mk fun x s n hne h1 h2=>?_
   simp only [fL] at h1
   have:fT (deepN t i) x=some s:=by
    cases h3:fT (deepN t i) x with
    | some s'=>rw [h3] at h1; exact h1
    | none=>rw [h3] at h1; cases h1
   exact ⟨deep_even t ht hl i x s n this h2,trivial⟩
theorem idsL_get:∀ (l:List T) (i:Nat) (hi:i < l.length),(T.idsL l).Nodup→l[i].ids.Nodup∧∀ y∈l[i].ids,y∈T.idsL l
 | [],i,hi,_=>by simp at hi
 | t::l,0,_,hn=>by
   simp only [T.idsL,List.nodup_append] at hn
   exact ⟨hn.1,fun y hy=>by simp only [T.idsL,List.mem_append]; exact .inl hy⟩
 | t::l,i+1,hi,hn=>by
   simp only [T.idsL,List.nodup_append] at hn
   have:=idsL_get l i (by simpa using hi) hn.2.1
   exact ⟨this.1,fun y hy=>by simp only [T.idsL,List.mem_append]; exact .inr (this.2 y hy)⟩
theorem kids_ids {t:T} {x:Int} (h:x∈T.idsL t.kids):x∈t.ids:=by
 cases t
 simp only [T.ids,List.mem_cons]
 exact .inr h
theorem id_ids (t:T):t.id∈t.ids:=by
 cases t
 simp only [T.ids,List.mem_cons]
 exact .inl rfl
theorem spoil_even {t t':T} (h:SpoilOf t t'):t.ids.Nodup→(∀ x∈T.idsL t.kids,2≤x∧x < 20)→t.id < 500→t'.Even:=by
 induction h with
 | @kid id kind text kids i hi t' hs ih =>
   intro hn hr2 _
   have hids:=spoil_ids hs
   simp only [T.ids,List.nodup_cons] at hn
   have hg:=idsL_get kids i hi hn.2
   have hr3:∀ x∈T.idsL kids,2≤x∧x < 20:=hr2
   have he:=ih hg.1 (fun x h=>hr3 x (hg.2 x (kids_ids h))) (by have:=hr3 _ (hg.2 _ (id_ids kids[i])); omega)
   refine even_mk fun x s n hne=>?_
   have key:∀ (ks:List T) (j:Nat) (hj:j < ks.length),(T.idsL ks).Nodup→(∀ y∈t'.ids,y∈ks[j].ids∨Spec y)→t'.Even→(∀ y∈T.idsL ks,y=x→¬ Spec x∨x∉t'.ids∨y∈ks[j].ids) →
     fL (ks.set j t') x=some s→n≤s.kids.length→T.PutOkL x n (ks.set j t'):=by
    intro ks
    induction ks with
    | nil=>intro j hj; simp at hj
    | cons k ks ihk =>
      intro j hj hkn hh he hs1 h1 h2
      simp only [T.idsL,List.nodup_append] at hkn
      cases j with
      | zero =>
        simp only [List.set_cons_zero,fL] at h1 ⊢
        simp only [List.getElem_cons_zero] at hh hs1
        cases h3:fT t' x with
        | some s' =>
          rw [h3] at h1
          cases h1
          have hx:x∈t'.ids:=Decidable.byContradiction fun hc=>by rw [(fT_none t' x).2 hc] at h3; cases h3
          refine ⟨he x s n h3 h2,putOkL_none x n ks fun hks=>?_⟩
          rcases hh x hx with h | h
          · exact hkn.2.2 x h x hks rfl
          · rcases hs1 x (by simp [T.idsL,hks]) rfl with h4 | h4 | h4
            · exact h4 h
            · exact h4 hx
            · exact hkn.2.2 x h4 x hks rfl
        | none =>
          rw [h3] at h1
          exact ⟨putOk_none x n t' ((fT_none t' x).1 h3),evenL_nodup hkn.2.1 x s n h1 h2⟩
      | succ j =>
        simp only [List.set_cons_succ,fL] at h1 ⊢
        simp only [List.getElem_cons_succ] at hh hs1
        have hj':j < ks.length:=by simpa using hj
        have hkj:∀ y∈ks[j].ids,y∈T.idsL ks:=by
         intro y hy
         have:∀ (l:List T) (i:Nat) (hi:i < l.length),y∈l[i].ids→y∈T.idsL l:=by
          intro l
          induction l with
          | nil=>intro i hi; simp at hi
          | cons a l ihl =>
            intro i hi h
            simp only [T.idsL,List.mem_append]
            cases i with
            | zero=>exact .inl h
            | succ i=>exact .inr (ihl i (by simpa using hi) h)
         exact this ks j hj' hy
        cases h3:fT k x with
        | some s' =>
          rw [h3] at h1
          cases h1
          have hx:x∈k.ids:=Decidable.byContradiction fun hc=>by rw [(fT_none k x).2 hc] at h3; cases h3
          refine ⟨putOk_found x n k s hkn.1 h3 h2,putOkL_none x n _ fun hks=>?_⟩
          have hxk:x∉T.idsL ks:=fun h=>hkn.2.2 x hx x h rfl
          have hmem:x∈t'.ids∨x∈T.idsL ks:=by
           have:∀ (l:List T) (i:Nat),x∈T.idsL (l.set i t')→x∈t'.ids∨x∈T.idsL l:=by
            intro l
            induction l with
            | nil=>intro i h; simp [T.idsL] at h
            | cons a l ihl =>
              intro i h
              cases i with
              | zero =>
                simp only [List.set_cons_zero,T.idsL,List.mem_append] at h ⊢
                exact h.imp _root_.id .inr
              | succ i =>
                simp only [List.set_cons_succ,T.idsL,List.mem_append] at h ⊢
                rcases h with h | h
                · exact .inr (.inl h)
                · exact (ihl i h).imp _root_.id .inr
           exact this ks j hks
          rcases hmem with h | h
          · rcases hs1 x (by simp [T.idsL,hx]) rfl with h4 | h4 | h4
            · rcases hh x h with h5 | h5
              · exact hxk (hkj x h5)
              · exact h4 h5
            · exact h4 h
            · exact hxk (hkj x h4)
          · exact hxk h
        | none =>
          rw [h3] at h1
          exact ⟨putOk_none x n k ((fT_none k x).1 h3),ihk j hj' hkn.2.1 hh he (fun y hy=>hs1 y (by simp [T.idsL,hy])) h1 h2⟩
   exact fun h1 h2=>key kids i hi hn.2 hids he (fun y hy e=>.inl (by subst e; unfold Spec; have:=hr3 y hy; omega)) h1 h2
 | @id id kind text kids z hz =>
   intro hn _ _
   simp only [T.ids,List.nodup_cons] at hn
   exact even_mk fun x s n _ h1 h2=>evenL_nodup hn.2 x s n h1 h2
 | @word id kind text kids k' x' =>
   intro hn _ _
   simp only [T.ids,List.nodup_cons] at hn
   exact even_mk fun x s n _ h1 h2=>evenL_nodup hn.2 x s n h1 h2
 | @twice id kind text kids =>
   intro hn _ _
   simp only [T.ids,List.nodup_cons] at hn
   refine even_mk fun x s n hne h1 h2=>?_
   rw [fL_append] at h1
   cases h3:fL kids x with
   | some s' =>
     rw [h3] at h1
     cases h1
     have:=evenL_nodup hn.2 x s n h3 h2
     refine putOkL_append this ⟨?_,trivial⟩
     simp only [T.PutOk]
     rw [if_neg (Ne.symm hne)]
     exact this
   | none =>
     rw [h3] at h1
     have hx:=(fL_none kids x).1 h3
     simp only [fL,fT,if_neg (Ne.symm hne),h3] at h1
     cases h1
 | @deep t =>
   intro hn hr h5
   refine deep_even t (even_nodup hn) (fun x h=>?_) 6
   cases t with
   | mk id kind text kids =>
   simp only [T.ids,List.mem_cons] at h
   rcases h with rfl | h
   · exact h5
   · have:=hr x h; omega
 | @wide id kind text kids =>
   intro hn hr _
   simp only [T.ids,List.nodup_cons] at hn
   refine even_mk fun x s n hne h1 h2=>?_
   rw [fL_append] at h1
   cases h3:fL kids x with
   | some s' =>
     rw [h3] at h1
     cases h1
     have hx:x∈T.idsL kids:=Decidable.byContradiction fun hc=>by rw [(fL_none kids x).2 hc] at h3; cases h3
     refine putOkL_append (evenL_nodup hn.2 x s n h3 h2) (putOkL_none x n _ fun h=>?_)
     have:=wide_ids 20 x h
     have:=hr x hx
     omega
   | none =>
     rw [h3] at h1
     have h4:=wide_kids 20 x s h1
     rw [h4] at h2
     exact putOkL_append (putOkL_none x n kids ((fL_none kids x).1 h3)) (wide_put x 20 n h2)
theorem drawn_even {t:T} (h:Drawn t):t.Even:=by
 obtain ⟨t0,h1,h2,h3,_,rfl | h4⟩:=h
 · exact even_nodup h1
 · refine spoil_even h4 h1 (fun x hx=>?_) (by omega)
   have h5:=h2 x (kids_ids hx)
   have:x≠1:=fun e=>by
    cases t0 with
    | mk id kind text kids =>
    simp only [T.ids,List.nodup_cons] at h1
    have h3:id=1:=h3
    exact h1.1 (by rw [h3,← e]; exact hx)
   omega
theorem nodup_len:∀ (n:Nat) (l:List Int) (lo:Int),l.Nodup→(∀ i∈l,lo≤i∧i < lo+n)→l.length≤n
 | 0,l,lo,_,h=>by
   cases l with
   | nil=>simp
   | cons a l=>have:=h a (List.mem_cons_self ..); omega
 | n+1,l,lo,hn,h=>by
   have:=nodup_len n (l.erase (lo+n)) lo (hn.erase _) fun i hi=>by
    obtain ⟨h1,h2⟩:=hn.mem_erase_iff.1 hi
    have:=h i h2
    omega
   rw [List.length_erase] at this
   split at this <;> omega
theorem drawn_size {t:T} (h:Drawn t):t.size≤60:=by
 obtain ⟨t0,h1,h2,h3,h4,_⟩:=h
 have:=nodup_len 19 t0.ids 1 h1 fun i hi=>by have:=h2 i hi; omega
 rw [T.ids_size] at this
 omega
end Go.Cod
