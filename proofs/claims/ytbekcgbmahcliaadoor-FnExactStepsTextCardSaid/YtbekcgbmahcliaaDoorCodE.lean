import Derived.Test.YtbekcgbmahcliaaDoorChecked
import Derived.Test.YtbekcgbmahcliaaDoorRows
import Derived.WalkKit
import Derived.ProofKit
import Derived.OpenShut
import Derived.JoinedOf
import Derived.Handed
import Derived.Shelf.Strings.BuilderK
import Derived.BigCall
import Derived.Shelf.Strconv.Itoa3
import Derived.Room.Shelf.Join48
import Derived.Lib.ItoaLen
import Derived.Lib.Hide
import Derived.Test.YtbekcgbmahcliaaDoorCards
import Derived.Test.YtbekcgbmahcliaaDoorTie
import Derived.LaidMore
import Derived.LaidOnce
import Derived.SevenTiedAt
import Derived.Test.YtbekcgbmahcliaaDoorCodD
set_option linter.all false
namespace Go.Cod
open Go Go.Proofs
instance lam0:Lam:=⟨fun g=>match g with
 | 0=>some (tabCells .u64 [1,10,100,1000,10000,100000,1000000,10000000,100000000,1000000000,10000000000,100000000000,1000000000000,10000000000000,100000000000000,1000000000000000,10000000000000000,100000000000000000,1000000000000000000,10000000000000000000])
 | _=>none,fun g=>false,fun g=>false,fun g=>false,fun g=>false⟩
def tauL:List (Nat × TI):=[
 (1,⟨.other,1,8,.raw .nilFunc,[],[],false⟩),
 (2,⟨.int .i64,1,8,.int .i64 0,[],[],false⟩),
 (3,⟨.int .i64,1,8,.int .i64 0,[],[],false⟩),
 (4,⟨.bool,1,1,.bool false,[],[],false⟩),
 (5,⟨.int .u8,1,1,.int .u8 0,[],[],false⟩),
 (6,⟨.int .u8,1,1,.int .u8 0,[],[],false⟩),
 (7,⟨.agg,4,24,.agg [.int .i64 0,.int .i64 0,.bool false,.int .u8 0],[(0,1,false),(1,1,false),(2,1,false),(3,1,false)],[],false⟩),
 (8,⟨.agg,4,24,.agg [.int .i64 0,.int .i64 0,.bool false,.int .u8 0],[(0,1,false),(1,1,false),(2,1,false),(3,1,false)],[],false⟩),
 (9,⟨.str,1,16,.str [],[],[],false⟩),
 (10,⟨.str,1,16,.str [],[],[],false⟩),
 (11,⟨.str,1,16,.str [],[],[],false⟩),
 (12,⟨.int .u64,1,8,.int .u64 0,[],[],false⟩),
 (13,⟨.agg,2,24,.agg [.str [],.int .u64 0],[(0,1,false),(1,1,false)],[],false⟩),
 (14,⟨.agg,2,24,.agg [.str [],.int .u64 0],[(0,1,false),(1,1,false)],[],false⟩),
 (15,⟨.ptr,1,8,.raw (.pointer none),[],[],false⟩),
 (16,⟨.ptr,1,8,.raw (.pointer none),[],[],false⟩),
 (17,⟨.ptr,1,8,.raw (.pointer none),[],[],false⟩),
 (18,⟨.agg,1,8,.agg [.raw (.pointer none)],[(0,1,false)],[],false⟩),
 (19,⟨.agg,1,8,.agg [.raw (.pointer none)],[(0,1,false)],[],false⟩),
 (20,⟨.iface,1,16,.raw .nilIface,[],[],false⟩),
 (21,⟨.int .i32,1,4,.int .i32 0,[],[],false⟩),
 (22,⟨.slice 5,1,24,.nils,[],[],false⟩),
 (23,⟨.slice 30,1,24,.nils,[],[],false⟩),
 (24,⟨.other,1,8,.raw .nilFunc,[],[],false⟩),
 (25,⟨.other,1,8,.raw .nilFunc,[],[],false⟩),
 (26,⟨.slice 28,1,24,.nils,[],[],false⟩),
 (27,⟨.agg,4,64,.agg [.int .i64 0,.str [],.str [],.nils],[(0,1,false),(1,1,false),(2,1,false),(3,1,false)],[],false⟩),
 (28,⟨.agg,4,64,.agg [.int .i64 0,.str [],.str [],.nils],[(0,1,false),(1,1,false),(2,1,false),(3,1,false)],[],false⟩),
 (29,⟨.agg,8,104,.agg [.int .i64 0,.int .i64 0,.int .i64 0,.int .i64 0,.str [],.str [],.nils,.str []],[(0,1,false),(1,1,false),(2,1,false),(3,4,true),(7,1,false)],[],false⟩),
 (30,⟨.agg,8,104,.agg [.int .i64 0,.int .i64 0,.int .i64 0,.int .i64 0,.str [],.str [],.nils,.str []],[(0,1,false),(1,1,false),(2,1,false),(3,4,true),(7,1,false)],[],false⟩),
 (31,⟨.other,1,8,.raw .nilFunc,[],[],false⟩),
 (32,⟨.slice 67,1,24,.nils,[],[],false⟩),
 (33,⟨.other,1,8,.raw .nilFunc,[],[],false⟩),
 (34,⟨.other,1,8,.raw .nilFunc,[],[],false⟩),
 (35,⟨.other,1,8,.raw .nilFunc,[],[],false⟩),
 (36,⟨.other,1,8,.raw .nilFunc,[],[],false⟩),
 (37, ⟨.ptr, 1, 8, .raw (.pointer none), [], [("loop.example/codicil/spec.of", 30), ("loop.example/codicil/spec.pick", 13)], false⟩),
 (38,⟨.other,1,8,.raw .nilFunc,[],[],false⟩),
 (40,⟨.other,1,8,.raw .nilFunc,[],[],false⟩),
 (41,⟨.other,1,8,.raw .nilFunc,[],[],false⟩),
 (42,⟨.other,1,8,.raw .nilFunc,[],[],false⟩),
 (43,⟨.ptr,1,8,.raw (.pointer none),[],[],false⟩),
 (44,⟨.agg,2,32,.agg [.raw (.pointer none),.nils],[(0,1,false),(1,1,false)],[],false⟩),
 (45,⟨.agg,2,32,.agg [.raw (.pointer none),.nils],[(0,1,false),(1,1,false)],[],false⟩),
 (46,⟨.iface,1,16,.raw .nilIface,[],[],false⟩),
 (47,⟨.iface,1,16,.raw .nilIface,[],[],false⟩),
 (49,⟨.other,1,8,.raw .nilFunc,[],[],false⟩),
 (50,⟨.iface,1,16,.raw .nilIface,[],[],false⟩),
 (51,⟨.iface,1,16,.raw .nilIface,[],[],false⟩),
 (53,⟨.other,1,8,.raw .nilFunc,[],[],false⟩),
 (54,⟨.other,1,8,.raw .nilFunc,[],[],false⟩),
 (55,⟨.other,1,8,.raw .nilFunc,[],[],false⟩),
 (56,⟨.other,1,8,.raw .nilFunc,[],[],false⟩),
 (57,⟨.other,1,8,.raw .nilFunc,[],[],false⟩),
 (58,⟨.other,1,8,.raw .nilFunc,[],[],false⟩),
 (59,⟨.slice 9,1,24,.nils,[],[],false⟩),
 (60,⟨.other,1,8,.raw .nilFunc,[],[],false⟩),
 (61,⟨.other,1,8,.raw .nilFunc,[],[],false⟩),
 (62,⟨.other,1,8,.raw .nilFunc,[],[],false⟩),
 (63,⟨.slice 65,1,24,.nils,[],[],false⟩),
 (64,⟨.agg,4,64,.agg [.int .i64 0,.str [],.str [],.nils],[(0,1,false),(1,1,false),(2,1,false),(3,1,false)],[],false⟩),
 (65,⟨.agg,4,64,.agg [.int .i64 0,.str [],.str [],.nils],[(0,1,false),(1,1,false),(2,1,false),(3,1,false)],[],false⟩),
 (66,⟨.agg,8,104,.agg [.int .i64 0,.int .i64 0,.int .i64 0,.int .i64 0,.str [],.str [],.nils,.str []],[(0,1,false),(1,1,false),(2,1,false),(3,4,true),(7,1,false)],[],false⟩),
 (67,⟨.agg,8,104,.agg [.int .i64 0,.int .i64 0,.int .i64 0,.int .i64 0,.str [],.str [],.nils,.str []],[(0,1,false),(1,1,false),(2,1,false),(3,4,true),(7,1,false)],[],false⟩),
 (68,⟨.other,1,8,.raw .nilFunc,[],[],false⟩),
 (69,⟨.other,1,8,.raw .nilFunc,[],[],false⟩),
 (70,⟨.agg,2,32,.agg [.nils,.int .i64 0],[(0,1,false),(1,1,false)],[],false⟩),
 (71,⟨.agg,2,32,.agg [.nils,.int .i64 0],[(0,1,false),(1,1,false)],[],false⟩),
 (72,⟨.other,1,8,.raw .nilFunc,[],[],false⟩),
 (73,⟨.other,1,8,.raw .nilFunc,[],[],false⟩),
 (74,⟨.ptr,1,8,.raw (.pointer none),[],[],false⟩),
 (76,⟨.other,1,8,.raw .nilFunc,[],[],false⟩),
 (77,⟨.slice 3,1,24,.nils,[],[],false⟩),
 (78,⟨.other,1,8,.raw .nilFunc,[],[],false⟩),
 (79,⟨.agg,6,80,.agg [.int .i64 0,.int .i64 0,.int .i64 0,.str [],.str [],.nils],[(0,1,false),(1,1,false),(2,4,true)],[],false⟩),
 (80, ⟨.agg, 6, 80, .agg [.int .i64 0, .int .i64 0, .int .i64 0, .str [], .str [], .nils], [(0, 1, false), (1, 1, false), (2, 4, true)], [("loop.example/codicil/impl.do", 100), ("loop.example/codicil/impl.undo", 101)], false⟩),
 (81,⟨.agg,1,8,.agg [.int .i64 0],[(0,1,false)],[],false⟩),
 (82, ⟨.agg, 1, 8, .agg [.int .i64 0], [(0, 1, false)], [("loop.example/codicil/impl.do", 102), ("loop.example/codicil/impl.undo", 103)], false⟩),
 (83,⟨.agg,2,24,.agg [.int .i64 0,.str []],[(0,1,false),(1,1,false)],[],false⟩),
 (84, ⟨.agg, 2, 24, .agg [.int .i64 0, .str []], [(0, 1, false), (1, 1, false)], [("loop.example/codicil/impl.do", 104), ("loop.example/codicil/impl.undo", 105)], false⟩),
 (85,⟨.agg,2,24,.agg [.int .i64 0,.str []],[(0,1,false),(1,1,false)],[],false⟩),
 (86, ⟨.agg, 2, 24, .agg [.int .i64 0, .str []], [(0, 1, false), (1, 1, false)], [("loop.example/codicil/impl.do", 106), ("loop.example/codicil/impl.undo", 107)], false⟩),
 (87,⟨.ptr,1,8,.raw (.pointer none),[],[],false⟩),
 (88,⟨.other,1,8,.raw .nilFunc,[],[],false⟩),
 (89,⟨.other,1,8,.raw .nilFunc,[],[],false⟩),
 (90,⟨.other,1,8,.raw .nilFunc,[],[],false⟩),
 (91,⟨.other,1,8,.raw .nilFunc,[],[],false⟩),
 (92,⟨.other,1,8,.raw .nilFunc,[],[],false⟩),
 (93,⟨.other,1,8,.raw .nilFunc,[],[],false⟩),
 (94,⟨.other,1,8,.raw .nilFunc,[],[],false⟩),
 (95,⟨.other,1,8,.raw .nilFunc,[],[],false⟩),
 (96,⟨.other,1,8,.raw .nilFunc,[],[],false⟩),
 (97,⟨.other,1,8,.raw .nilFunc,[],[],false⟩),
 (98,⟨.other,1,8,.raw .nilFunc,[],[],false⟩),
 (99,⟨.other,1,8,.raw .nilFunc,[],[],false⟩),
 (100,⟨.other,1,8,.raw .nilFunc,[],[],false⟩),
 (101,⟨.other,1,8,.raw .nilFunc,[],[],false⟩),
 (102,⟨.map 3 4,1,8,.raw (.map none),[],[],false⟩),
 (103,⟨.other,1,8,.raw .nilFunc,[],[],false⟩),
 (104,⟨.other,1,8,.raw .nilFunc,[],[],false⟩),
 (105,⟨.other,1,8,.raw .nilFunc,[],[],false⟩),
 (106,⟨.agg,6,80,.agg [.int .i64 0,.str [],.str [],.nils,.int .i64 0,.int .i64 0],[(0,4,true),(4,1,false),(5,1,false)],[],false⟩),
 (107,⟨.agg,6,80,.agg [.int .i64 0,.str [],.str [],.nils,.int .i64 0,.int .i64 0],[(0,4,true),(4,1,false),(5,1,false)],[],false⟩),
 (109,⟨.other,1,8,.raw .nilFunc,[],[],false⟩),
 (110,⟨.iface,1,16,.raw .nilIface,[],[],false⟩),
 (111,⟨.iface,1,16,.raw .nilIface,[],[],false⟩),
 (112,⟨.other,1,8,.raw .nilFunc,[],[],false⟩),
 (113,⟨.other,1,8,.raw .nilFunc,[],[],false⟩),
 (114,⟨.other,1,8,.raw .nilFunc,[],[],false⟩),
 (115,⟨.other,1,8,.raw .nilFunc,[],[],false⟩),
 (116,⟨.other,1,8,.raw .nilFunc,[],[],false⟩),
 (117,⟨.other,1,8,.raw .nilFunc,[],[],false⟩),
 (118,⟨.other,1,8,.raw .nilFunc,[],[],false⟩),
 (119,⟨.other,1,8,.raw .nilFunc,[],[],false⟩),
 (120,⟨.slice 126,1,24,.nils,[],[],false⟩),
 (121,⟨.agg,2,40,.agg [.str [],.nils],[(0,1,false),(1,1,false)],[],false⟩),
 (122,⟨.agg,2,40,.agg [.str [],.nils],[(0,1,false),(1,1,false)],[],false⟩),
 (123,⟨.other,1,8,.raw .nilFunc,[],[],false⟩),
 (124,⟨.slice 129,1,24,.nils,[],[],false⟩),
 (125,⟨.agg,3,48,.agg [.str [],.bool false,.nils],[(0,1,false),(1,1,false),(2,1,false)],[],false⟩),
 (126,⟨.agg,3,48,.agg [.str [],.bool false,.nils],[(0,1,false),(1,1,false),(2,1,false)],[],false⟩),
 (127,⟨.other,1,8,.raw .nilFunc,[],[],false⟩),
 (128,⟨.agg,3,24,.agg [.str [],.bool false,.bool false],[(0,1,false),(1,1,false),(2,1,false)],[],false⟩),
 (129,⟨.agg,3,24,.agg [.str [],.bool false,.bool false],[(0,1,false),(1,1,false),(2,1,false)],[],false⟩),
 (130,⟨.other,1,8,.raw .nilFunc,[],[],false⟩),
 (131,⟨.other,1,8,.raw .nilFunc,[],[],false⟩),
 (132,⟨.other,1,8,.raw .nilFunc,[],[],false⟩),
 (133,⟨.other,1,8,.raw .nilFunc,[],[],false⟩),
 (134,⟨.other,1,8,.raw .nilFunc,[],[],false⟩),
 (135,⟨.agg,3,40,.agg [.str [],.int .i64 0,.str []],[(0,1,false),(1,1,false),(2,1,false)],[],false⟩),
 (136, ⟨.agg, 3, 40, .agg [.str [], .int .i64 0, .str []], [(0, 1, false), (1, 1, false), (2, 1, false)], [("loop.example/codicil/impl.written", 108)], false⟩),
 (137,⟨.agg,4,64,.agg [.str [],.int .i64 0,.str [],.nils],[(0,3,true),(3,1,false)],[],false⟩),
 (138, ⟨.agg, 4, 64, .agg [.str [], .int .i64 0, .str [], .nils], [(0, 3, true), (3, 1, false)], [("loop.example/codicil/impl.written", 109)], false⟩),
 (139,⟨.agg,24,24,.agg [.int .u8 0,.int .u8 0,.int .u8 0,.int .u8 0,.int .u8 0,.int .u8 0,.int .u8 0,.int .u8 0,.int .u8 0,.int .u8 0,.int .u8 0,.int .u8 0,.int .u8 0,.int .u8 0,.int .u8 0,.int .u8 0,.int .u8 0,.int .u8 0,.int .u8 0,.int .u8 0,.int .u8 0,.int .u8 0,.int .u8 0,.int .u8 0],[],[],false⟩),
 (140,⟨.int .u64,1,8,.int .u64 0,[],[],false⟩),
 (141,⟨.other,1,8,.raw .nilFunc,[],[],false⟩),
 (142,⟨.other,1,8,.raw .nilFunc,[],[],false⟩),
 (144,⟨.other,1,8,.raw .nilFunc,[],[],false⟩),
 (145,⟨.other,1,8,.raw .nilFunc,[],[],false⟩),
 (146,⟨.agg,20,160,.agg [.int .u64 0,.int .u64 0,.int .u64 0,.int .u64 0,.int .u64 0,.int .u64 0,.int .u64 0,.int .u64 0,.int .u64 0,.int .u64 0,.int .u64 0,.int .u64 0,.int .u64 0,.int .u64 0,.int .u64 0,.int .u64 0,.int .u64 0,.int .u64 0,.int .u64 0,.int .u64 0],[],[],false⟩),
 (147,⟨.int .u32,1,4,.int .u32 0,[],[],false⟩),
 (148,⟨.agg,65,65,.agg [.int .u8 0,.int .u8 0,.int .u8 0,.int .u8 0,.int .u8 0,.int .u8 0,.int .u8 0,.int .u8 0,.int .u8 0,.int .u8 0,.int .u8 0,.int .u8 0,.int .u8 0,.int .u8 0,.int .u8 0,.int .u8 0,.int .u8 0,.int .u8 0,.int .u8 0,.int .u8 0,.int .u8 0,.int .u8 0,.int .u8 0,.int .u8 0,.int .u8 0,.int .u8 0,.int .u8 0,.int .u8 0,.int .u8 0,.int .u8 0,.int .u8 0,.int .u8 0,.int .u8 0,.int .u8 0,.int .u8 0,.int .u8 0,.int .u8 0,.int .u8 0,.int .u8 0,.int .u8 0,.int .u8 0,.int .u8 0,.int .u8 0,.int .u8 0,.int .u8 0,.int .u8 0,.int .u8 0,.int .u8 0,.int .u8 0,.int .u8 0,.int .u8 0,.int .u8 0,.int .u8 0,.int .u8 0,.int .u8 0,.int .u8 0,.int .u8 0,.int .u8 0,.int .u8 0,.int .u8 0,.int .u8 0,.int .u8 0,.int .u8 0,.int .u8 0,.int .u8 0],[],[],false⟩),
 (149,⟨.other,1,8,.raw .nilFunc,[],[],false⟩),
 (150,⟨.int .u64,1,8,.int .u64 0,[],[],false⟩),
 (151,⟨.other,1,8,.raw .nilFunc,[],[],false⟩),
 (152,⟨.other,1,8,.raw .nilFunc,[],[],false⟩),
 (153,⟨.agg,32,32,.agg [.int .u8 0,.int .u8 0,.int .u8 0,.int .u8 0,.int .u8 0,.int .u8 0,.int .u8 0,.int .u8 0,.int .u8 0,.int .u8 0,.int .u8 0,.int .u8 0,.int .u8 0,.int .u8 0,.int .u8 0,.int .u8 0,.int .u8 0,.int .u8 0,.int .u8 0,.int .u8 0,.int .u8 0,.int .u8 0,.int .u8 0,.int .u8 0,.int .u8 0,.int .u8 0,.int .u8 0,.int .u8 0,.int .u8 0,.int .u8 0,.int .u8 0,.int .u8 0],[],[],false⟩),
 (154,⟨.agg,64,64,.agg [.int .u8 0,.int .u8 0,.int .u8 0,.int .u8 0,.int .u8 0,.int .u8 0,.int .u8 0,.int .u8 0,.int .u8 0,.int .u8 0,.int .u8 0,.int .u8 0,.int .u8 0,.int .u8 0,.int .u8 0,.int .u8 0,.int .u8 0,.int .u8 0,.int .u8 0,.int .u8 0,.int .u8 0,.int .u8 0,.int .u8 0,.int .u8 0,.int .u8 0,.int .u8 0,.int .u8 0,.int .u8 0,.int .u8 0,.int .u8 0,.int .u8 0,.int .u8 0,.int .u8 0,.int .u8 0,.int .u8 0,.int .u8 0,.int .u8 0,.int .u8 0,.int .u8 0,.int .u8 0,.int .u8 0,.int .u8 0,.int .u8 0,.int .u8 0,.int .u8 0,.int .u8 0,.int .u8 0,.int .u8 0,.int .u8 0,.int .u8 0,.int .u8 0,.int .u8 0,.int .u8 0,.int .u8 0,.int .u8 0,.int .u8 0,.int .u8 0,.int .u8 0,.int .u8 0,.int .u8 0,.int .u8 0,.int .u8 0,.int .u8 0,.int .u8 0],[],[],false⟩),
 (155,⟨.agg,4,40,.agg [.raw (.pointer none),.raw (.pointer none),.raw (.pointer none),.str []],[(0,1,false),(1,1,false),(2,1,false),(3,1,false)],[],false⟩),
 (156,⟨.agg,4,40,.agg [.raw (.pointer none),.raw (.pointer none),.raw (.pointer none),.str []],[(0,1,false),(1,1,false),(2,1,false),(3,1,false)],[],false⟩),
 (160,⟨.other,1,8,.raw .nilFunc,[],[],false⟩),
 (161,⟨.int .u8,1,1,.int .u8 0,[],[],false⟩),
 (162,⟨.int .u8,1,1,.int .u8 0,[],[],false⟩),
 (163,⟨.other,1,8,.raw .nilFunc,[],[],false⟩),
 (164,⟨.int .i32,1,4,.int .i32 0,[],[],false⟩),
 (165,⟨.int .i32,1,4,.int .i32 0,[],[],false⟩),
 (166,⟨.agg,11,48,.agg [.int .u64 0,.int .u64 0,.int .u32 0,.int .u8 0,.int .u8 0,.int .u8 0,.int .u8 0,.raw .nilFunc,.raw (.pointer none),.int .i32 0,.int .i32 0],[(0,1,false),(1,1,false),(2,1,false),(3,1,false),(4,1,false),(5,1,false),(6,1,false),(7,1,false),(8,1,false),(9,1,false),(10,1,false)],[],false⟩),
 (167,⟨.agg,11,48,.agg [.int .u64 0,.int .u64 0,.int .u32 0,.int .u8 0,.int .u8 0,.int .u8 0,.int .u8 0,.raw .nilFunc,.raw (.pointer none),.int .i32 0,.int .i32 0],[(0,1,false),(1,1,false),(2,1,false),(3,1,false),(4,1,false),(5,1,false),(6,1,false),(7,1,false),(8,1,false),(9,1,false),(10,1,false)],[],false⟩),
 (168,⟨.other,1,8,.raw .nilFunc,[],[],false⟩),
 (169,⟨.other,1,8,.raw .nilFunc,[],[],false⟩),
 (170,⟨.other,1,8,.raw .nilFunc,[],[],false⟩),
 (171,⟨.other,1,8,.raw .nilFunc,[],[],false⟩),
 (172,⟨.other,1,8,.raw .nilFunc,[],[],false⟩),
 (173,⟨.ptr,1,8,.raw (.pointer none),[],[],false⟩)]
set_option maxRecDepth 100000 in
theorem good:TauGood Tryd.prog (tauOf tauL):=tauGood (by kernel_rfl) (by kernel_rfl) (by decide)
end Go.Cod
set_option linter.all false
namespace Go.Cod
open Go Go.Proofs
set_option maxRecDepth 10000
theorem l1In_pure (a b c:Int):Pure Tryd.prog 20 [.int .i64 a,.int .i64 b,.int .i64 c] (·=.bool (decide (b≤a∧a≤c))):=by
 refine pure_of_awp good Tryd.func20 rfl (by kernel_rfl) (by decide) ?_
 conv=>whnf
 by_cases h1:b≤a
 · rw [leB_t h1]
   conv=>whnf
   simp [h1,leB_def]
 · rw [leB_f (by omega)]
   conv=>whnf
   simp [h1]
def lowerB (c:UInt8):Bool:=decide (97≤c.toNat∧c.toNat≤122)
def lower (s:List UInt8):Bool:=s.all lowerB
def nameL (s:List UInt8):Bool:=lower s&&decide (1≤(s.length:Int)∧(s.length:Int)≤8)
theorem take_all {p:UInt8→Bool} {s:List UInt8} {i:Nat} (h:i < s.length):(s.take (i+1)).all p=((s.take i).all p&&p s[i]):=by
 rw [List.take_succ_eq_append_getElem h,List.all_append]; simp
theorem l2Name_pure (s:List UInt8) (hs:s.length≤9223372036854775806):Pure Tryd.prog 55 [.str s] (·=.bool (nameL s)):=by
 refine pure_of_awp good Tryd.func55 rfl (by kernel_rfl) (by decide) ?_
 conv=>whnf
 refine loop_intro (fun n fr st=>st=[]∧∃ i:Nat,n+i=s.length∧lower (s.take i)=true∧Holds fr [(0,.str s),(3,.int .i64 i)]) s.length ⟨rfl,0,rfl,rfl,rfl,rfl,trivial⟩ ?_
 rintro n fr st ⟨rfl,i,hi,hlow,hh⟩
 obtain ⟨fr,rfl⟩:=hh.split
 clear hh
 conv=>whnf
 by_cases hlt:i < s.length
 · rw [ltB_t (by omega)]
   have hstep:=take_all (p:=lowerB) hlt
   conv=>whnf
   refine ⟨by omega,s[i],by simp [hlt],?_⟩
   conv=>whnf
   by_cases h1:(97:Int)≤(s[i].toNat:Int)
   · rw [ltB_f (by omega)]
     conv=>whnf
     refine ⟨by omega,s[i],by simp [hlt],?_⟩
     conv=>whnf
     by_cases h2:(s[i].toNat:Int)≤122
     · rw [ltB_f (by omega)]
       conv=>whnf
       refine ⟨n - 1,by omega,rfl,i+1,by omega,?_,?_⟩
       · unfold lower at *; rw [hstep,hlow]; simp [lowerB]; omega
       · refine ⟨rfl,?_,trivial⟩
         show V.int .i64 (IntKind.i64.wrap (i+1))=_
         rw [wrap64 (by omega) (by omega)]; simp
     · rw [ltB_t (by omega)]
       conv=>whnf
       have hf:lower s=false:=by
        unfold lower
        rw [List.all_eq_false]
        exact ⟨s[i],List.getElem_mem _,by simp only [lowerB,decide_eq_true_eq]; omega⟩
       simp only [nameL,hf,Bool.false_and]
   · rw [ltB_t (by omega)]
     conv=>whnf
     have hf:lower s=false:=by
      unfold lower
      rw [List.all_eq_false]
      exact ⟨s[i],List.getElem_mem _,by simp only [lowerB,decide_eq_true_eq]; omega⟩
     simp only [nameL,hf,Bool.false_and]
 · rw [ltB_f (by omega)]
   conv=>whnf
   refine .inl ((l1In_pure _ _ _).mono ?_)
   rintro r rfl
   conv=>whnf
   have:s.take i=s:=List.take_of_length_le (by omega)
   rw [this] at hlow
   simp [nameL,hlow]
end Go.Cod
set_option linter.all false
namespace Go.Cod
open Go Go.Proofs Go.ChangeShapes Go.WideShapes Go.ChangeAt Go.RowKit
set_option maxRecDepth 10000
inductive T where
 | mk (id:Int) (kind text:List UInt8) (kids:List T)
mutual
def T.cells:T→List V
 | .mk id kind text kids=>[.int .i64 id,.str kind,.str text,.sl (T.rows kids)]
def T.rows:List T→List (List V)
 | []=>[]
 | t::ts=>t.cells::T.rows ts
end
theorem T.rows_eq (ts:List T):T.rows ts=ts.map T.cells:=by
 induction ts with
 | nil=>rfl
 | cons t ts ih=>simp [T.rows,ih]
inductive T.Ok:T→Prop
 | mk {id kind text kids} (h1:-9223372036854775808≤id∧id≤9223372036854775807) (h2:kind.length≤maxLen) (h3:text.length≤maxLen) (h4:kids.length≤maxLen) (h5:∀ t∈kids,T.Ok t):T.Ok (.mk id kind text kids)
theorem map_of_forall {α β:Type} {f:α→β} {p:α→Prop}:∀ {es:List β},(∀ e∈es,∃ a,e=f a∧p a)→∃ xs:List α,es=xs.map f∧∀ a∈xs,p a
 | [],_=>⟨[],rfl,by simp⟩
 | e::es,h=>by
   obtain ⟨a,rfl,hp⟩:=h e (by simp)
   obtain ⟨xs,rfl,hq⟩:=map_of_forall (es:=es) fun e he=>h e (by simp [he])
   exact ⟨a::xs,rfl,by simpa using ⟨hp,hq⟩⟩
theorem kids:Kids Tryd.prog (· < Tryd.prog.types.size):=kids_rows (by kernel_rfl) (by kernel_rfl)
theorem full:∀ t e,t < Tryd.prog.types.size→Tryd.prog.underlying t=some (.slice e)→0 < Tryd.prog.cellsOf e:=slices_full_of Tryd.prog (by kernel_rfl)
theorem reads_tree {H:Type} {enc:TypeId × Value→H} {w:World}:∀ n:Nat,Reads enc Tryd.prog w n 65 fun vs=>∃ t:T,vs=t.cells∧t.Ok:=by
 intro n
 induction n using Nat.strongRecOn with
 | ind n ih =>
   have hS:=reads_struct (enc:=enc) (P:=Tryd.prog) (w:=w) (n:=n) (t:=65)
    (Ss:=[fun vs=>∃ i,vs=[.int .i64 i]∧IntKind.i64.min≤i∧i≤IntKind.i64.max,fun vs=>∃ s,vs=[.str s]∧s.length≤maxLen,fun vs=>∃ s,vs=[.str s]∧s.length≤maxLen,
      fun vs=>∃ es,vs=[.sl es]∧es.length≤maxLen∧∀ r∈es,(∃ t:T,r=t.cells∧t.Ok)∧r.length=Tryd.prog.cellsOf 65∧(∀ v∈r,v.leaf=true)∧V.clean.cleanL 0 r=true])
    kids (by decide +kernel) Tryd.underlying65 rfl ?_
   · intro cs x h
     obtain ⟨vs,⟨_,_,rfl,⟨i,rfl,hi⟩,_,_,rfl,⟨s,rfl,hs⟩,_,_,rfl,⟨s',rfl,hs'⟩,_,_,rfl,⟨es,rfl,hes,hr⟩,rfl⟩,h2⟩:=hS cs x h
     obtain ⟨ts,rfl,hts⟩:=map_of_forall (f:=T.cells) (p:=T.Ok) fun e he=>(hr e he).1
     refine ⟨_,⟨.mk i s s' ts,?_,.mk hi hs hs' (by simpa using hes) hts⟩,h2⟩
     simp [T.cells,T.rows_eq]
   · intro m hm j f S h1 h2
     match j with
     | 0=>simp at h1 h2; subst h1 h2; exact reads_int Tryd.underlying3
     | 1=>simp at h1 h2; subst h1 h2; exact reads_str Tryd.underlying9
     | 2=>simp at h1 h2; subst h1 h2; exact reads_str Tryd.underlying9
     | 3=>simp at h1 h2; subst h1 h2; exact reads_slice Tryd.underlying63 (by decide +kernel) fun m' hm'=>ih m' (by omega)
     | j+4=>simp at h1
end Go.Cod
set_option linter.all false
namespace Go.Cod
open Go Go.Proofs
set_option maxRecDepth 10000
def T.kids:T→List T
 | .mk _ _ _ kids=>kids
mutual
def szT:T→Int→Int
 | .mk _ kind text kids,left =>
   if left - kind.length < 0 then -1 else
   if left - kind.length - text.length < 0 then -1 else
   let l:=if left - kind.length - text.length - kids.length < 0 then -1 else szGo kids (left - kind.length - text.length - kids.length)
   if l < 0 then -1 else l
def szGo:List T→Int→Int
 | [],l=>l
 | t::ts,l=>if szT t l < 0 then -1 else szGo ts (szT t l)
end
def szL (ts:List T) (left:Int):Int:=if left - ts.length < 0 then -1 else szGo ts (left - ts.length)
mutual
theorem szT_le:∀ (t:T) (left:Int),0≤left→szT t left≤left∧-1≤szT t left
 | .mk id kind text kids,left,h=>by
   simp only [szT]
   have:=szGo_le kids (left - kind.length - text.length - kids.length)
   split
   · omega
   split
   · omega
   split
   · simp; omega
   · split <;> omega
theorem szGo_le:∀ (ts:List T) (left:Int),0≤left→szGo ts left≤left∧-1≤szGo ts left
 | [],left,h=>by simp [szGo]; omega
 | t::ts,left,h=>by
   simp only [szGo]
   have:=szT_le t left h
   split
   · omega
   · have:=szGo_le ts (szT t left) (by omega)
     omega
end
theorem szL_le (ts:List T) (left:Int) (h:0≤left):szL ts left≤left∧-1≤szL ts left:=by
 unfold szL
 split
 · omega
 · have:=szGo_le ts (left - ts.length) (by omega)
   omega
theorem szT_pure1 (t:T) (ht:t.Ok) (left:Int) (h0:0≤left) (h1:left≤4611686018427387904)
  (hL:∀ left:Int,0≤left→left≤4611686018427387904→Pure Tryd.prog 57 [.sl (T.rows t.kids),.int .i64 left] (·=.int .i64 (szL t.kids left))) :
  Pure Tryd.prog 39 [.agg t.cells,.int .i64 left] (·=.int .i64 (szT t left)):=by
 cases ht with
 | @mk id kind text kids g1 g2 g3 g4 g5 =>
 simp only [maxLen] at g2 g3 g4
 refine pure_of_awp good Tryd.func39 rfl (by kernel_rfl) (by decide) ?_
 conv=>whnf
 rw [wrap64 (by omega) (by omega)]
 by_cases a1:left - kind.length < 0
 · rw [ltB_t (by omega)]
   conv=>whnf
   simp [szT,a1]
 rw [ltB_f (by omega)]
 conv=>whnf
 rw [wrap64 (by omega) (by omega)]
 by_cases a2:left - kind.length - text.length < 0
 · rw [ltB_t (by omega)]
   conv=>whnf
   simp [szT,a1,a2]
 rw [ltB_f (by omega)]
 conv=>whnf
 refine .inl ((hL (left - kind.length - text.length) (by omega) (by omega)).mono ?_)
 rintro r rfl
 simp only [T.kids]
 have hb:=szL_le kids (left - kind.length - text.length) (by omega)
 have he:szT (.mk id kind text kids) left=if szL kids (left - kind.length - text.length) < 0 then -1 else szL kids (left - kind.length - text.length):=by
  simp only [szT,szL,if_neg a1,if_neg a2]
  rfl
 conv=>whnf
 by_cases a3:szL kids (left - kind.length - text.length) < 0
 · rw [ltB_t (by omega)]
   conv=>whnf
   rw [he,if_pos a3]
 rw [ltB_f (by omega)]
 conv=>whnf
 rw [he,if_neg a3]
theorem rows_get (ts:List T) (i:Nat) (h:i < ts.length):(T.rows ts)[i]? = some ts[i].cells:=by
 rw [T.rows_eq]; simp [h]
theorem rows_len (ts:List T):(T.rows ts).length=ts.length:=by rw [T.rows_eq]; simp
theorem cells_len (t:T):t.cells.length=4:=by cases t; rfl
theorem szGo_drop (ts:List T) (i:Nat) (h:i < ts.length) (l:Int):szGo (ts.drop i) l=if szT ts[i] l < 0 then -1 else szGo (ts.drop (i+1)) (szT ts[i] l):=by
 rw [List.drop_eq_getElem_cons h]; simp [szGo]
theorem szL_pure1 (ts:List T) (hl:ts.length≤9223372036854775807) (left:Int) (h0:0≤left) (h1:left≤4611686018427387904)
  (hT:∀ t∈ts,∀ left:Int,0≤left→left≤4611686018427387904→Pure Tryd.prog 39 [.agg t.cells,.int .i64 left] (·=.int .i64 (szT t left))) :
  Pure Tryd.prog 57 [.sl (T.rows ts),.int .i64 left] (·=.int .i64 (szL ts left)):=by
 have hlr:=rows_len ts
 refine pure_of_awp good Tryd.func57 rfl (by kernel_rfl) (by decide) ?_
 conv=>whnf
 rw [wrap64 (by omega) (by omega)]
 by_cases a1:left - ts.length < 0
 · rw [ltB_t (by omega)]
   conv=>whnf
   simp [szL,a1]
 rw [ltB_f (by omega)]
 conv=>whnf
 refine loop_intro (fun n fr st=>st=[]∧∃ (i:Nat) (l:Int),n+i=ts.length∧0≤l∧l≤4611686018427387904∧szL ts left=szGo (ts.drop i) l∧Holds fr [(0,.sl (T.rows ts)),(1,.int .i64 l),(5,.int .i64 i)]) ts.length
  ⟨rfl,0,left - (T.rows ts).length,by simp,by omega,by omega,by simp [szL,hlr,a1],rfl,rfl,rfl,trivial⟩ ?_
 rintro n fr st ⟨rfl,i,l,hi,b0,b1,hsz,hh⟩
 obtain ⟨fr,rfl⟩:=hh.split
 clear hh
 conv=>whnf
 by_cases hlt:i < ts.length
 · rw [ltB_t (by omega)]
   conv=>whnf
   refine ⟨by omega,T.rows ts,ts[i].cells,4,rfl,rows_get ts i hlt,rfl,cells_len _,?_⟩
   have hc:=hT ts[i] (List.getElem_mem _) l b0 b1
   have hb:=szT_le ts[i] l b0
   rw [szGo_drop ts i hlt] at hsz
   generalize hg:ts[i]=t at hc hb hsz ⊢
   cases t with
   | mk id kind text kids =>
   conv=>whnf
   refine .inl (hc.mono ?_)
   rintro r rfl
   conv=>whnf
   by_cases a3:szT (.mk id kind text kids) l < 0
   · rw [ltB_t (by omega)]
     conv=>whnf
     rw [hsz,if_pos a3]
   rw [ltB_f (by omega)]
   conv=>whnf
   refine ⟨n - 1,by omega,rfl,i+1,szT (.mk id kind text kids) l,by omega,by omega,by omega,?_,rfl,rfl,?_,trivial⟩
   · rw [hsz,if_neg a3]
   · show V.int .i64 (IntKind.i64.wrap (i+1))=_
     rw [wrap64 (by omega) (by omega)]; simp
 · rw [ltB_f (by omega)]
   conv=>whnf
   rw [hsz,List.drop_of_length_le (by omega)]
   rfl
theorem szT_pure (t:T) (ht:t.Ok):∀ (left:Int),0≤left→left≤4611686018427387904→Pure Tryd.prog 39 [.agg t.cells,.int .i64 left] (·=.int .i64 (szT t left)):=by
 induction ht with
 | @mk id kind text kids g1 g2 g3 g4 g5 ih =>
   intro left h0 h1
   exact szT_pure1 _ (.mk g1 g2 g3 g4 g5) left h0 h1 fun left h0 h1=>szL_pure1 kids (by simpa [maxLen] using g4) left h0 h1 ih
end Go.Cod
set_option linter.all false
namespace Go.Cod
open Go Go.Proofs
set_option maxRecDepth 10000
inductive T.Small:T→Prop
 | mk {id kind text kids} (h1:-9223372036854775808≤id∧id≤9223372036854775807) (h2:kind.length≤1048576) (h3:text.length≤1048576) (h4:kids.length≤1048576) (h5:∀ t∈kids,T.Small t):T.Small (.mk id kind text kids)
def zrow:List V:=[.int .i64 0,.str [],.str [],.nils]
end Go.Cod
set_option linter.all false
namespace Go.Cod
open Go Go.Proofs
set_option maxRecDepth 10000
theorem eqB_refl (a:Int):eqB a a=true:=by rw [eqB_def]; simp
theorem eqS_refl (a:List UInt8):eqS a a=true:=by rw [eqS_def]; simp
theorem eqTreeS_pure1 (ts:List T) (hl:ts.length≤1048576) (hT:∀ t∈ts,Pure Tryd.prog 41 [.agg t.cells,.agg t.cells] (·=.bool true)) :
  Pure Tryd.prog 59 [.sl (T.rows ts),.sl (T.rows ts)] (·=.bool true):=by
 have hlr:=rows_len ts
 refine pure_of_awp good Tryd.func59 rfl (by kernel_rfl) (by decide) ?_
 conv=>whnf
 rw [eqB_refl]
 conv=>whnf
 refine loop_intro (fun n fr st=>∃ i:Nat,n+i=ts.length∧st=[]∧Holds fr [(0,.sl (T.rows ts)),(1,.sl (T.rows ts)),(5,.int .i64 i)]) ts.length
  ⟨0,rfl,rfl,rfl,rfl,rfl,trivial⟩ ?_
 rintro n fr st ⟨i,hi,rfl,hh⟩
 obtain ⟨fr,rfl⟩:=hh.split
 clear hh
 conv=>whnf
 by_cases hlt:i < ts.length
 · rw [ltB_t (by omega)]
   conv=>whnf
   refine ⟨by omega,T.rows ts,ts[i].cells,4,rfl,rows_get ts i hlt,rfl,cells_len _,?_⟩
   have hc:=hT ts[i] (List.getElem_mem _)
   have hmg:=rows_get ts i hlt
   generalize ts[i]=t at hc hmg
   cases t with
   | mk id kind text kids =>
   conv=>whnf
   refine ⟨by omega,T.rows ts,_,4,rfl,hmg,rfl,rfl,?_⟩
   conv=>whnf
   refine ⟨_,.inl hc,?_⟩
   conv=>whnf
   refine ⟨n - 1,by omega,i+1,by omega,rfl,rfl,rfl,?_,trivial⟩
   · show V.int .i64 (IntKind.i64.wrap (i+1))=_
     rw [wrap64 (by omega) (by omega)]; simp
 · rw [ltB_f (by omega)]
   conv=>whnf
theorem eqTree_pure1 (t:T) (hL:Pure Tryd.prog 59 [.sl (T.rows t.kids),.sl (T.rows t.kids)] (·=.bool true)) :
  Pure Tryd.prog 41 [.agg t.cells,.agg t.cells] (·=.bool true):=by
 cases t with
 | mk id kind text kids =>
 simp only [T.kids] at hL
 refine pure_of_awp good Tryd.func41 rfl (by kernel_rfl) (by decide) ?_
 conv=>whnf
 rw [eqB_refl]
 conv=>whnf
 rw [eqS_refl]
 conv=>whnf
 rw [eqS_refl]
 conv=>whnf
 refine .inl (hL.mono ?_)
 rintro r rfl
 conv=>whnf
theorem eqTree_pure (t:T) (ht:t.Small):Pure Tryd.prog 41 [.agg t.cells,.agg t.cells] (·=.bool true):=by
 induction ht with
 | @mk id kind text kids g1 g2 g3 g4 g5 ih=>exact eqTree_pure1 _ (eqTreeS_pure1 kids g4 ih)
mutual
theorem small_of_sz:∀ (t:T),t.Ok→∀ left:Int,left≤1048576→0≤szT t left→t.Small
 | .mk id kind text kids,ht,left,h1,h2=>by
   cases ht with
   | mk g1 g2 g3 g4 g5 =>
     simp only [szT] at h2
     split at h2
     · omega
     split at h2
     · omega
     split at h2
     · simp at h2
     rename_i a1 a2 a3
     split at h2
     · omega
     refine .mk g1 (by omega) (by omega) (by omega) (small_of_szGo kids g5 _ (by omega) h2)
theorem small_of_szGo:∀ (ts:List T),(∀ t∈ts,t.Ok)→∀ left:Int,left≤1048576→0≤szGo ts left→∀ t∈ts,t.Small
 | [],_,_,_,_=>by simp
 | t::ts,h,left,h1,h2=>by
   simp only [szGo] at h2
   split at h2
   · omega
   rename_i a1
   by_cases h0:0≤left
   · have h3:=(szT_le t left h0).1
     intro t' ht'
     have hh:=small_of_sz t (h _ (by simp)) left h1 (by omega)
     rcases List.mem_cons.1 ht' with rfl | ht'
     · exact hh
     · exact small_of_szGo ts (fun t ht=>h t (by simp [ht])) _ (by omega) h2 t' ht'
   · exfalso
     have:szT t left < 0:=by
      cases t with
      | mk id kind text kids=>simp only [szT]; rw [if_pos (by omega)]; omega
     omega
end
end Go.Cod
set_option linter.all false
namespace Go.Cod
open Go Go.Proofs
set_option maxRecDepth 10000
def irows (ns:List Int):List (List V):=ns.map fun n=>[.int .i64 n]
theorem irows_len (ns:List Int):(irows ns).length=ns.length:=by simp [irows]
theorem irows_get (ns:List Int) (i:Nat) (h:i < ns.length):(irows ns)[i]? = some [.int .i64 ns[i]]:=by simp [irows,h]
theorem l2Has_pure (ns:List Int) (x:Int) (hl:ns.length≤9223372036854775806):Pure Tryd.prog 38 [.sl (irows ns),.int .i64 x] (·=.bool (decide (x∈ns))):=by
 have hlr:=irows_len ns
 refine pure_of_awp good Tryd.func38 rfl (by kernel_rfl) (by decide) ?_
 conv=>whnf
 refine loop_intro (fun n fr st=>∃ i:Nat,n+i=ns.length∧st=[]∧x∉ns.take i∧Holds fr [(0,.sl (irows ns)),(1,.int .i64 x),(5,.int .i64 i)]) ns.length
  ⟨0,rfl,rfl,by simp,rfl,rfl,rfl,trivial⟩ ?_
 rintro n fr st ⟨i,hi,rfl,hx,hh⟩
 obtain ⟨fr,rfl⟩:=hh.split
 clear hh
 conv=>whnf
 by_cases hlt:i < ns.length
 · rw [ltB_t (by omega)]
   conv=>whnf
   refine ⟨by omega,irows ns,_,1,rfl,irows_get ns i hlt,rfl,rfl,?_⟩
   conv=>whnf
   by_cases he:ns[i]=x
   · rw [eqB_t he]
     conv=>whnf
     have:x∈ns:=he ▸ List.getElem_mem _
     simp [this]
   · rw [eqB_f he]
     conv=>whnf
     refine ⟨n - 1,by omega,i+1,by omega,rfl,?_,rfl,rfl,?_,trivial⟩
     · rw [List.take_succ_eq_append_getElem hlt]
       simp only [List.mem_append,List.mem_singleton,not_or]
       exact ⟨hx,fun h=>he h.symm⟩
     · show V.int .i64 (IntKind.i64.wrap (i+1))=_
       rw [wrap64 (by omega) (by omega)]; simp
 · rw [ltB_f (by omega)]
   conv=>whnf
   rw [List.take_of_length_le (by omega)] at hx
   simp [hx]
mutual
def T.ids:T→List Int
 | .mk id _ _ kids=>id::T.idsL kids
def T.idsL:List T→List Int
 | []=>[]
 | t::ts=>t.ids++T.idsL ts
end
theorem idsL_append (a b:List T):T.idsL (a++b)=T.idsL a++T.idsL b:=by
 induction a with
 | nil=>rfl
 | cons x xs ih=>simp [T.idsL,ih]
theorem idsL_take (ts:List T) (i:Nat) (h:i < ts.length):T.idsL (ts.take (i+1))=T.idsL (ts.take i)++ts[i].ids:=by
 rw [List.take_succ_eq_append_getElem h,idsL_append]; simp [T.idsL]
def textB (c:UInt8):Bool:=decide (32≤c.toNat∧c.toNat≤126∧c.toNat≠34)
def textL (s:List UInt8):Bool:=s.all textB&&decide ((s.length:Int)≤12)
theorem l2Text_pure (s:List UInt8) (hs:s.length≤9223372036854775806):Pure Tryd.prog 56 [.str s] (·=.bool (textL s)):=by
 have hno:∀ (i:Nat) (h:i < s.length),textB s[i]=false→textL s=false:=by
  intro i h hb
  have:s.all textB=false:=by rw [List.all_eq_false]; exact ⟨s[i],List.getElem_mem _,by simp [hb]⟩
  simp only [textL,this,Bool.false_and]
 refine pure_of_awp good Tryd.func56 rfl (by kernel_rfl) (by decide) ?_
 conv=>whnf
 refine loop_intro (fun n fr st=>st=[]∧∃ i:Nat,n+i=s.length∧(s.take i).all textB=true∧Holds fr [(0,.str s),(3,.int .i64 i)]) s.length ⟨rfl,0,rfl,rfl,rfl,rfl,trivial⟩ ?_
 rintro n fr st ⟨rfl,i,hi,hlow,hh⟩
 obtain ⟨fr,rfl⟩:=hh.split
 clear hh
 conv=>whnf
 by_cases hlt:i < s.length
 · rw [ltB_t (by omega)]
   have hstep:=take_all (p:=textB) hlt
   have hn:=hno i hlt
   conv=>whnf
   refine ⟨by omega,s[i],by simp [hlt],?_⟩
   conv=>whnf
   by_cases h1:(s[i].toNat:Int) < 32
   · rw [ltB_t h1]
     conv=>whnf
     rw [hn (by simp only [textB,decide_eq_false_iff_not]; omega)]
   rw [ltB_f (by omega)]
   conv=>whnf
   refine ⟨by omega,s[i],by simp [hlt],?_⟩
   conv=>whnf
   by_cases h2:(126:Int) < s[i].toNat
   · rw [ltB_t h2]
     conv=>whnf
     rw [hn (by simp only [textB,decide_eq_false_iff_not]; omega)]
   rw [ltB_f (by omega)]
   conv=>whnf
   refine ⟨by omega,s[i],by simp [hlt],?_⟩
   conv=>whnf
   by_cases h3:(s[i].toNat:Int)=34
   · rw [eqB_t h3]
     conv=>whnf
     rw [hn (by simp only [textB,decide_eq_false_iff_not]; omega)]
   rw [eqB_f h3]
   conv=>whnf
   refine ⟨n - 1,by omega,rfl,i+1,by omega,?_,rfl,?_,trivial⟩
   · rw [hstep,hlow]; simp only [textB,Bool.true_and,decide_eq_true_eq]; omega
   · show V.int .i64 (IntKind.i64.wrap (i+1))=_
     rw [wrap64 (by omega) (by omega)]; simp
 · rw [ltB_f (by omega)]
   conv=>whnf
   rw [List.take_of_length_le (by omega)] at hlow
   show V.bool (leB _ _)=_
   simp [textL,hlow,leB_def]
end Go.Cod
set_option linter.all false
namespace Go.Cod
open Go Go.Proofs
set_option maxRecDepth 10000
mutual
def plainT:T→Int→Bool
 | .mk id kind text kids,lv=>!decide (6 < lv)&&decide (1≤id∧id≤999)&&nameL kind&&textL text&&plainL kids (lv+1)
def plainL:List T→Int→Bool
 | [],_=>true
 | t::ts,lv=>plainT t lv&&plainL ts lv
end
theorem plainL_eq (ts:List T) (lv:Int):plainL ts lv=ts.all fun t=>plainT t lv:=by
 induction ts with
 | nil=>rfl
 | cons t ts ih=>simp [plainL,ih]
theorem l2Plain_pure1 (t:T) (hs:t.Small) (lv:Int) (h0:0≤lv) (h7:lv≤1000) (hT:lv≤6→∀ t'∈t.kids,Pure Tryd.prog 36 [.agg t'.cells,.int .i64 (lv+1)] (·=.bool (plainT t' (lv+1)))) :
  Pure Tryd.prog 36 [.agg t.cells,.int .i64 lv] (·=.bool (plainT t lv)):=by
 cases hs with
 | @mk id kind text kids g1 g2 g3 g4 g5 =>
 simp only [T.kids] at hT
 have hlr:=rows_len kids
 refine pure_of_awp good Tryd.func36 rfl (by kernel_rfl) (by decide) ?_
 conv=>whnf
 by_cases a1:6 < lv
 · rw [ltB_t a1]
   conv=>whnf
   simp [plainT,a1]
 rw [ltB_f (by omega)]
 conv=>whnf
 refine .inl ((l1In_pure _ _ _).mono ?_)
 rintro r rfl
 by_cases a2:1≤id∧id≤999
 case neg =>
  rw [decide_eq_false a2]
  conv=>whnf
  simp [plainT,a2]
 rw [decide_eq_true a2]
 conv=>whnf
 refine .inl ((l2Name_pure kind (by omega)).mono ?_)
 rintro r rfl
 cases a3:nameL kind
 · conv=>whnf
   simp [plainT,a3]
 conv=>whnf
 refine .inl ((l2Text_pure text (by omega)).mono ?_)
 rintro r rfl
 cases a4:textL text
 · conv=>whnf
   simp [plainT,a4]
 conv=>whnf
 have hp:plainT (.mk id kind text kids) lv=plainL kids (lv+1):=by simp [plainT,a1,a2,a3,a4]
 rw [plainL_eq] at hp
 refine loop_intro (fun n fr st=>∃ i:Nat,n+i=kids.length∧st=[⟨[[.int .i64 id,.str kind,.str text,.sl (T.rows kids)]],4,true,true,true,.cell⟩]∧(kids.take i).all (fun t=>plainT t (lv+1))=true∧Holds fr [(1,.int .i64 lv),(2,.ptr 0 0 0),(5,.int .i64 i)]) kids.length
  ⟨0,rfl,rfl,rfl,rfl,rfl,rfl,trivial⟩ ?_
 rintro n fr st ⟨i,hi,rfl,hx,hh⟩
 obtain ⟨fr,rfl⟩:=hh.split
 clear hh
 conv=>whnf
 by_cases hlt:i < kids.length
 · rw [ltB_t (by omega)]
   conv=>whnf
   refine ⟨by omega,T.rows kids,kids[i].cells,4,rfl,rows_get kids i hlt,rfl,cells_len _,?_⟩
   have hc:=hT (by omega) kids[i] (List.getElem_mem _)
   have hst:(kids.take (i+1)).all (fun t=>plainT t (lv+1))=plainT kids[i] (lv+1):=by
    rw [List.take_succ_eq_append_getElem hlt,List.all_append,hx]; simp
   have hno:plainT kids[i] (lv+1)=false→kids.all (fun t=>plainT t (lv+1))=false:=by
    intro h; rw [List.all_eq_false]; exact ⟨kids[i],List.getElem_mem _,by simp [h]⟩
   generalize kids[i]=t at hc hst hno ⊢
   cases t with
   | mk id' kind' text' kids' =>
   conv=>whnf
   rw [wrap64 (by omega) (by omega)]
   refine .inl (hc.mono ?_)
   rintro r rfl
   cases a5:plainT (.mk id' kind' text' kids') (lv+1)
   · conv=>whnf
     rw [hp,hno a5]
   conv=>whnf
   refine ⟨n - 1,by omega,i+1,by omega,rfl,by rw [hst,a5],rfl,rfl,?_,trivial⟩
   show V.int .i64 (IntKind.i64.wrap (i+1))=_
   rw [wrap64 (by omega) (by omega)]; simp
 · rw [ltB_f (by omega)]
   conv=>whnf
   rw [List.take_of_length_le (by omega)] at hx
   rw [hp,hx]
theorem l2Plain_pure (t:T) (hs:t.Small):∀ lv:Int,0≤lv→lv≤1000→Pure Tryd.prog 36 [.agg t.cells,.int .i64 lv] (·=.bool (plainT t lv)):=by
 induction hs with
 | @mk id kind text kids g1 g2 g3 g4 g5 ih =>
   intro lv h0 h7
   exact l2Plain_pure1 _ (.mk g1 g2 g3 g4 g5) lv h0 h7 fun h t' ht'=>ih t' ht' (lv+1) (by omega) (by omega)
end Go.Cod
set_option linter.all false
namespace Go.Cod
open Go Go.Proofs
set_option maxRecDepth 10000
mutual
theorem ids_sz:∀ (t:T) (left:Int),0≤szT t left→szT t left+t.ids.length≤left+1
 | .mk id kind text kids,left,h=>by
   simp only [szT] at h ⊢
   split at h
   · omega
   split at h
   · omega
   split at h
   · simp at h
   rename_i a1 a2 a3
   rw [if_neg a1,if_neg a2,if_neg a3]
   split at h
   · omega
   rename_i a4
   rw [if_neg a4]
   have:=ids_szGo kids _ h
   simp only [T.ids,List.length_cons]
   omega
theorem ids_szGo:∀ (ts:List T) (left:Int),0≤szGo ts left→szGo ts left+(T.idsL ts).length≤left+ts.length
 | [],left,h=>by simp [szGo,T.idsL]
 | t::ts,left,h=>by
   simp only [szGo] at h ⊢
   split at h
   · omega
   rename_i a1
   rw [if_neg a1]
   have h1:=ids_sz t left (by omega)
   have h2:=ids_szGo ts _ h
   simp only [T.idsL,List.length_append,List.length_cons]
   omega
end
theorem idsL_split (ts:List T) (i:Nat):T.idsL ts=T.idsL (ts.take i)++T.idsL (ts.drop i):=by
 induction ts generalizing i with
 | nil=>simp [T.idsL]
 | cons t ts ih=>cases i with
   | zero=>simp [T.idsL]
   | succ i=>simp only [List.take_succ_cons,List.drop_succ_cons,T.idsL,List.append_assoc]; rw [← ih i]
theorem irows_wid (l:List Int):∀ m∈irows l,m.length=1:=by simp [irows]
theorem l2Ids_pure1 (t:T) (hs:t.Small) (hn:t.ids.length≤1048577) (hT:∀ t'∈t.kids,(t'.ids).length≤1048577→Pure Tryd.prog 37 [.agg t'.cells] (·=.sl (irows (t'.ids)))) :
  Pure Tryd.prog 37 [.agg t.cells] (·=.sl (irows t.ids)):=by
 cases hs with
 | @mk id kind text kids g1 g2 g3 g4 g5 =>
 simp only [T.kids,T.ids,List.length_cons] at hT hn ⊢
 have hlr:=rows_len kids
 refine pure_of_awp good Tryd.func37 rfl (by kernel_rfl) (by decide) ?_
 conv=>whnf
 refine loop_drop (fun n fr st=>∃ i:Nat,n+i=kids.length∧st=[⟨[[.int .i64 id,.str kind,.str text,.sl (T.rows kids)]],4,true,true,true,.cell⟩,⟨irows (id::T.idsL (kids.take i)),1,true,true,false,.cell⟩]∧Holds fr [(1,.ptr 0 0 0),(3,.own 1),(4,.int .i64 i)]) kids.length none
  ⟨0,rfl,rfl,rfl,rfl,rfl,trivial⟩ ?_
 rintro n fr st ⟨i,hi,rfl,hh⟩
 obtain ⟨fr,rfl⟩:=hh.split
 clear hh
 conv=>whnf
 by_cases hlt:i < kids.length
 · rw [ltB_t (by omega)]
   conv=>whnf
   refine ⟨by omega,T.rows kids,kids[i].cells,4,rfl,rows_get kids i hlt,rfl,cells_len _,?_⟩
   have hsp:=idsL_split kids (i+1)
   have htk:=idsL_take kids i hlt
   have hl1:(T.idsL kids).length=(T.idsL (kids.take (i+1))).length+(T.idsL (kids.drop (i+1))).length:=by rw [hsp]; simp
   have hl2:(T.idsL (kids.take (i+1))).length=(T.idsL (kids.take i)).length+(kids[i].ids).length:=by rw [htk]; simp
   have hc:=hT kids[i] (List.getElem_mem _) (by omega)
   generalize kids[i]=t at hc htk hl2 ⊢
   cases t with
   | mk id' kind' text' kids' =>
   conv=>whnf
   refine .inl (hc.mono ?_)
   rintro r rfl
   conv=>whnf
   refine ⟨irows_wid _,?_⟩
   conv=>whnf
   refine ⟨by rw [irows_len,irows_len]; show (_+_)*8≤_; simp only [List.length_cons]; omega,?_⟩
   conv=>whnf
   refine ⟨n - 1,by omega,some [0,2],?_⟩
   conv=>whnf
   refine ⟨i+1,by omega,?_,rfl,rfl,?_,trivial⟩
   · show [_,_]=[_,_]
     rw [htk]
     simp only [irows,List.map_cons,List.map_append]
     rfl
   · show V.int .i64 (IntKind.i64.wrap (i+1))=_
     rw [wrap64 (by omega) (by omega)]; simp
 · rw [ltB_f (by omega)]
   conv=>whnf
   rw [List.take_of_length_le (by omega)]
theorem l2Ids_pure (t:T) (hs:t.Small):t.ids.length≤1048577→Pure Tryd.prog 37 [.agg t.cells] (·=.sl (irows t.ids)):=by
 induction hs with
 | @mk id kind text kids g1 g2 g3 g4 g5 ih =>
   intro hn
   exact l2Ids_pure1 _ (.mk g1 g2 g3 g4 g5) hn fun t' ht' h=>ih t' ht' h
theorem nodup_take {l:List Int} {i:Nat} (h:i < l.length):(l.take (i+1)).Nodup↔(l.take i).Nodup∧l[i]∉l.take i:=by
 rw [List.take_succ_eq_append_getElem h,List.nodup_append]
 simp
 intro _
 constructor
 · intro h h2; exact h _ h2 rfl
 · intro h a ha e; exact h (e ▸ ha)
def okT (t:T):Bool:=plainT t 1&&decide t.ids.Nodup&&decide (t.ids.length≤20)
theorem specTreeOk_pure (t:T) (hs:t.Small) (hn:t.ids.length≤1048577):Pure Tryd.prog 21 [.agg t.cells] (·=.bool (okT t)):=by
 have hp:=l2Plain_pure t hs 1 (by omega) (by omega)
 have hi:=l2Ids_pure t hs hn
 have hok:okT t=(plainT t 1&&decide t.ids.Nodup&&decide (t.ids.length≤20)):=rfl
 generalize okT t=ok at *
 generalize plainT t 1=pl at *
 generalize t.ids=ids at *
 cases t with
 | mk id kind text kids =>
 refine pure_of_awp good Tryd.func21 rfl (by kernel_rfl) (by decide) ?_
 conv=>whnf
 refine .inl (hp.mono ?_)
 rintro r rfl
 cases pl
 · conv=>whnf
   simp at hok; rw [hok]
 conv=>whnf
 refine .inl (hi.mono ?_)
 rintro r rfl
 conv=>whnf
 refine loop_intro (fun n fr st=>∃ i:Nat,n+i=ids.length∧st=[⟨[[.int .i64 id,.str kind,.str text,.sl (T.rows kids)]],4,true,true,true,.cell⟩]∧(ids.take i).Nodup∧Holds fr [(3,.sl (irows ids)),(4,.int .i64 i)]) ids.length
  ⟨0,rfl,rfl,by simp,rfl,rfl,trivial⟩ ?_
 rintro n fr st ⟨i,hi,rfl,hx,hh⟩
 obtain ⟨fr,rfl⟩:=hh.split
 clear hh
 conv=>whnf
 have hlr:=irows_len ids
 by_cases hlt:i < ids.length
 · rw [ltB_t (by omega)]
   conv=>whnf
   refine ⟨irows_wid _,?_⟩
   conv=>whnf
   refine ⟨by omega,by show Int.toNat (i:Int)≤_; rw [hlr]; omega,rfl,?_⟩
   conv=>whnf
   refine ⟨by omega,irows ids,_,1,rfl,irows_get ids i hlt,rfl,rfl,?_⟩
   conv=>whnf
   have hcut:((irows ids).take (Int.toNat (i:Int))).drop 0=irows (ids.take i):=by simp [irows]
   have hc:=l2Has_pure (ids.take i) ids[i] (by simp; omega)
   rw [← hcut] at hc
   refine ⟨_,.inl hc,?_⟩
   have hnd:=nodup_take hlt
   by_cases hm:ids[i]∈ids.take i
   · rw [decide_eq_true hm]
     conv=>whnf
     have:¬ ids.Nodup:=fun h=>(hnd.1 (h.sublist (List.take_sublist _ _))).2 hm
     simp [this] at hok; rw [hok]
   · rw [decide_eq_false hm]
     conv=>whnf
     refine ⟨n - 1,by omega,i+1,by omega,rfl,hnd.2 ⟨hx,hm⟩,rfl,?_,trivial⟩
     show V.int .i64 (IntKind.i64.wrap (i+1))=_
     rw [wrap64 (by omega) (by omega)]; simp
 · rw [ltB_f (by omega)]
   conv=>whnf
   rw [List.take_of_length_le (by omega)] at hx
   simp only [hx,decide_true,Bool.true_and,Bool.and_true] at hok
   rw [hok,leB_def,hlr]
   congr 1
   exact decide_eq_decide.2 (by omega)
end Go.Cod
set_option linter.all false
namespace Go.Cod
open Go Go.Proofs
set_option maxRecDepth 10000
theorem textHasOnly_pure (s:List UInt8) (hs:s.length≤9223372036854775806) (g:Nat) (p:UInt8→Bool) (hp:∀ b:UInt8,Pure Tryd.prog g [cellB b] (·=.bool (p b))) :
  Pure Tryd.prog 69 [.str s,.fn g []] (·=.bool (s.all p)):=by
 refine pure_of_awp good Tryd.func69 rfl (by kernel_rfl) (by decide) ?_
 conv=>whnf
 refine loop_intro (fun n fr st=>st=[]∧∃ i:Nat,n+i=s.length∧(s.take i).all p=true∧Holds fr [(0,.str s),(1,.fn g []),(7,.int .i64 s.length),(8,.int .i64 i)]) s.length ⟨rfl,0,rfl,rfl,rfl,rfl,rfl,rfl,trivial⟩ ?_
 rintro n fr st ⟨rfl,i,hi,hx,hh⟩
 obtain ⟨fr,rfl⟩:=hh.split
 clear hh
 conv=>whnf
 by_cases hlt:i < s.length
 · rw [ltB_t (by omega)]
   conv=>whnf
   refine ⟨by omega,s[i],by simp [hlt],?_⟩
   conv=>whnf
   have hst:=take_all (p:=p) hlt
   have hno:p s[i]=false→s.all p=false:=by
    intro h; rw [List.all_eq_false]; exact ⟨s[i],List.getElem_mem _,by simp [h]⟩
   refine .inl ((hp s[i]).mono ?_)
   rintro r rfl
   cases a:p s[i]
   · conv=>whnf
     rw [hno a]
   conv=>whnf
   refine ⟨n - 1,by omega,rfl,i+1,by omega,by rw [hst,hx,a]; rfl,rfl,rfl,rfl,?_,trivial⟩
   show V.int .i64 (IntKind.i64.wrap (i+1))=_
   rw [wrap64 (by omega) (by omega)]; simp
 · rw [ltB_f (by omega)]
   conv=>whnf
   rw [List.take_of_length_le (by omega)] at hx
   rw [hx]
theorem isLetter_pure (b:UInt8):Pure Tryd.prog 72 [cellB b] (·=.bool (lowerB b)):=by
 refine pure_of_awp good Tryd.func72 rfl (by kernel_rfl) (by decide) ?_
 conv=>whnf
 by_cases h1:(97:Int)≤(b.toNat:Int)
 · rw [leB_t (by omega)]
   conv=>whnf
   congr 1
   rw [leB_def,lowerB]
   exact decide_eq_decide.2 (by omega)
 · rw [leB_f (by omega)]
   conv=>whnf
   have:lowerB b=false:=by unfold lowerB; simp; omega
   rw [this]
theorem isTreeText_pure (b:UInt8):Pure Tryd.prog 70 [cellB b] (·=.bool (textB b)):=by
 refine pure_of_awp good Tryd.func70 rfl (by kernel_rfl) (by decide) ?_
 conv=>whnf
 by_cases h1:(32:Int)≤(b.toNat:Int)
 · rw [leB_t (by omega)]
   conv=>whnf
   by_cases h2:(b.toNat:Int)≤126
   · rw [leB_t (by omega)]
     conv=>whnf
     congr 1
     rw [eqB_def]
     have:negB (decide ((b.toNat:Int)=34))=decide (b.toNat≠34):=by
      by_cases h:b.toNat=34
      · simp [h,negB]
      · have:¬ (b.toNat:Int)=34:=by omega
        simp [h,this,negB]
     rw [this,textB]
     exact decide_eq_decide.2 (by omega)
   · rw [leB_f (by omega)]
     conv=>whnf
     have:textB b=false:=by unfold textB; simp; omega
     rw [this]
 · rw [leB_f (by omega)]
   conv=>whnf
   have:textB b=false:=by unfold textB; simp; omega
   rw [this]
theorem nameOk_pure (s:List UInt8) (hs:s.length≤9223372036854775806):Pure Tryd.prog 68 [.str s] (·=.bool (nameL s)):=by
 refine pure_of_awp good Tryd.func68 rfl (by kernel_rfl) (by decide) ?_
 conv=>whnf
 by_cases h1:(1:Int)≤(s.length:Int)
 case neg =>
  rw [leB_f (by omega)]
  conv=>whnf
  simp [nameL]; omega
 rw [leB_t (by omega)]
 conv=>whnf
 by_cases h2:(s.length:Int)≤8
 case neg =>
  rw [leB_f (by omega)]
  conv=>whnf
  simp [nameL]; omega
 rw [leB_t (by omega)]
 conv=>whnf
 refine .inl ((textHasOnly_pure s hs _ lowerB isLetter_pure).mono ?_)
 rintro r rfl
 conv=>whnf
 simp [nameL,lower,h1,h2]
def thingB (id:Int) (kind text:List UInt8):Bool:=decide (1≤id∧id≤999)&&nameL kind&&textL text
theorem treeThingOk_pure (id:Int) (kind text:List UInt8) (kids:List T) (h2:kind.length≤9223372036854775806) (h3:text.length≤9223372036854775806) :
  Pure Tryd.prog 51 [.agg (T.mk id kind text kids).cells] (·=.bool (thingB id kind text)):=by
 refine pure_of_awp good Tryd.func51 rfl (by kernel_rfl) (by decide) ?_
 conv=>whnf
 by_cases a1:1≤id
 case neg =>
  rw [leB_f (by omega)]
  conv=>whnf
  simp [thingB]; omega
 rw [leB_t (by omega)]
 conv=>whnf
 by_cases a2:id≤999
 case neg =>
  rw [leB_f (by omega)]
  conv=>whnf
  simp [thingB]; omega
 rw [leB_t (by omega)]
 conv=>whnf
 refine .inl ((nameOk_pure kind (by omega)).mono ?_)
 rintro r rfl
 cases a3:nameL kind
 · conv=>whnf
   simp [thingB,a3]
 conv=>whnf
 by_cases a4:(text.length:Int)≤12
 case neg =>
  rw [leB_f (by omega)]
  conv=>whnf
  simp [thingB,textL]; omega
 rw [leB_t (by omega)]
 conv=>whnf
 refine .inl ((textHasOnly_pure text (by omega) _ textB isTreeText_pure).mono ?_)
 rintro r rfl
 conv=>whnf
 simp [thingB,textL,a1,a2,a3,a4]
end Go.Cod
set_option linter.all false
namespace Go.Cod
open Go Go.Proofs
set_option maxRecDepth 10000
abbrev Sp:=T × Int × Int
def spV (s:Sp):V:=.agg (s.1.cells++[.int .i64 s.2.1,.int .i64 s.2.2])
mutual
def spT:T→Int→Int→List Sp
 | .mk id kind text kids,ov,lv=>(.mk id kind text kids,ov,lv)::spL kids id (IntKind.i64.wrap (lv+1))
def spL:List T→Int→Int→List Sp
 | [],_,_=>[]
 | t::ts,ov,lv=>spT t ov lv++spL ts ov lv
end
theorem spL_append (a b:List T) (ov lv:Int):spL (a++b) ov lv=spL a ov lv++spL b ov lv:=by
 induction a with
 | nil=>rfl
 | cons t ts ih=>simp [spL,ih]
def spRows (l:List Sp):List (List V):=l.map fun s=>[spV s]
theorem spRows_append (a b:List Sp):spRows (a++b)=spRows a++spRows b:=by simp [spRows]
def Takes (ok:OkY) (log:List (List V)) (l:List Sp):Prop:=∀ pre v suf,l=pre++v::suf→ok (log++spRows pre) [spV v]
theorem Takes.left {ok:OkY} {log:List (List V)} {a b:List Sp} (h:Takes ok log (a++b)):Takes ok log a:=fun pre v suf e=>h pre v (suf++b) (by rw [e]; simp)
theorem Takes.right {ok:OkY} {log:List (List V)} {a b:List Sp} (h:Takes ok log (a++b)):Takes ok (log++spRows a) b:=fun pre v suf e=>by
 have:=h (a++pre) v suf (by rw [e]; simp)
 rwa [spRows_append,← List.append_assoc] at this
def Walked (log:List (List V)) (l:List Sp) (o:Out) (st':St):Prop:=∃ b log',o=.ret (.bool b)∧st'=[logO log' b]∧(b=true→log'=log++spRows l)
theorem treeWalk_full1 (t:T) (hs:t.Small) (ov lv:Int) (ok:OkY) (log:List (List V)) (hok:Takes ok log (spT t ov lv))
  (hT:∀ t'∈t.kids,∀ (ov lv:Int) (log:List (List V)),Takes ok log (spT t' ov lv)→Full Tryd.prog ok 67 [spV (t',ov,lv),.yld 0] [logO log true] (Walked log (spT t' ov lv))) :
  Full Tryd.prog ok 67 [spV (t,ov,lv),.yld 0] [logO log true] (Walked log (spT t ov lv)):=by
 cases hs with
 | @mk id kind text kids g1 g2 g3 g4 g5 =>
 simp only [T.kids] at hT
 have hlr:=rows_len kids
 have hok0:ok log [spV (.mk id kind text kids,ov,lv)]:=by simpa [spRows] using hok [] _ _ rfl
 have hokL:Takes ok (log++[[spV (.mk id kind text kids,ov,lv)]]) (spL kids id (IntKind.i64.wrap (lv+1))):=Takes.right (a:=[(.mk id kind text kids,ov,lv)]) hok
 refine full_of_awp good Tryd.func67 rfl (by kernel_rfl) (by decide) ?_
 conv=>whnf
 refine ⟨hok0,?_⟩
 intro b
 have hfin:log++[[spV (.mk id kind text kids,ov,lv)]]++spRows (spL kids id (IntKind.i64.wrap (lv+1)))=log++spRows (spT (.mk id kind text kids) ov lv):=by simp [spT,spRows]
 cases b
 · conv=>whnf
   refine ⟨[],false,?_⟩
   conv=>whnf
   exact ⟨false,_,rfl,rfl,by simp⟩
 conv=>whnf
 refine loop_drop (fun n fr st=>∃ i:Nat,n+i=kids.length∧st=[logO (log++[[spV (.mk id kind text kids,ov,lv)]]++spRows (spL (kids.take i) id (IntKind.i64.wrap (lv+1)))) true,⟨[[.int .i64 id,.str kind,.str text,.sl (T.rows kids),.int .i64 ov,.int .i64 lv]],6,true,true,true,.cell⟩]∧Holds fr [(1,.yld 0),(2,.ptr 1 0 0),(13,.sl (T.rows kids)),(14,.int .i64 kids.length),(15,.int .i64 i)]) kids.length none
  ⟨0,rfl,by show [_,_]=[logO (_++[]) true,_]; rw [List.append_nil]; rfl,rfl,rfl,rfl,by rw [← hlr]; rfl,rfl,trivial⟩ ?_
 rintro n fr st ⟨i,hi,rfl,hh⟩
 obtain ⟨fr,rfl⟩:=hh.split
 clear hh
 conv=>whnf
 by_cases hlt:i < kids.length
 · rw [ltB_t (by omega)]
   conv=>whnf
   refine ⟨by omega,T.rows kids,kids[i].cells,4,rfl,rows_get kids i hlt,rfl,cells_len _,?_⟩
   have hc:=hT kids[i] (List.getElem_mem _) id (IntKind.i64.wrap (lv+1)) (log++[[spV (.mk id kind text kids,ov,lv)]]++spRows (spL (kids.take i) id (IntKind.i64.wrap (lv+1)))) (by
    refine Takes.right (Takes.left (b:=spL (kids.drop (i+1)) id (IntKind.i64.wrap (lv+1))) ?_)
    refine cast ?_ hokL
    congr 1
    conv=>lhs; rw [← List.take_append_drop i kids,List.drop_eq_getElem_cons hlt]
    rw [spL_append]; simp [spL])
   have htk:spL (kids.take (i+1)) id (IntKind.i64.wrap (lv+1))=spL (kids.take i) id (IntKind.i64.wrap (lv+1))++spT kids[i] id (IntKind.i64.wrap (lv+1)):=by
    rw [List.take_succ_eq_append_getElem hlt,spL_append]; simp [spL]
   generalize kids[i]=t at hc htk ⊢
   cases t with
   | mk id' kind' text' kids' =>
   conv=>whnf
   refine ⟨[0],false,?_⟩
   conv=>whnf
   refine hc.mono ?_
   rintro o st' ⟨b,log',rfl,rfl,hl⟩
   cases b
   · conv=>whnf
     refine ⟨[],false,?_⟩
     conv=>whnf
     exact ⟨false,_,rfl,rfl,by simp⟩
   conv=>whnf
   refine ⟨n - 1,by omega,some [0,1],?_⟩
   conv=>whnf
   refine ⟨i+1,by omega,?_,rfl,rfl,rfl,rfl,?_,trivial⟩
   · show [logO _ _,_]=[logO _ _,_]
     rw [hl rfl,htk,spRows_append,List.append_assoc]
     rfl
   · show V.int .i64 (IntKind.i64.wrap (i+1))=_
     rw [wrap64 (by omega) (by omega)]; simp
 · rw [ltB_f (by omega)]
   conv=>whnf
   rw [List.take_of_length_le (by omega)]
   refine ⟨[],false,?_⟩
   conv=>whnf
   exact ⟨true,_,rfl,rfl,fun _=>hfin⟩
theorem treeWalk_full (t:T) (hs:t.Small) (ok:OkY):∀ (ov lv:Int) (log:List (List V)),Takes ok log (spT t ov lv)→Full Tryd.prog ok 67 [spV (t,ov,lv),.yld 0] [logO log true] (Walked log (spT t ov lv)):=by
 induction hs with
 | @mk id kind text kids g1 g2 g3 g4 g5 ih =>
   intro ov lv log hok
   exact treeWalk_full1 _ (.mk g1 g2 g3 g4 g5) ov lv ok log hok fun t' ht'=>ih t' ht'
end Go.Cod
set_option linter.all false
namespace Go.Cod
open Go Go.Proofs
set_option maxRecDepth 10000
def boxT (t:T):O:=⟨[t.cells],4,true,true,true,.cell⟩
theorem treeSpots1_full (t:T) (hs:t.Small) (ok:OkY) (hok:Takes ok [] (spT t 0 1)):Full Tryd.prog ok 66 [.yld 0,.ptr 1 0 0] [logO [] true,boxT t] (fun o st'=>∃ r b log',o=.ret r∧st'=[logO log' b,boxT t]∧(b=true→log'=spRows (spT t 0 1))):=by
 have hc:=treeWalk_full t hs ok 0 1 [] hok
 cases t with
 | mk id kind text kids =>
 refine full_of_awp good Tryd.func66 rfl (by kernel_rfl) (by decide) ?_
 conv=>whnf
 refine ⟨[0],false,?_⟩
 conv=>whnf
 refine hc.mono ?_
 rintro o st' ⟨b,log',rfl,rfl,hl⟩
 conv=>whnf
 refine ⟨[],false,?_⟩
 conv=>whnf
 exact ⟨_,b,log',rfl,rfl,hl⟩
theorem treeSpots_full (t:T):Full Tryd.prog noY 50 [.agg t.cells] [] (fun o st'=>o=.ret (.fn 66 [.ptr 0 0 0])∧st'=[boxT t]):=by
 cases t with
 | mk id kind text kids =>
 refine full_of_awp good Tryd.func50 rfl (by kernel_rfl) (by decide) ?_
 conv=>whnf
 refine ⟨[0],false,?_⟩
 conv=>whnf
 exact ⟨rfl,rfl⟩
end Go.Cod
set_option linter.all false
namespace Go.Cod
open Go Go.Proofs
set_option maxRecDepth 10000
def T.id:T→Int
 | .mk id _ _ _=>id
def T.thing:T→Bool
 | .mk id kind text _=>thingB id kind text
def idS (s:Sp):Int:=s.1.id
theorem T.thing_mk (id:Int) (kind text:List UInt8) (kids:List T):(T.mk id kind text kids).thing=thingB id kind text:=rfl
mutual
theorem spT_ids:∀ (t:T) (ov lv:Int),(spT t ov lv).map idS=t.ids
 | .mk id kind text kids,ov,lv=>by simp [spT,T.ids,spL_ids kids,idS,T.id]
theorem spL_ids:∀ (ts:List T) (ov lv:Int),(spL ts ov lv).map idS=T.idsL ts
 | [],_,_=>rfl
 | t::ts,ov,lv=>by simp [spL,T.idsL,spT_ids t,spL_ids ts]
end
mutual
theorem plainT_sp:∀ (t:T) (ov lv:Int),0≤lv→lv≤7→(plainT t lv=true↔∀ s∈spT t ov lv,s.2.2≤6∧s.1.thing=true)
 | .mk id kind text kids,ov,lv,h0,h7=>by
   have hw:IntKind.i64.wrap (lv+1)=lv+1:=wrap64 (by omega) (by omega)
   simp only [plainT,spT,hw,List.mem_cons,forall_eq_or_imp,T.thing_mk,thingB,Bool.and_eq_true]
   by_cases h6:lv≤6
   · rw [plainL_sp kids id (lv+1) (by omega) (by omega)]
     have:¬ 6 < lv:=by omega
     simp [this,h6,and_assoc]
   · have:6 < lv:=by omega
     simp [this,h6]
theorem plainL_sp:∀ (ts:List T) (ov lv:Int),0≤lv→lv≤7→(plainL ts lv=true↔∀ s∈spL ts ov lv,s.2.2≤6∧s.1.thing=true)
 | [],_,_,_,_=>by simp [plainL,spL]
 | t::ts,ov,lv,h0,h7=>by
   simp only [plainL,spL,Bool.and_eq_true,List.mem_append,plainT_sp t ov lv h0 h7,plainL_sp ts ov lv h0 h7]
   constructor
   · rintro ⟨a,b⟩ s (h | h)
     · exact a s h
     · exact b s h
   · intro h
     exact ⟨fun s hs=>h s (.inl hs),fun s hs=>h s (.inr hs)⟩
end
def AllOk (l:List Sp):Prop:=(∀ s∈l,s.2.2≤6∧s.1.thing=true)∧(l.map idS).Nodup∧l.length≤20
theorem AllOk.pre {a b:List Sp} (h:AllOk (a++b)):AllOk a:=by
 obtain ⟨h1,h2,h3⟩:=h
 refine ⟨fun s hs=>h1 s (by simp [hs]),?_,by simp at h3; omega⟩
 rw [List.map_append,List.nodup_append] at h2
 exact h2.1
theorem okT_iff (t:T):okT t=true↔AllOk (spT t 0 1):=by
 have h:=spT_ids t 0 1
 unfold okT AllOk
 rw [h]
 simp only [Bool.and_eq_true,decide_eq_true_eq,plainT_sp t 0 1 (by omega) (by omega),and_assoc]
 rw [← h,List.length_map]
theorem AllOk.snoc {l:List Sp} {s:Sp}:AllOk (l++[s])↔AllOk l∧s.2.2≤6∧s.1.thing=true∧idS s∉l.map idS∧l.length≠20:=by
 unfold AllOk
 simp only [List.mem_append,List.mem_singleton,List.map_append,List.map_cons,List.map_nil,List.nodup_append,List.length_append,List.length_singleton]
 constructor
 · rintro ⟨h1,⟨h2,_,h3⟩,h4⟩
   refine ⟨⟨fun s hs=>h1 s (.inl hs),h2,by omega⟩,(h1 s (.inr rfl)).1,(h1 s (.inr rfl)).2,fun hm=>h3 _ hm _ (by simp) rfl,by omega⟩
 · rintro ⟨⟨h1,h2,h4⟩,h5,h6,h7,h8⟩
   refine ⟨?_,⟨h2,by simp,?_⟩,by omega⟩
   · rintro s' (h | rfl)
     · exact h1 s' h
     · exact ⟨h5,h6⟩
   · intro a ha b hb e
     subst e; rw [hb] at ha; exact h7 ha
def seenRows (l:List Int):List (List V):=l.map fun i=>[.int .i64 i,.bool true]
theorem seenRows_len (l:List Int):(seenRows l).length=l.length:=by simp [seenRows]
theorem findRow_seen (l:List Int) (x:Int):findRow (.int .i64 x) (seenRows l)=if x∈l then some (.bool true) else none:=by
 induction l with
 | nil=>rfl
 | cons a l ih =>
   by_cases h:a=x
   · subst h; simp [seenRows,findRow,rowKey,keyEq,rowVal]
   · have:¬ x=a:=fun e=>h e.symm
     have e:findRow (.int .i64 x) ([.int .i64 a,.bool true]::seenRows l)=findRow (.int .i64 x) (seenRows l):=by
      show (if decide (a=x)=true then _ else _)=_
      rw [if_neg (by simpa using h)]
     refine e.trans (ih.trans ?_)
     simp [this]
theorem putRow_seen (l:List Int) (x:Int) (h:x∉l):putRow (.int .i64 x) (.bool true) (seenRows l)=seenRows (l++[x]):=by
 induction l with
 | nil=>rfl
 | cons a l ih =>
   simp only [List.mem_cons,not_or] at h
   simp only [seenRows,List.map_cons,List.cons_append] at ih ⊢
   have h':¬ a=x:=fun e=>h.1 e.symm
   simp only [putRow,rowKey,keyEq,h',decide_false,Bool.false_eq_true,if_false,ih h.2]
def okbT (t:T):OkY:=fun log vs=>∃ pre s suf,spT t 0 1=pre++s::suf∧log=spRows pre∧vs=[spV s]
theorem okbT_takes (t:T):Takes (okbT t) [] (spT t 0 1):=fun pre v suf e=>⟨pre,v,suf,e,by simp,rfl⟩
theorem spRows_len (l:List Sp):(spRows l).length=l.length:=by simp [spRows]
theorem implTreeOk_pure (t:T) (hs:t.Small) (hsps:∀ s∈spT t 0 1,s.1.Small):Pure Tryd.prog 31 [.agg t.cells] (·=.bool (okT t)):=by
 have hsp:=treeSpots_full t
 have hok:=okT_iff t
 have hcl:=treeSpots1_full t hs _ (okbT_takes t)
 have hbox:boxT t=⟨[t.cells],4,true,true,true,.cell⟩:=rfl
 generalize okT t=okt at *
 have hobt:okbT t=fun log vs=>∃ pre s suf,spT t 0 1=pre++s::suf∧log=spRows pre∧vs=[spV s]:=rfl
 generalize okbT t=okb at *
 generalize spT t 0 1=sps at *
 cases t with
 | mk id kind text kids =>
 refine pure_of_awp good Tryd.func31 rfl (by kernel_rfl) (by decide) ?_
 conv=>whnf
 refine .inr (.inl ⟨[],false,?_⟩)
 conv=>whnf
 refine hsp.mono ?_
 rintro o st' ⟨rfl,rfl⟩
 conv=>whnf
 refine ⟨[4],false,okb,fun log st'=>AllOk (sps.take log.length)∧st'=[⟨[(T.mk id kind text kids).cells],4,true,true,true,.cell⟩,⟨[[.bool false]],1,true,true,true,.cell⟩,⟨seenRows ((sps.take log.length).map idS),kindCode .i64,false,true,false,.map⟩,⟨[[.map 2]],1,true,true,true,.cell⟩,⟨[(T.mk id kind text kids).cells],4,false,true,true,.cell⟩],?_⟩
 conv=>whnf
 refine ⟨⟨⟨by simp,by simp,by simp⟩,rfl⟩,?_,?_⟩
 · rintro log vs st' ⟨hall,rfl⟩ ho
   rw [hobt] at ho
   obtain ⟨pre,s,suf,rfl,rfl,rfl⟩:=ho
   have htk:(pre++s::suf).take (spRows pre).length=pre:=by rw [spRows_len]; simp
   have htk1:(pre++s::suf).take (spRows pre++[[spV s]]).length=pre++[s]:=by rw [List.length_append,spRows_len]; show List.take (pre.length+1) _=_; rw [List.take_append,List.take_of_length_le (by omega)]; simp
   rw [htk] at hall ⊢
   refine ⟨rfl,?_⟩
   have hsn:=AllOk.snoc (l:=pre) (s:=s)
   have hno:¬ AllOk (pre++[s])→okt=false:=fun h=>by
    cases e:okt
    · rfl
    · exact absurd (AllOk.pre (b:=suf) (by simpa using hok.1 e)) h
   obtain ⟨⟨id',kind',text',kids'⟩,ov,lv⟩:=s
   simp only [T.thing_mk,idS,T.id] at hsn
   have hfr:=findRow_seen (pre.map idS) id'
   have hpr:=putRow_seen (pre.map idS) id'
   conv=>whnf
   by_cases a1:6 < lv
   · rw [ltB_t a1]
     conv=>whnf
     rw [hno fun h=>by have:lv≤6:=(hsn.1 h).2.1; omega]
   rw [ltB_f (show lv≤6 by omega)]
   conv=>whnf
   rw [seenRows_len,List.length_map]
   by_cases a2:pre.length=20
   · rw [eqB_t (by omega)]
     conv=>whnf
     rw [hno fun h=>by have:=(hsn.1 h).2.2.2.2; omega]
   rw [eqB_f (by omega)]
   conv=>whnf
   by_cases a3:id'∈pre.map idS
   · rw [if_pos a3] at hfr
     refine AtKey_intro _ hfr ?_
     conv=>whnf
     rw [hno fun h=>(hsn.1 h).2.2.2.1 a3]
   rw [if_neg a3] at hfr
   refine AtKey_intro _ hfr ?_
   conv=>whnf
   obtain ⟨b2,b3⟩:kind'.length≤1048576∧text'.length≤1048576:=by
    have h:=hsps (.mk id' kind' text' kids',ov,lv) (by simp)
    cases h
    exact ⟨by assumption,by assumption⟩
   refine .inl ((treeThingOk_pure id' kind' text' kids' (by omega) (by omega)).mono ?_)
   rintro r rfl
   cases a4:thingB id' kind' text'
   · conv=>whnf
     rw [hno fun h=>by have:=(hsn.1 h).2.2.1; rw [a4] at this; cases this]
   conv=>whnf
   refine ⟨some [0,1,2,3,4],?_⟩
   conv=>whnf
   have hall':AllOk (pre++[(.mk id' kind' text' kids',ov,lv)]):=hsn.2 ⟨hall,(show lv≤6 by omega),a4,a3,a2⟩
   have hpr:=hpr a3
   rw [htk1]
   refine ⟨hall',?_⟩
   have hse:seenRows ((pre++[((.mk id' kind' text' kids',ov,lv):Sp)]).map idS)=putRow (.int .i64 id') (.bool true) (seenRows (pre.map idS)):=by
    rw [hpr,List.map_append]; rfl
   rw [hse]
   rfl
 · refine hcl.mono ?_
   rintro o st' ⟨r,b,log',rfl,rfl,hl⟩
   refine ⟨_,_,_,rfl,rfl,fun hb st' hI=>?_⟩
   obtain ⟨hall,rfl⟩:=hI
   rw [hl hb,List.take_of_length_le (by rw [spRows_len]; omega)] at hall
   conv=>whnf
   rw [hok.2 hall]
end Go.Cod
set_option linter.all false
namespace Go.Cod
open Go Go.Proofs
set_option maxRecDepth 10000
mutual
theorem spT_small:∀ (t:T) (ov lv:Int),t.Small→∀ s∈spT t ov lv,s.1.Small
 | .mk id kind text kids,ov,lv,h=>by
   intro s hs
   rcases List.mem_cons.1 hs with rfl | hs
   · exact h
   · cases h with
     | mk g1 g2 g3 g4 g5=>exact spL_small kids _ _ g5 s hs
theorem spL_small:∀ (ts:List T) (ov lv:Int),(∀ t∈ts,t.Small)→∀ s∈spL ts ov lv,s.1.Small
 | [],_,_,_=>by simp [spL]
 | t::ts,ov,lv,h=>by
   intro s hs
   rcases List.mem_append.1 hs with hs | hs
   · exact spT_small t ov lv (h t (by simp)) s hs
   · exact spL_small ts ov lv (fun t ht=>h t (by simp [ht])) s hs
end
theorem implTreeOk (t:T) (hs:t.Small):Pure Tryd.prog 31 [.agg t.cells] (·=.bool (okT t)):=implTreeOk_pure t hs (spT_small t 0 1 hs)
end Go.Cod
set_option linter.all false
namespace Go.Cod
open Go Go.Proofs
set_option maxRecDepth 10000
end Go.Cod
set_option linter.all false
namespace Go.Cod
open Go Go.Proofs
set_option maxRecDepth 10000
end Go.Cod
set_option linter.all false
namespace Go.Cod
open Go Go.Proofs
set_option maxRecDepth 10000
inductive LT where
 | mk (id:Int) (kind text:List UInt8) (h:Option (Nat × Nat)) (kids:List LT)
def hdV:Option (Nat × Nat)→Nat→V
 | none,_=>.nils
 | some (b,c),n=>.dref b n c
def LT.cells:LT→List V
 | .mk id kind text h kids=>[.int .i64 id,.str kind,.str text,hdV h kids.length]
def LT.rows (ls:List LT):List (List V):=ls.map LT.cells
mutual
def LT.erase:LT→T
 | .mk id kind text _ kids=>.mk id kind text (LT.eraseL kids)
def LT.eraseL:List LT→List T
 | []=>[]
 | l::ls=>l.erase::LT.eraseL ls
end
def rootE:Option (Nat × Nat)→List LT→List (List V)
 | none,_=>[]
 | some (b,c),kids=>[ent b c 4 (LT.rows kids)]
mutual
def LT.ents:LT→List (List V)
 | .mk _ _ _ h kids=>LT.entsL kids++rootE h kids
def LT.entsL:List LT→List (List V)
 | []=>[]
 | l::ls=>l.ents++LT.entsL ls
end
mutual
def LT.Wf:LT→Prop
 | .mk _ _ _ h kids=>(h=none→kids=[])∧LT.WfL kids
def LT.WfL:List LT→Prop
 | []=>True
 | l::ls=>l.Wf∧LT.WfL ls
end
theorem LT.eraseL_eq (ls:List LT):LT.eraseL ls=ls.map LT.erase:=by
 induction ls with
 | nil=>rfl
 | cons l ls ih=>simp [LT.eraseL,ih]
theorem LT.entsL_eq (ls:List LT):LT.entsL ls=(ls.map LT.ents).flatten:=by
 induction ls with
 | nil=>rfl
 | cons l ls ih=>simp [LT.entsL,ih]
theorem LT.entsL_append (a b:List LT):LT.entsL (a++b)=LT.entsL a++LT.entsL b:=by simp [LT.entsL_eq]
theorem LT.WfL_iff (ls:List LT):LT.WfL ls↔∀ l∈ls,l.Wf:=by
 induction ls with
 | nil=>simp [LT.WfL]
 | cons l ls ih=>simp [LT.WfL,ih]
theorem LT.eraseL_len (ls:List LT):(LT.eraseL ls).length=ls.length:=by simp [LT.eraseL_eq]
theorem LT.rows_len (ls:List LT):(LT.rows ls).length=ls.length:=by simp [LT.rows]
theorem LT.cells_len (l:LT):l.cells.length=4:=by cases l; rfl
theorem T.cells_ok (t:T):V.clean.cleanL 0 t.cells=true∧∀ x∈t.cells,x.leaf=true:=by
 cases t with
 | mk id kind text kids=>exact ⟨rfl,by simp [T.cells,V.leaf]⟩
theorem T.rows_ok (ts:List T):V.clean.cleanLL 0 (T.rows ts)=true∧∀ e∈T.rows ts,∀ x∈e,x.leaf=true:=by
 rw [T.rows_eq]
 refine ⟨?_,fun e he=>?_⟩
 · rw [cleanLL_iff]
   intro e he
   obtain ⟨t,_,rfl⟩:=List.mem_map.1 he
   exact t.cells_ok.1
 · obtain ⟨t,_,rfl⟩:=List.mem_map.1 he
   exact t.cells_ok.2
mutual
theorem LT.view {es:List (List V)}:∀ (l:LT),l.Wf→(∀ e∈l.ents,e∈es)→ViewL es l.cells l.erase.cells
 | .mk id kind text h kids,hw,he=>by
   simp only [LT.Wf] at hw
   simp only [LT.ents,List.mem_append] at he
   have hk:=LT.viewL kids hw.2 (fun e h=>he e (.inl h))
   simp only [LT.cells,LT.erase,T.cells]
   refine ⟨rfl,fun i x y a b=>?_⟩
   match i,a,b with
   | 0,a,b=>simp at a b; subst a; subst b; exact .same _
   | 1,a,b=>simp at a b; subst a; subst b; exact .same _
   | 2,a,b=>simp at a b; subst a; subst b; exact .same _
   | 3,a,b =>
     simp at a b; subst a; subst b
     rcases h with _ | ⟨b,c⟩
     · rw [hw.1 rfl]; exact .nils
     · refine .dref (sz:=4) (rows:=LT.rows kids) (he _ (.inr (by simp [rootE]))) (LT.rows_len kids).symm (by rw [T.rows_eq,List.length_map,LT.eraseL_len,LT.rows_len]) (T.rows_ok _).1 (T.rows_ok _).2 (fun i r r' p q=>?_) (fun i r r' j x y p q u v=>?_)
       · simp only [LT.rows,List.getElem?_map,Option.map_eq_some_iff] at p
         obtain ⟨l,_,rfl⟩:=p
         rw [T.rows_eq,List.getElem?_map,Option.map_eq_some_iff] at q
         obtain ⟨t,_,rfl⟩:=q
         rw [LT.cells_len,_root_.Go.Cod.cells_len]
       · simp only [LT.rows,List.getElem?_map,Option.map_eq_some_iff] at p
         obtain ⟨l,hl,rfl⟩:=p
         rw [T.rows_eq,LT.eraseL_eq,List.map_map,List.getElem?_map,hl] at q
         simp only [Option.map_some,Option.some.injEq] at q
         subst q
         exact (hk l (List.mem_of_getElem? hl)).2 j x y u (by simpa [Function.comp] using v)
   | i+4,a,b=>simp at a
theorem LT.viewL {es:List (List V)}:∀ (ls:List LT),LT.WfL ls→(∀ e∈LT.entsL ls,e∈es)→∀ l∈ls,ViewL es l.cells l.erase.cells
 | [],_,_,l,h=>by simp at h
 | l::ls,hw,he,l',h=>by
   simp only [LT.WfL] at hw
   simp only [LT.entsL,List.mem_append] at he
   have h0:=LT.view l hw.1 fun e h=>he e (.inl h)
   rcases List.mem_cons.1 h with h | h
   · rw [h]; exact h0
   · exact LT.viewL ls hw.2 (fun e h=>he e (.inr h)) l' h
end
def lmix (ls:List LT) (n:Nat):List (List V):=LT.rows ls++List.replicate (n - ls.length) zrow
theorem lmix_get (ls:List LT) (n:Nat) (h:ls.length < n):(lmix ls n)[ls.length]? = some zrow:=by
 unfold lmix
 rw [List.getElem?_append_right (by rw [LT.rows_len]; exact Nat.le_refl _),LT.rows_len,Nat.sub_self,List.getElem?_replicate,if_pos (by omega)]
theorem lmix_set (ls:List LT) (n:Nat) (h:ls.length < n) (l:LT):(lmix ls n).set ls.length l.cells=lmix (ls++[l]) n:=by
 unfold lmix
 rw [List.set_append_right _ _ (by rw [LT.rows_len]; exact Nat.le_refl _),LT.rows_len,Nat.sub_self,show n - ls.length=(n - (ls++[l]).length)+1 by simp; omega,List.replicate_succ,List.set_cons_zero]
 simp [LT.rows]
theorem lmix_all (ls:List LT) (n:Nat) (h:ls.length=n):lmix ls n=LT.rows ls:=by
 unfold lmix
 rw [h,Nat.sub_self]; simp
def TreeAcc (t:T) (es:List (List V)) (o:Out) (st':St):Prop:=∃ b c ls,LT.eraseL ls=t.kids∧LT.WfL ls∧(∃ id kind text,t=.mk id kind text t.kids∧o=.ret (.agg [.int .i64 id,.str kind,.str text,.dref b ls.length c]))∧st'=[poolO (es++(LT.entsL ls++[ent b c 4 (LT.rows ls)]))]
theorem toTreeS_acc (ts:List T) (hl:ts.length≤1048576) (es:List (List V)) (hT:∀ t∈ts,∀ es,Full Tryd.prog noY 40 [.agg t.cells] [poolO es] (TreeAcc t es)) :
  Full Tryd.prog noY 58 [.sl (T.rows ts)] [poolO es] fun o st'=>∃ b c ls,LT.eraseL ls=ts∧LT.WfL ls∧o=.ret (.dref b ls.length c)∧st'=[poolO (es++(LT.entsL ls++[ent b c 4 (LT.rows ls)]))]:=by
 have hlr:=Go.Cod.rows_len ts
 refine Full.absorb (R:=fun o st'=>∃ ls,LT.eraseL ls=ts∧LT.WfL ls∧o=.ret (.own 1)∧st'=[poolO (es++LT.entsL ls),⟨LT.rows ls,4,true,true,false,.cell⟩]) ?_ ?_
 · refine full_of_awp good Tryd.func58 rfl (by kernel_rfl) (by decide) ?_
   conv=>whnf
   refine ⟨by omega,by omega,?_⟩
   conv=>whnf
   refine ⟨by show (Int.toNat _)*64≤_; omega,by omega,?_⟩
   conv=>whnf
   refine loop_drop (fun n fr st=>∃ ls:List LT,n+ls.length=ts.length∧LT.eraseL ls=ts.take ls.length∧LT.WfL ls∧st=[poolO (es++LT.entsL ls),⟨lmix ls ts.length,4,true,true,false,.cell⟩]∧Holds fr [(0,.sl (T.rows ts)),(3,.own 1),(4,.int .i64 ls.length)]) ts.length none
    ⟨[],rfl,rfl,trivial,by simp [lmix,hlr,zrow,V.cells,LT.entsL,LT.rows]; rfl,rfl,rfl,rfl,trivial⟩ ?_
   rintro n fr st ⟨ls,hi,her,hwf,rfl,hh⟩
   obtain ⟨fr,rfl⟩:=hh.split
   clear hh
   conv=>whnf
   by_cases hlt:ls.length < ts.length
   · rw [ltB_t (by omega)]
     conv=>whnf
     refine ⟨by omega,T.rows ts,ts[ls.length].cells,4,rfl,Go.Cod.rows_get ts ls.length hlt,rfl,Go.Cod.cells_len _,?_⟩
     have hc:=hT ts[ls.length] (List.getElem_mem _) (es++LT.entsL ls)
     have hm:=lmix_set ls ts.length hlt
     have hmg:=lmix_get ls ts.length hlt
     have htk:ts.take (ls.length+1)=ts.take ls.length++[ts[ls.length]]:=by rw [List.take_succ_eq_append_getElem hlt]
     generalize ts[ls.length]=t at hc hm htk
     cases t with
     | mk id kind text kids =>
     conv=>whnf
     refine .inr (.inl ⟨[0],false,?_⟩)
     conv=>whnf
     refine hc.mono ?_
     rintro o st' ⟨b,c,ks,hks,hkw,⟨id',kind',text',ht,rfl⟩,rfl⟩
     simp only [T.kids] at hks ht
     obtain ⟨rfl,rfl,rfl,_⟩:=T.mk.inj ht
     conv=>whnf
     refine ⟨by omega,lmix ls ts.length,zrow,4,rfl,hmg,rfl,rfl,?_⟩
     conv=>whnf
     refine AtRow_intro zrow hmg ?_
     conv=>whnf
     have hm':=hm (.mk id kind text (some (b,c)) ks)
     refine ⟨n - 1,by omega,none,ls++[.mk id kind text (some (b,c)) ks],by simp; omega,?_,?_,?_,rfl,rfl,?_,trivial⟩
     · rw [List.length_append,List.length_singleton,htk,LT.eraseL_eq,List.map_append,← LT.eraseL_eq,her]
       simp [LT.erase,hks]
     · rw [LT.WfL_iff] at hwf ⊢
       intro l hl
       rcases List.mem_append.1 hl with hl | hl
       · exact hwf l hl
       · simp at hl; subst hl; exact ⟨by simp,hkw⟩
     · rw [← hm',LT.entsL_append]
       simp only [LT.entsL,LT.ents,rootE,List.append_nil,List.append_assoc]
       rfl
     · show V.int .i64 (IntKind.i64.wrap (ls.length+1))=_
       rw [wrap64 (by omega) (by omega)]; simp
   · rw [ltB_f (by omega)]
     conv=>whnf
     have he:ls.length=ts.length:=by
      have:(LT.eraseL ls).length=(ts.take ls.length).length:=by rw [her]
      rw [LT.eraseL_len] at this; simp at this; omega
     refine ⟨[1],false,?_⟩
     conv=>whnf
     refine ⟨ls,?_,hwf,rfl,?_⟩
     · rw [her,he]; simp
     · rw [lmix_all _ _ he]; rfl
 · rintro o st' ⟨ls,h1,h2,rfl,rfl⟩
   refine ⟨.own 1,[poolO (es++LT.entsL ls)],0,es++LT.entsL ls,LT.rows ls,4,rfl,rfl,rfl,Nat.le_refl _,by simp [poolO],fun b c=>⟨rfl,b,c,ls,h1,h2,?_,?_⟩⟩
   · rw [LT.rows_len]; rfl
   · simp
theorem toTree_acc1 (t:T) (es:List (List V)) (hL:Full Tryd.prog noY 58 [.sl (T.rows t.kids)] [poolO es] fun o st'=>∃ b c ls,LT.eraseL ls=t.kids∧LT.WfL ls∧o=.ret (.dref b ls.length c)∧st'=[poolO (es++(LT.entsL ls++[ent b c 4 (LT.rows ls)]))]) :
  Full Tryd.prog noY 40 [.agg t.cells] [poolO es] (TreeAcc t es):=by
 cases t with
 | mk id kind text kids =>
 simp only [T.kids] at hL
 refine full_of_awp good Tryd.func40 rfl (by kernel_rfl) (by decide) ?_
 conv=>whnf
 refine .inr (.inl ⟨[0],false,?_⟩)
 conv=>whnf
 refine hL.mono ?_
 rintro o st' ⟨b,c,ls,h1,h2,rfl,rfl⟩
 conv=>whnf
 refine ⟨[],false,?_⟩
 conv=>whnf
 exact ⟨b,c,ls,h1,h2,⟨id,kind,text,rfl,rfl⟩,rfl⟩
theorem toTree_acc (t:T) (ht:t.Small):∀ es,Full Tryd.prog noY 40 [.agg t.cells] [poolO es] (TreeAcc t es):=by
 induction ht with
 | @mk id kind text kids g1 g2 g3 g4 g5 ih=>exact fun es=>toTree_acc1 _ es (toTreeS_acc kids g4 es ih)
end Go.Cod
set_option linter.all false
namespace Go.Cod
open Go Go.Proofs
set_option maxRecDepth 10000
end Go.Cod
set_option linter.all false
namespace Go.Cod
open Go Go.Proofs
set_option maxRecDepth 10000
mutual
def T.size:T→Nat
 | .mk _ _ _ kids=>1+T.sizeL kids
def T.sizeL:List T→Nat
 | []=>0
 | t::ts=>t.size+T.sizeL ts
end
end Go.Cod
set_option linter.all false
namespace Go.Cod
open Go Go.Proofs
set_option maxRecDepth 10000
end Go.Cod
set_option linter.all false
namespace Go.Cod
open Go Go.Proofs
set_option maxRecDepth 10000
def LT.kids:LT→List LT
 | .mk _ _ _ _ kids=>kids
end Go.Cod
set_option linter.all false
namespace Go.Cod
open Go Go.Proofs
set_option maxRecDepth 10000
end Go.Cod
set_option linter.all false
namespace Go.Cod
open Go Go.Proofs
set_option maxRecDepth 10000
end Go.Cod
set_option linter.all false
namespace Go.Cod
open Go Go.Proofs
set_option maxRecDepth 10000
end Go.Cod
set_option linter.all false
namespace Go.Cod
open Go Go.Proofs
set_option maxRecDepth 10000
theorem nodup_of_labs {es:List (List V)} (h:∀ (i j:Nat) e e',es[i]? = some e→es[j]? = some e'→labOf e=labOf e'→i=j):(es.map labOf).Nodup:=by
 induction es with
 | nil=>simp
 | cons e es ih =>
   rw [List.map_cons,List.nodup_cons]
   refine ⟨fun hm=>?_,ih fun i j a b h1 h2 h3=>?_⟩
   · obtain ⟨e',he',hl⟩:=List.mem_map.1 hm
     obtain ⟨j,hj⟩:=List.getElem?_of_mem he'
     have:=h 0 (j+1) e e' rfl (by simpa using hj) hl.symm
     omega
   · have:=h (i+1) (j+1) a b (by simpa using h1) (by simpa using h2) h3
     omega
theorem LabsOk.nodup {st:St} (h:LabsOk st) {k:Nat} {es:List (List V)} (hk:st[k]? = some (poolO es)):(es.map labOf).Nodup :=
 nodup_of_labs fun i j e e' h1 h2 h3=>(h k k _ _ i j e e' hk hk rfl rfl h1 h2 h3).2
mutual
theorem T.ids_size:∀ t:T,t.ids.length=t.size
 | .mk _ _ _ kids=>by simp [T.ids,T.size,T.idsL_size kids]; omega
theorem T.idsL_size:∀ ts:List T,(T.idsL ts).length=T.sizeL ts
 | []=>rfl
 | t::ts=>by simp [T.idsL,T.sizeL,T.ids_size t,T.idsL_size ts]
end
def T.kind:T→List UInt8
 | .mk _ kind _ _=>kind
def T.text:T→List UInt8
 | .mk _ _ text _=>text
end Go.Cod
set_option linter.all false
namespace Go.Cod
open Go Go.Proofs
set_option maxRecDepth 10000
end Go.Cod
set_option linter.all false
namespace Go.Cod
open Go Go.Proofs
set_option maxRecDepth 10000
end Go.Cod
set_option linter.all false
namespace Go.Cod
open Go Go.Proofs
set_option maxRecDepth 10000
end Go.Cod
set_option linter.all false
namespace Go.Cod
open Go Go.Proofs
set_option maxRecDepth 10000
end Go.Cod
set_option linter.all false
namespace Go.Cod
open Go Go.Proofs
set_option maxRecDepth 10000
end Go.Cod
set_option linter.all false
namespace Go.Cod
open Go Go.Proofs
set_option maxRecDepth 10000
end Go.Cod
set_option linter.all false
namespace Go.Cod
open Go Go.Proofs
set_option maxRecDepth 10000
end Go.Cod
set_option linter.all false
namespace Go.Cod
open Go Go.Proofs
set_option maxRecDepth 10000
end Go.Cod
set_option linter.all false
namespace Go.Cod
open Go Go.Proofs
set_option maxRecDepth 10000
end Go.Cod
set_option linter.all false
namespace Go.Cod
open Go Go.Proofs
set_option maxRecDepth 10000
end Go.Cod
set_option linter.all false
namespace Go.Cod
open Go Go.Proofs Go.ChangeShapes Go.WideShapes Go.ChangeAt Go.RowKit
set_option maxRecDepth 10000
end Go.Cod
set_option linter.all false
namespace Go.Cod
open Go Go.Proofs
set_option maxRecDepth 10000
end Go.Cod
set_option linter.all false
namespace Go.Cod
open Go Go.Proofs
set_option maxRecDepth 10000
end Go.Cod
set_option linter.all false
namespace Go.Cod
open Go Go.Proofs
set_option maxRecDepth 10000
end Go.Cod
set_option linter.all false
namespace Go.Cod
open Go Go.Proofs
set_option maxRecDepth 10000
end Go.Cod
set_option linter.all false
namespace Go.Cod
open Go Go.Proofs
set_option maxRecDepth 10000
def LT.id:LT→Int
 | .mk id _ _ _ _=>id
mutual
def LT.upd (x:Int) (f:LT→LT):LT→Option LT
 | .mk id kind text h kids=>if id=x then some (f (.mk id kind text h kids)) else match h with
   | none=>none
   | some p=>(LT.updL x f kids).map fun ks=>.mk id kind text (some p) ks
def LT.updL (x:Int) (f:LT→LT):List LT→Option (List LT)
 | []=>none
 | l::ls=>match LT.upd x f l with
   | some l'=>some (l'::ls)
   | none=>(LT.updL x f ls).map (l::·)
end
end Go.Cod
set_option linter.all false
namespace Go.Cod
open Go Go.Proofs
set_option maxRecDepth 10000
end Go.Cod
set_option linter.all false
namespace Go.Cod
open Go Go.Proofs
set_option maxRecDepth 10000
end Go.Cod
set_option linter.all false
namespace Go.Cod
open Go Go.Proofs
set_option maxRecDepth 10000
mutual
def T.mapAt (x:Int) (f:T→T):T→T
 | .mk id kind text kids=>if id=x then f (.mk id kind text kids) else .mk id kind text (T.mapAtL x f kids)
def T.mapAtL (x:Int) (f:T→T):List T→List T
 | []=>[]
 | t::ts=>T.mapAt x f t::T.mapAtL x f ts
end
mutual
def T.upd (x:Int) (f:T→T):T→Option T
 | .mk id kind text kids=>if id=x then some (f (.mk id kind text kids)) else (T.updL x f kids).map fun ks=>.mk id kind text ks
def T.updL (x:Int) (f:T→T):List T→Option (List T)
 | []=>none
 | t::ts=>match T.upd x f t with
   | some t'=>some (t'::ts)
   | none=>(T.updL x f ts).map (t::·)
end
theorem T.idsL_append (a b:List T):T.idsL (a++b)=T.idsL a++T.idsL b:=by
 induction a with
 | nil=>rfl
 | cons t a ih=>simp [T.idsL,ih]
structure Stp where
 kind:Int
 id:Int
 at_:Int
 node:T
 text:List UInt8
def Stp.cells (s:Stp):List V:=[.int .i64 s.kind,.int .i64 s.id,.int .i64 s.at_]++s.node.cells++[.str s.text]
def noneT:T→Bool
 | .mk id kind text kids=>decide (id=0)&&decide (kind=[])&&decide (text=[])&&decide (kids.length=0)
def bareT (s:Stp):Bool :=
 if s.kind=1 then decide (s.text=[]) else if s.kind=2 then noneT s.node&&decide (s.text=[])&&decide (s.at_=0) else noneT s.node&&decide (s.at_=0)
end Go.Cod
set_option linter.all false
namespace Go.Cod
open Go Go.Proofs
set_option maxRecDepth 10000
end Go.Cod
set_option linter.all false
namespace Go.Cod
open Go Go.Proofs
set_option maxRecDepth 10000
end Go.Cod
set_option linter.all false
namespace Go.Cod
open Go Go.Proofs
set_option maxRecDepth 10000
theorem bareT_none {kind sid at_:Int} {node:T} {text:List UInt8} {b:Bool} (hb:noneT node=b):bareT ⟨kind,sid,at_,node,text⟩=if kind=1 then decide (text=[]) else if kind=2 then b&&decide (text=[])&&decide (at_=0) else b&&decide (at_=0):=by
 unfold bareT
 simp only [hb]
set_option maxHeartbeats 4000000 in
theorem l4Bare_pure (s:Stp):Pure Tryd.prog 19 [.agg s.cells] (·=.bool (bareT s)):=by
 cases s with
 | mk kind sid at_ node text =>
 cases node with
 | mk nid nk nx nks =>
 have hl:((T.rows nks).length:Int)=(nks.length:Int):=by rw [Go.Cod.rows_len]
 refine pure_of_awp good Tryd.func19 rfl (by kernel_rfl) (by decide) ?_
 conv=>whnf
 by_cases h1:nid=0
 rotate_left
 rw [eqB_f h1]
 rw [bareT_none (b:=false) (by simp only [noneT]; simp [h1])]
 rotate_right
 rw [eqB_t h1]
 conv=>whnf
 by_cases h2:nk=[]
 rotate_left
 rw [eqS_f h2]
 rw [bareT_none (b:=false) (by simp only [noneT]; simp [h2])]
 rotate_right
 rw [eqS_t h2]
 conv=>whnf
 by_cases h3:nx=[]
 rotate_left
 rw [eqS_f h3]
 rw [bareT_none (b:=false) (by simp only [noneT]; simp [h3])]
 rotate_right
 rw [eqS_t h3]
 conv=>whnf
 by_cases h4:(T.rows nks).length=0
 rotate_left
 rw [eqB_f (show ((T.rows nks).length:Int)≠0 by omega)]
 rw [bareT_none (b:=false) (by simp only [noneT]; simp [h1,h2,h3]; intro e; subst e; exact h4 rfl)]
 rotate_right
 rw [eqB_t (show ((T.rows nks).length:Int)=0 by omega)]
 rw [bareT_none (b:=true) (by simp only [noneT]; simp [h1,h2,h3]; exact List.eq_nil_of_length_eq_zero (by omega))]
 all_goals
  conv=>whnf
  by_cases k1:kind=1
  · rw [eqB_t k1,if_pos k1]
    conv=>whnf
    exact congrArg V.bool (eqS_def _ _)
  · rw [eqB_f k1,if_neg k1]
    conv=>whnf
    by_cases k2:kind=2
    · rw [eqB_t k2,if_pos k2]
      conv=>whnf
      first
       | rfl
       | (by_cases k3:text=[]
          · rw [eqS_t k3]
            conv=>whnf
            refine congrArg V.bool ((eqB_def _ _).trans ?_)
            simp [k3]
          · rw [eqS_f k3]
            conv=>whnf
            simp [k3])
    · rw [eqB_f k2,if_neg k2]
      conv=>whnf
      first
       | rfl
       | (refine congrArg V.bool ((eqB_def _ _).trans ?_)
          simp)
end Go.Cod
set_option linter.all false
namespace Go.Cod
open Go Go.Proofs
set_option maxRecDepth 10000
end Go.Cod
set_option linter.all false
namespace Go.Cod
open Go Go.Proofs
set_option maxRecDepth 10000
end Go.Cod
set_option linter.all false
namespace Go.Cod
open Go Go.Proofs
set_option maxRecDepth 10000
end Go.Cod
set_option linter.all false
namespace Go.Cod
open Go Go.Proofs
set_option maxRecDepth 10000
end Go.Cod
set_option linter.all false
namespace Go.Cod
open Go Go.Proofs
set_option maxRecDepth 10000
end Go.Cod
set_option linter.all false
namespace Go.Cod
open Go Go.Proofs
set_option maxRecDepth 10000
end Go.Cod
set_option linter.all false
namespace Go.Cod
open Go Go.Proofs
set_option maxRecDepth 10000
end Go.Cod
set_option linter.all false
namespace Go.Cod
open Go Go.Proofs
set_option maxRecDepth 10000
def nothingT (s:Stp):Bool:=decide (s.at_=0)&&noneT s.node
set_option maxHeartbeats 4000000 in
theorem stepPutsNothing_pure (s:Stp):Pure Tryd.prog 32 [.agg s.cells] (·=.bool (nothingT s)):=by
 cases s with
 | mk kind sid at_ node text =>
 cases node with
 | mk nid nk nx nks =>
 have hl:((T.rows nks).length:Int)=(nks.length:Int):=by rw [Go.Cod.rows_len]
 show Pure Tryd.prog _ [.agg [.int .i64 kind,.int .i64 sid,.int .i64 at_,.int .i64 nid,.str nk,.str nx,.sl (T.rows nks),.str text]] _
 refine pure_of_awp good Tryd.func32 rfl (by kernel_rfl) (by decide) ?_
 conv=>whnf
 by_cases h0:at_=0
 rotate_left
 · rw [eqB_f h0]
   conv=>whnf
   simp [nothingT,h0]
 rw [eqB_t h0]
 conv=>whnf
 by_cases h1:nid=0
 rotate_left
 · rw [eqB_f h1]
   conv=>whnf
   simp [nothingT,noneT,h1]
 rw [eqB_t h1]
 conv=>whnf
 by_cases h2:nk=[]
 rotate_left
 · rw [eqS_f h2]
   conv=>whnf
   simp [nothingT,noneT,h2]
 rw [eqS_t h2]
 conv=>whnf
 by_cases h3:nx=[]
 rotate_left
 · rw [eqS_f h3]
   conv=>whnf
   simp [nothingT,noneT,h3]
 rw [eqS_t h3]
 conv=>whnf
 by_cases h4:nks.length=0
 · rw [eqB_t (show ((T.rows nks).length:Int)=0 by omega)]
   conv=>whnf
   simp only [nothingT,noneT,h0,h1,h2,h3,h4,decide_true,Bool.and_self]
 · rw [eqB_f (show ((T.rows nks).length:Int)≠0 by omega)]
   conv=>whnf
   simp only [nothingT,noneT,h0,h1,h2,h3,h4,decide_true,decide_false,Bool.and_self,Bool.and_false]
end Go.Cod
set_option linter.all false
namespace Go.Cod
open Go Go.Proofs
set_option maxRecDepth 10000
def deedV (s:Stp):V:=if s.kind=1 then .iface 80 (.agg ([.int .i64 s.id,.int .i64 s.at_]++s.node.cells)) else if s.kind=2 then .iface 82 (.agg [.int .i64 s.id]) else if s.kind=3 then .iface 84 (.agg [.int .i64 s.id,.str s.text])
 else if s.kind=4 then .iface 86 (.agg [.int .i64 s.id,.str s.text]) else .raw .nilIface
def deedOk (s:Stp):Bool:=if s.kind=1 then decide (s.text=[])&&okT s.node else if s.kind=2 then decide (s.text=[])&&nothingT s else if s.kind=3 then nothingT s else if s.kind=4 then nothingT s else false
set_option maxHeartbeats 4000000 in
theorem stepDeedOf_pure (s:Stp) (hs:s.node.Small):Pure Tryd.prog 15 [.agg s.cells] (·=.tup [deedV s,.bool (deedOk s)]):=by
 have f1:=implTreeOk s.node hs
 have f2:=stepPutsNothing_pure s
 have hv:deedV s=if s.kind=1 then .iface 80 (.agg ([.int .i64 s.id,.int .i64 s.at_]++s.node.cells)) else if s.kind=2 then .iface 82 (.agg [.int .i64 s.id]) else if s.kind=3 then .iface 84 (.agg [.int .i64 s.id,.str s.text])
  else if s.kind=4 then .iface 86 (.agg [.int .i64 s.id,.str s.text]) else .raw .nilIface:=rfl
 have hk:deedOk s=if s.kind=1 then decide (s.text=[])&&okT s.node else if s.kind=2 then decide (s.text=[])&&nothingT s else if s.kind=3 then nothingT s else if s.kind=4 then nothingT s else false:=rfl
 generalize deedV s=dv at *
 generalize deedOk s=dk at *
 generalize nothingT s=nt at *
 generalize okT s.node=ok at *
 simp only [Stp.cells] at f2 ⊢
 cases s with
 | mk kind sid at_ node text =>
 cases node with
 | mk nid nk nx nks =>
 simp only at hv hk f1 f2
 refine pure_of_awp good Tryd.func15 rfl (by kernel_rfl) (by decide) ?_
 conv=>whnf
 by_cases k1:kind=1
 · rw [if_pos k1] at hv hk
   rw [eqB_t k1]
   conv=>whnf
   by_cases h1:text=[]
   · rw [eqS_t h1]
     conv=>whnf
     refine ⟨_,.inl f1,?_⟩
     conv=>whnf
     rw [hv,hk,h1]
     cases ok <;> rfl
   · rw [eqS_f h1]
     conv=>whnf
     rw [hv,hk,show decide (text=[])=false by simpa using h1]
     rfl
 rw [if_neg k1] at hv hk
 rw [eqB_f k1]
 conv=>whnf
 by_cases k2:kind=2
 · rw [if_pos k2] at hv hk
   rw [eqB_t k2]
   conv=>whnf
   by_cases h1:text=[]
   · rw [eqS_t h1]
     conv=>whnf
     refine ⟨_,.inl f2,?_⟩
     conv=>whnf
     rw [hv,hk,h1]
     cases nt <;> rfl
   · rw [eqS_f h1]
     conv=>whnf
     rw [hv,hk,show decide (text=[])=false by simpa using h1]
     rfl
 rw [if_neg k2] at hv hk
 rw [eqB_f k2]
 conv=>whnf
 by_cases k3:kind=3
 · rw [if_pos k3] at hv hk
   rw [eqB_t k3]
   conv=>whnf
   refine ⟨_,.inl f2,?_⟩
   conv=>whnf
   rw [hv,hk]
   rfl
 rw [if_neg k3] at hv hk
 rw [eqB_f k3]
 conv=>whnf
 by_cases k4:kind=4
 · rw [if_pos k4] at hv hk
   rw [eqB_t k4]
   conv=>whnf
   refine ⟨_,.inl f2,?_⟩
   conv=>whnf
   rw [hv,hk]
   rfl
 rw [if_neg k4] at hv hk
 rw [eqB_f k4]
 conv=>whnf
 rw [hv,hk]
 rfl
end Go.Cod
set_option linter.all false
namespace Go.Cod
open Go Go.Proofs
set_option maxRecDepth 10000
end Go.Cod
set_option linter.all false
namespace Go.Cod
open Go Go.Proofs
set_option maxRecDepth 10000
end Go.Cod
set_option linter.all false
namespace Go.Cod
open Go Go.Proofs Go.ChangeShapes Go.WideShapes Go.ChangeAt Go.RowKit
set_option maxRecDepth 10000
structure Stp.Ok (s:Stp):Prop where
 k:-9223372036854775808≤s.kind∧s.kind≤9223372036854775807
 i:-9223372036854775808≤s.id∧s.id≤9223372036854775807
 a:-9223372036854775808≤s.at_∧s.at_≤9223372036854775807
 n:s.node.Ok
 t:s.text.length≤maxLen
theorem reads_step {H:Type} {enc:TypeId × Value→H} {w:World} (n:Nat):Reads enc Tryd.prog w n 67 fun vs=>∃ s:Stp,vs=s.cells∧s.Ok:=by
 have hS:=reads_struct (enc:=enc) (P:=Tryd.prog) (w:=w) (n:=n) (t:=67)
  (Ss:=[fun vs=>∃ i,vs=[.int .i64 i]∧IntKind.i64.min≤i∧i≤IntKind.i64.max,fun vs=>∃ i,vs=[.int .i64 i]∧IntKind.i64.min≤i∧i≤IntKind.i64.max,fun vs=>∃ i,vs=[.int .i64 i]∧IntKind.i64.min≤i∧i≤IntKind.i64.max,
    fun vs=>∃ t:T,vs=t.cells∧t.Ok,fun vs=>∃ s,vs=[.str s]∧s.length≤maxLen])
  kids (by decide +kernel) Tryd.underlying67 rfl ?_
 · intro cs x h
   obtain ⟨vs,⟨_,_,rfl,⟨i,rfl,hi⟩,_,_,rfl,⟨j,rfl,hj⟩,_,_,rfl,⟨a,rfl,ha⟩,_,_,rfl,⟨t,rfl,ht⟩,_,_,rfl,⟨s,rfl,hs⟩,rfl⟩,h2⟩:=hS cs x h
   exact ⟨_,⟨⟨i,j,a,t,s⟩,by simp [Stp.cells],⟨hi,hj,ha,ht,hs⟩⟩,h2⟩
 · intro m hm j f S h1 h2
   match j with
   | 0=>simp at h1 h2; subst h1 h2; exact reads_int Tryd.underlying3
   | 1=>simp at h1 h2; subst h1 h2; exact reads_int Tryd.underlying3
   | 2=>simp at h1 h2; subst h1 h2; exact reads_int Tryd.underlying3
   | 3=>simp at h1 h2; subst h1 h2; exact reads_tree m
   | 4=>simp at h1 h2; subst h1 h2; exact reads_str Tryd.underlying9
   | j+5=>simp at h1
def szStp (s:Stp) (left:Int):Int:=if szT s.node left < 0 then -1 else if szT s.node left - s.text.length < 0 then -1 else szT s.node left - s.text.length
theorem szStep_pure (s:Stp) (hs:s.Ok) (left:Int) (h0:0≤left) (h1:left≤4611686018427387904):Pure Tryd.prog 24 [.agg s.cells,.int .i64 left] (·=.int .i64 (szStp s left)):=by
 have f1:=szT_pure s.node hs.n left h0 h1
 have f2:=szT_le s.node left h0
 have ht:=hs.t
 simp only [maxLen] at ht
 have hd:szStp s left=if szT s.node left < 0 then -1 else if szT s.node left - s.text.length < 0 then -1 else szT s.node left - s.text.length:=rfl
 generalize szStp s left=r at *
 generalize szT s.node left=l at *
 simp only [Stp.cells]
 cases s with
 | mk kind sid at_ node text =>
 cases node with
 | mk nid nk nx nks =>
 simp only at f1 ht hd
 show Pure Tryd.prog _ [.agg [.int .i64 kind,.int .i64 sid,.int .i64 at_,.int .i64 nid,.str nk,.str nx,.sl (T.rows nks),.str text],.int .i64 left] _
 refine pure_of_awp good Tryd.func24 rfl (by kernel_rfl) (by decide) ?_
 conv=>whnf
 refine .inl (f1.mono ?_)
 rintro r rfl
 conv=>whnf
 by_cases a1:l < 0
 · rw [ltB_t a1]
   conv=>whnf
   rw [hd,if_pos a1]
 rw [ltB_f (by omega)]
 conv=>whnf
 rw [wrap64 (by omega) (by omega)]
 by_cases a2:l - text.length < 0
 · rw [ltB_t a2]
   conv=>whnf
   rw [hd,if_neg a1,if_pos a2]
 rw [ltB_f (by omega)]
 conv=>whnf
 rw [hd,if_neg a1,if_neg a2]
theorem szStp_le (s:Stp) (left:Int) (h:0≤left):szStp s left≤left∧-1≤szStp s left:=by
 have:=szT_le s.node left h
 unfold szStp
 split
 · omega
 split <;> omega
theorem stp_small (s:Stp) (hs:s.Ok) (left:Int) (h1:left≤1048576) (h0:0≤left) (h:0≤szStp s left):s.node.Small∧s.text.length≤1048576∧s.node.size≤1048577:=by
 have hle:=szT_le s.node left h0
 unfold szStp at h
 split at h
 · omega
 split at h
 · omega
 have hz:=ids_sz s.node left (by omega)
 rw [T.ids_size] at hz
 exact ⟨small_of_sz s.node hs.n left h1 (by omega),by omega,by omega⟩
theorem sneq_refl (a:Int):negB (eqB a a)=false:=by rw [eqB_refl]; rfl
theorem sneqS_refl (a:List UInt8):negB (eqS a a)=false:=by rw [eqS_refl]; rfl
theorem eqStep_pure (s:Stp) (hs:s.node.Small):Pure Tryd.prog 26 [.agg s.cells,.agg s.cells] (·=.bool true):=by
 have f1:=eqTree_pure s.node hs
 simp only [Stp.cells]
 cases s with
 | mk kind sid at_ node text =>
 cases node with
 | mk nid nk nx nks =>
 show Pure Tryd.prog _ [.agg [.int .i64 kind,.int .i64 sid,.int .i64 at_,.int .i64 nid,.str nk,.str nx,.sl (T.rows nks),.str text],.agg [.int .i64 kind,.int .i64 sid,.int .i64 at_,.int .i64 nid,.str nk,.str nx,.sl (T.rows nks),.str text]] _
 refine pure_of_awp good Tryd.func26 rfl (by kernel_rfl) (by decide) ?_
 conv=>whnf
 rw [sneq_refl]
 conv=>whnf
 rw [sneq_refl]
 conv=>whnf
 rw [sneq_refl]
 conv=>whnf
 refine .inl (f1.mono ?_)
 rintro r rfl
 conv=>whnf
 rw [sneqS_refl]
 conv=>whnf
def stpC (s:Stp) (l:LT):List V:=[.int .i64 s.kind,.int .i64 s.id,.int .i64 s.at_]++l.cells++[.str s.text]
theorem stp_view (s:Stp) (l:LT) (hl:l.erase=s.node) (hw:l.Wf) {es:List (List V)} (he:∀ e∈l.ents,e∈es):View es (.agg (stpC s l)) (.agg s.cells):=by
 have hv:=l.view hw he
 rw [hl] at hv
 obtain ⟨kind,sid,at_,node,text⟩:=s
 simp only at hv
 cases node with
 | mk nid nk nx nks =>
 cases l with
 | mk a b c d e =>
 refine .agg rfl fun i x y h1 h2=>?_
 match i,h1,h2 with
 | 0,h1,h2=>cases h1; cases h2; exact .same _
 | 1,h1,h2=>cases h1; cases h2; exact .same _
 | 2,h1,h2=>cases h1; cases h2; exact .same _
 | 3,h1,h2=>exact hv.2 0 x y h1 h2
 | 4,h1,h2=>exact hv.2 1 x y h1 h2
 | 5,h1,h2=>exact hv.2 2 x y h1 h2
 | 6,h1,h2=>exact hv.2 3 x y h1 h2
 | 7,h1,h2=>cases h1; cases h2; exact .same _
 | i+8,h1,h2=>simp [stpC,LT.cells] at h1
end Go.Cod
set_option linter.all false
namespace Go.Cod
open Go Go.Proofs Go.ChangeShapes Go.WideShapes Go.ChangeAt Go.RowKit
set_option maxRecDepth 10000
end Go.Cod
set_option linter.all false
namespace Go.Cod
open Go Go.Proofs Go.ChangeShapes Go.WideShapes Go.ChangeAt Go.RowKit
set_option maxRecDepth 10000
end Go.Cod
set_option linter.all false
namespace Go.Cod
open Go Go.Proofs Go.ChangeShapes Go.WideShapes Go.ChangeAt Go.RowKit
set_option maxRecDepth 10000
end Go.Cod
set_option linter.all false
namespace Go.Cod
open Go Go.Proofs
set_option maxRecDepth 10000
mutual
def T.hd:T→List (Int × List UInt8 × List UInt8)
 | .mk id kind text kids=>(id,kind,text)::T.hdL kids
def T.hdL:List T→List (Int × List UInt8 × List UInt8)
 | []=>[]
 | t::ts=>t.hd++T.hdL ts
end
end Go.Cod
set_option linter.all false
namespace Go.Cod
open Go Go.Proofs
set_option maxRecDepth 10000
def prows (ls:List Stp):List (List V):=ls.map Stp.cells
theorem prows_len (ls:List Stp):(prows ls).length=ls.length:=by simp [prows]
theorem prows_get (ls:List Stp) (i:Nat) (h:i < ls.length):(prows ls)[i]? = some ls[i].cells:=by simp [prows,h]
def Stp.Sm (s:Stp):Prop:=s.node.Small∧s.node.size≤1048577∧s.text.length≤1048576
end Go.Cod
set_option linter.all false
namespace Go.Cod
open Go Go.Proofs
set_option maxRecDepth 10000
end Go.Cod
set_option linter.all false
namespace Go.Cod
open Go Go.Proofs
set_option maxRecDepth 10000
end Go.Cod
set_option linter.all false
namespace Go.Cod
open Go Go.Proofs
set_option maxRecDepth 10000
end Go.Cod
set_option linter.all false
namespace Go.Cod
open Go Go.Proofs
set_option maxRecDepth 10000
end Go.Cod
set_option linter.all false
namespace Go.Cod
open Go Go.Proofs
set_option maxRecDepth 10000
end Go.Cod
set_option linter.all false
namespace Go.Cod
open Go Go.Proofs
set_option maxRecDepth 10000
end Go.Cod
set_option linter.all false
namespace Go.Cod
open Go Go.Proofs
set_option maxRecDepth 10000
end Go.Cod
set_option linter.all false
namespace Go.Cod
open Go Go.Proofs
set_option maxRecDepth 10000
end Go.Cod
set_option linter.all false
namespace Go.Cod
open Go Go.Proofs
set_option maxRecDepth 10000
end Go.Cod
set_option linter.all false
namespace Go.Cod
open Go Go.Proofs
set_option maxRecDepth 10000
end Go.Cod
set_option linter.all false
namespace Go.Cod
open Go Go.Proofs
set_option maxRecDepth 10000
end Go.Cod
set_option linter.all false
namespace Go.Cod
open Go Go.Proofs
set_option maxRecDepth 10000
end Go.Cod
set_option linter.all false
namespace Go.Cod
open Go Go.Proofs Go.ChangeShapes Go.WideShapes Go.ChangeAt Go.RowKit
set_option maxRecDepth 10000
end Go.Cod
set_option linter.all false
namespace Go.Cod
open Go Go.Proofs Go.ChangeShapes Go.WideShapes Go.ChangeAt Go.RowKit
set_option maxRecDepth 10000
theorem cells_list:∀ (es:List (List V)),(∀ r∈es,∃ s:Stp,r=s.cells∧s.Ok)→∃ ls:List Stp,es=prows ls∧∀ s∈ls,s.Ok
 | [],_=>⟨[],rfl,fun s h=>by cases h⟩
 | r::rs,h=>by
   obtain ⟨s,rfl,hs⟩:=h r (by simp)
   obtain ⟨ls,rfl,hl⟩:=cells_list rs fun r hr=>h r (List.mem_cons_of_mem _ hr)
   refine ⟨s::ls,rfl,fun u hu=>?_⟩
   rcases List.mem_cons.1 hu with rfl | hu
   · exact hs
   · exact hl u hu
theorem argSteps {H:Type} {enc:TypeId × Value→H} {W:World}:ReadsA enc Tryd.prog W 32 fun x=>∃ ls:List Stp,x=.sl (prows ls)∧(∀ s∈ls,s.Ok)∧ls.length≤maxLen:=by
 intro base v d p hv h
 obtain ⟨x,⟨es,hx,hl,hr⟩,hrep⟩:=readsA_slice (S:=fun vs=>∃ es,vs=[.sl es]∧es.length≤maxLen∧∀ r∈es,(∃ s:Stp,r=s.cells∧s.Ok)∧r.length=Tryd.prog.cellsOf 67∧(∀ v∈r,v.leaf=true)∧V.clean.cleanL 0 r=true)
  Tryd.underlying32 (fun n=>reads_slice Tryd.underlying32 (by decide +kernel) fun m _=>reads_step m) base v d p hv h
 cases hx
 obtain ⟨ls,rfl,hs⟩:=cells_list es fun r h=>(hr r h).1
 exact ⟨_,⟨ls,rfl,hs,by rw [prows_len] at hl; exact hl⟩,hrep⟩
def szSg:List Stp→Int→Int
 | [],l=>l
 | s::ls,l=>if szStp s l < 0 then -1 else szSg ls (szStp s l)
def szLs (ls:List Stp) (left:Int):Int:=if left - ls.length < 0 then -1 else szSg ls (left - ls.length)
theorem szSg_drop (ls:List Stp) (i:Nat) (h:i < ls.length) (l:Int):szSg (ls.drop i) l=if szStp ls[i] l < 0 then -1 else szSg (ls.drop (i+1)) (szStp ls[i] l):=by
 rw [List.drop_eq_getElem_cons h]; rfl
theorem szSg_small:∀ (ls:List Stp) (l:Int),(∀ s∈ls,s.Ok)→0≤l→l≤1048576→0≤szSg ls l→∀ s∈ls,s.Sm
 | [],_,_,_,_,_=>fun s h=>by cases h
 | s::ls,l,ho,h0,h1,h=>by
   simp only [szSg] at h
   split at h
   · omega
   rename_i hn
   have hle:=szStp_le s l h0
   have hs:=stp_small s (ho s (by simp)) l h1 h0 (by omega)
   intro u hu
   rcases List.mem_cons.1 hu with rfl | hu
   · exact ⟨hs.1,hs.2.2,hs.2.1⟩
   · exact szSg_small ls (szStp s l) (fun u hu=>ho u (List.mem_cons_of_mem _ hu)) (by omega) (by omega) h u hu
theorem szLs_small (ls:List Stp) (left:Int) (ho:∀ s∈ls,s.Ok) (h1:left≤1048576) (h:0≤szLs ls left):(∀ s∈ls,s.Sm)∧ls.length≤1048576:=by
 unfold szLs at h
 split at h
 · omega
 exact ⟨szSg_small ls _ ho (by omega) (by omega) h,by omega⟩
set_option maxHeartbeats 4000000 in
theorem szSteps_pure (ls:List Stp) (ho:∀ s∈ls,s.Ok) (hl:ls.length≤maxLen) (left:Int) (h0:0≤left) (h1:left≤1048576):Pure Tryd.prog 8 [.sl (prows ls),.int .i64 left] (·=.int .i64 (szLs ls left)):=by
 have hlen:=prows_len ls
 have hget:=prows_get ls
 have hd:szLs ls left=if left - ls.length < 0 then -1 else szSg (ls.drop 0) (left - ls.length):=rfl
 have hml:(ls.length:Int)≤9223372036854775807:=by simp only [maxLen] at hl; omega
 have hml2:ls.length < 9223372036854775807∨left - ls.length < 0:=by omega
 generalize szLs ls left=res at *
 generalize prows ls=rows at *
 refine pure_of_awp good Tryd.func8 rfl (by kernel_rfl) (by decide) ?_
 conv=>whnf
 rw [hlen,wrap64 (by omega) (by omega)]
 by_cases a1:left - ls.length < 0
 · rw [ltB_t a1]
   conv=>whnf
   rw [hd,if_pos a1]
 rw [ltB_f (by omega)]
 conv=>whnf
 rw [if_neg a1] at hd
 refine loop_intro (fun n fr st=>∃ (i:Nat) (l:Int),n+i=ls.length∧0≤l∧l≤1048576∧res=szSg (ls.drop i) l∧st=[]∧Holds fr [(0,.sl rows),(1,.int .i64 l),(5,.int .i64 i)]) ls.length
  ⟨0,_,rfl,by omega,by omega,hd,rfl,rfl,rfl,rfl,trivial⟩ ?_
 rintro n fr st ⟨i,l,hi,l0,l1,hr,rfl,hh⟩
 obtain ⟨fr,rfl⟩:=hh.split
 clear hh
 conv=>whnf
 by_cases hlt:i < ls.length
 · rw [hlen,ltB_t (by omega)]
   have hg:=hget i hlt
   have hs:=szSg_drop ls i hlt l
   have f1:=szStep_pure ls[i] (ho _ (List.getElem_mem _)) l l0 (by omega)
   have hle:=szStp_le ls[i] l l0
   generalize ls[i]=s at *
   generalize szStp s l=l' at *
   obtain ⟨ak,ai,aa,⟨a1,a2,a3,a4⟩,a5⟩:=s
   conv=>whnf
   refine ⟨by omega,rows,_,8,rfl,hg,rfl,rfl,?_⟩
   conv=>whnf
   refine .inl (f1.mono ?_)
   rintro r rfl
   conv=>whnf
   by_cases a2:l' < 0
   · rw [ltB_t a2]
     conv=>whnf
     rw [hr,hs,if_pos a2]
   rw [ltB_f (by omega)]
   conv=>whnf
   rw [if_neg a2] at hs
   refine ⟨n - 1,by omega,i+1,l',by omega,by omega,by omega,hr.trans hs,rfl,rfl,rfl,?_,trivial⟩
   show V.int .i64 (IntKind.i64.wrap (i+1))=_
   rw [wrap64 (by omega) (by omega)]; simp
 · rw [hlen,ltB_f (by omega)]
   conv=>whnf
   rw [hr,List.drop_of_length_le (by omega)]
   rfl
set_option maxHeartbeats 4000000 in
theorem eqSteps_pure (ls:List Stp) (hs:∀ s∈ls,s.node.Small) (hl:ls.length≤1048576):Pure Tryd.prog 10 [.sl (prows ls),.sl (prows ls)] (·=.bool true):=by
 have hlen:=prows_len ls
 have hget:=prows_get ls
 generalize prows ls=rows at *
 refine pure_of_awp good Tryd.func10 rfl (by kernel_rfl) (by decide) ?_
 conv=>whnf
 rw [eqB_refl]
 conv=>whnf
 refine loop_intro (fun n fr st=>∃ i:Nat,n+i=ls.length∧st=[]∧Holds fr [(0,.sl rows),(1,.sl rows),(5,.int .i64 i)]) ls.length
  ⟨0,rfl,rfl,rfl,rfl,rfl,trivial⟩ ?_
 rintro n fr st ⟨i,hi,rfl,hh⟩
 obtain ⟨fr,rfl⟩:=hh.split
 clear hh
 conv=>whnf
 by_cases hlt:i < ls.length
 · rw [hlen,ltB_t (by omega)]
   have hg:=hget i hlt
   have ws:=eqStep_pure ls[i] (hs _ (List.getElem_mem _))
   generalize ls[i]=s at *
   obtain ⟨ak,ai,aa,⟨a1,a2,a3,a4⟩,a5⟩:=s
   conv=>whnf
   repeat (first
    | (refine ⟨by omega,rows,_,8,rfl,hg,rfl,rfl,?_⟩
       conv=>whnf)
    | (refine ⟨_,.inl ws,?_⟩
       conv=>whnf))
   refine ⟨n - 1,by omega,i+1,by omega,rfl,rfl,rfl,?_,trivial⟩
   · show V.int .i64 (IntKind.i64.wrap (i+1))=_
     rw [wrap64 (by omega) (by omega)]; simp
 · rw [hlen,ltB_f (by omega)]
   conv=>whnf
end Go.Cod
set_option linter.all false
namespace Go.Cod
open Go Go.Proofs
set_option maxRecDepth 10000
abbrev SL:=Stp × LT
def slC (p:SL):List V:=stpC p.1 p.2
def slRows (ps:List SL):List (List V):=ps.map slC
def slEnts (ps:List SL):List (List V):=LT.entsL (ps.map (·.2))
def SlOk (ps:List SL):Prop:=∀ p∈ps,p.2.erase=p.1.node∧p.2.Wf
def srow:List V:=[.int .i64 0,.int .i64 0,.int .i64 0,.int .i64 0,.str [],.str [],.nils,.str []]
def smix (ps:List SL) (n:Nat):List (List V):=slRows ps++List.replicate (n - ps.length) srow
theorem slRows_len (ps:List SL):(slRows ps).length=ps.length:=by simp [slRows]
theorem slRows_get (ps:List SL) (i:Nat) (h:i < ps.length):(slRows ps)[i]? = some (slC ps[i]):=by simp [slRows,h]
theorem smix_get (ps:List SL) (n:Nat) (h:ps.length < n):(smix ps n)[ps.length]? = some srow:=by
 unfold smix
 rw [List.getElem?_append_right (by rw [slRows_len]; exact Nat.le_refl _),slRows_len,Nat.sub_self,List.getElem?_replicate,if_pos (by omega)]
theorem smix_set (ps:List SL) (n:Nat) (h:ps.length < n) (p:SL):(smix ps n).set ps.length (slC p)=smix (ps++[p]) n:=by
 unfold smix
 rw [List.set_append_right _ _ (by rw [slRows_len]; exact Nat.le_refl _),slRows_len,Nat.sub_self,show n - ps.length=(n - (ps++[p]).length)+1 by simp; omega,List.replicate_succ,List.set_cons_zero]
 simp [slRows]
theorem smix_all (ps:List SL) (n:Nat) (h:ps.length=n):smix ps n=slRows ps:=by
 unfold smix
 rw [h,Nat.sub_self]; simp
theorem toStep_acc (s:Stp) (hs:s.node.Small) (es:List (List V)):Full Tryd.prog noY 25 [.agg s.cells] [poolO es] fun o st'=>∃ l:LT,l.erase=s.node∧l.Wf∧o=.ret (.agg (stpC s l))∧st'=[poolO (es++l.ents)]:=by
 have f1:=toTree_acc s.node hs es
 simp only [Stp.cells]
 obtain ⟨kind,sid,at_,⟨nid,nk,nx,nks⟩,text⟩:=s
 show Full Tryd.prog noY _ [.agg [.int .i64 kind,.int .i64 sid,.int .i64 at_,.int .i64 nid,.str nk,.str nx,.sl (T.rows nks),.str text]] [poolO es] _
 refine full_of_awp good Tryd.func25 rfl (by kernel_rfl) (by decide) ?_
 conv=>whnf
 refine .inr (.inl ⟨[0],true,?_⟩)
 conv=>whnf
 refine f1.mono ?_
 rintro o st' ⟨b,c,ls,h1,h2,⟨id,kd,tx,h3,rfl⟩,rfl⟩
 simp only [T.kids] at h1 h3
 obtain ⟨rfl,rfl,rfl,_⟩:=T.mk.inj h3
 conv=>whnf
 refine ⟨[],true,?_⟩
 conv=>whnf
 exact ⟨.mk nid nk nx (some (b,c)) ls,by simp [LT.erase,h1],⟨by simp,h2⟩,rfl,rfl⟩
set_option maxHeartbeats 4000000 in
theorem toSteps_acc (ss:List Stp) (hl:ss.length≤1048576) (hs:∀ s∈ss,s.node.Small) (es:List (List V)) :
  Full Tryd.prog noY 9 [.sl (prows ss)] [poolO es] fun o st'=>∃ (b c:Nat) (ps:List SL),ps.map (·.1)=ss∧SlOk ps∧o=.ret (.dref b ps.length c)∧st'=[poolO (es++(slEnts ps++[ent b c 8 (slRows ps)]))]:=by
 have hlr:=prows_len ss
 have hgr:=prows_get ss
 generalize prows ss=rows at *
 refine Full.absorb (R:=fun o st'=>∃ ps:List SL,ps.map (·.1)=ss∧SlOk ps∧o=.ret (.own 1)∧st'=[poolO (es++slEnts ps),⟨slRows ps,8,true,true,false,.cell⟩]) ?_ ?_
 · refine full_of_awp good Tryd.func9 rfl (by kernel_rfl) (by decide) ?_
   conv=>whnf
   refine ⟨by omega,by omega,?_⟩
   conv=>whnf
   refine ⟨by show (Int.toNat _)*104≤_; omega,by omega,?_⟩
   conv=>whnf
   refine loop_drop (fun n fr st=>∃ ps:List SL,n+ps.length=ss.length∧ps.map (·.1)=ss.take ps.length∧SlOk ps∧st=[poolO (es++slEnts ps),⟨smix ps ss.length,8,true,true,false,.cell⟩]∧Holds fr [(0,.sl rows),(3,.own 1),(4,.int .i64 ps.length)]) ss.length none
    ⟨[],rfl,rfl,fun p h=>(by cases h),by simp [smix,hlr,srow,V.cells,LT.entsL,slRows,slEnts]; rfl,rfl,rfl,rfl,trivial⟩ ?_
   rintro n fr st ⟨ps,hi,her,hok,rfl,hh⟩
   obtain ⟨fr,rfl⟩:=hh.split
   clear hh
   conv=>whnf
   by_cases hlt:ps.length < ss.length
   · rw [hlr,ltB_t (by omega)]
     have hg:=hgr ps.length hlt
     have hc:=toStep_acc ss[ps.length] (hs _ (List.getElem_mem _)) (es++slEnts ps)
     have hm:=smix_set ps ss.length hlt
     have hmg:=smix_get ps ss.length hlt
     have htk:ss.take (ps.length+1)=ss.take ps.length++[ss[ps.length]]:=by rw [List.take_succ_eq_append_getElem hlt]
     generalize ss[ps.length]=s at *
     obtain ⟨ak,ai,aa,⟨a1,a2,a3,a4⟩,a5⟩:=s
     conv=>whnf
     refine ⟨by omega,rows,_,8,rfl,hg,rfl,rfl,?_⟩
     conv=>whnf
     refine .inr (.inl ⟨[0],true,?_⟩)
     conv=>whnf
     refine hc.mono ?_
     rintro o st' ⟨l,h1,h2,rfl,rfl⟩
     obtain ⟨p0,hp0⟩:∃ p:SL,p=(⟨ak,ai,aa,.mk a1 a2 a3 a4,a5⟩,l):=⟨_,rfl⟩
     have hm':=hm p0
     have e1:p0.2.erase=p0.1.node∧p0.2.Wf:=by rw [hp0]; exact ⟨h1,h2⟩
     have e2:p0.1=⟨ak,ai,aa,.mk a1 a2 a3 a4,a5⟩:=by rw [hp0]
     have e3:es++slEnts ps++l.ents=es++slEnts (ps++[p0]):=by
      rw [hp0]
      simp only [slEnts,List.map_append,LT.entsL_append,List.map_cons,List.map_nil,LT.entsL,List.append_nil,List.append_assoc]
     have e4:slC p0=stpC ⟨ak,ai,aa,.mk a1 a2 a3 a4,a5⟩ l:=by rw [hp0]; rfl
     rw [e4] at hm'
     rw [e3]
     clear h1 h2 hp0 e3 e4
     obtain ⟨li,lk,lx,lh,lks⟩:=l
     rcases lh with _ | ⟨lb,lc⟩
     all_goals
      conv=>whnf
      refine ⟨by omega,smix ps ss.length,srow,8,rfl,hmg,rfl,rfl,?_⟩
      conv=>whnf
      refine AtRow_intro srow hmg ?_
      conv=>whnf
      refine ⟨n - 1,by omega,none,ps++[p0],by simp; omega,?_,?_,?_,rfl,rfl,?_,trivial⟩
      · rw [List.length_append,List.length_singleton,htk,List.map_append,her,List.map_singleton,e2]
      · intro p hp
        rcases List.mem_append.1 hp with hp | hp
        · exact hok p hp
        · rw [List.mem_singleton.1 hp]; exact e1
      · rw [← hm']
        rfl
      · show V.int .i64 (IntKind.i64.wrap (ps.length+1))=_
        rw [wrap64 (by omega) (by omega)]; simp
   · rw [hlr,ltB_f (by omega)]
     conv=>whnf
     have he:ps.length=ss.length:=by omega
     refine ⟨[1],true,?_⟩
     conv=>whnf
     refine ⟨ps,?_,hok,rfl,?_⟩
     · rw [her,he]; simp
     · rw [smix_all _ _ he]; rfl
 · rintro o st' ⟨ps,h1,h2,rfl,rfl⟩
   refine ⟨.own 1,[poolO (es++slEnts ps)],0,es++slEnts ps,slRows ps,8,rfl,rfl,rfl,Nat.le_refl _,by simp [poolO],fun b c=>⟨rfl,b,c,ps,h1,h2,?_,?_⟩⟩
   · rw [slRows_len]; rfl
   · simp
def NewSs (ss:List Stp) (o:Out) (st':St):Prop:=∃ (b c:Nat) (ps:List SL),ps.map (·.1)=ss∧SlOk ps∧((slEnts ps++[ent b c 8 (slRows ps)]).map labOf).Nodup∧o=.ret (.dref b ps.length c)∧st'=[poolO (slEnts ps++[ent b c 8 (slRows ps)])]
theorem toSteps_new (ss:List Stp) (hl:ss.length≤1048576) (hs:∀ s∈ss,s.node.Small):Full Tryd.prog noY 9 [.sl (prows ss)] [] (NewSs ss):=by
 refine (Full.givenEnd (Full.start (toSteps_acc ss hl hs []))).mono ?_
 rintro o st' ⟨⟨b,c,ps,h1,h2,rfl,rfl⟩,hl⟩
 exact ⟨b,c,ps,h1,h2,hl.nodup (k:=0) rfl,rfl,rfl⟩
theorem view_agg' {es:List (List V)} {cs ds:List V} (h:View es (.agg cs) (.agg ds)) (i:Nat) (x y:V) (h1:cs[i]? = some x) (h2:ds[i]? = some y):View es x y:=by
 cases h with
 | same=>rw [h1] at h2; cases h2; exact .same _
 | agg _ h=>exact h i x y h1 h2
theorem slC_len (p:SL):(slC p).length=8:=by
 obtain ⟨s,l⟩:=p
 cases l with
 | mk a b c d e=>rfl
theorem slC_view (p:SL) (h:p.2.erase=p.1.node∧p.2.Wf) {es:List (List V)} (he:∀ e∈p.2.ents,e∈es):ViewL es (slC p) p.1.cells:=by
 have hv:=stp_view p.1 p.2 h.1 h.2 he
 have hl:(slC p).length=p.1.cells.length:=by rw [slC_len]; obtain ⟨⟨_,_,_,⟨_,_,_,_⟩,_⟩,_⟩:=p; rfl
 exact ⟨hl,fun i x y h1 h2=>view_agg' hv i x y h1 h2⟩
theorem prows_clean (ss:List Stp):V.clean.cleanLL 0 (prows ss)=true:=by
 rw [cleanLL_iff]
 intro e he
 obtain ⟨s,rfl⟩:∃ s:Stp,e=s.cells:=by
  obtain ⟨s,_,rfl⟩:=List.mem_map.1 he
  exact ⟨s,rfl⟩
 obtain ⟨_,_,_,⟨_,_,_,_⟩,_⟩:=s
 rfl
theorem sl_ents {ps:List SL} {p:SL} (hp:p∈ps) {e:List V} (he:e∈p.2.ents):e∈slEnts ps:=by
 unfold slEnts
 rw [LT.entsL_eq]
 exact List.mem_flatten.2 ⟨_,List.mem_map_of_mem (List.mem_map_of_mem hp),he⟩
theorem sl_view (ps:List SL) (b c:Nat) (hok:SlOk ps) {es:List (List V)} (he:∀ e∈slEnts ps++[ent b c 8 (slRows ps)],e∈es):View es (.dref b ps.length c) (.sl (prows (ps.map (·.1)))):=by
 have hv:∀ i (h:i < ps.length),ViewL es (slC ps[i]) ps[i].1.cells:=fun i h=>slC_view ps[i] (hok _ (List.getElem_mem _)) fun e h'=>he e (List.mem_append_left _ (sl_ents (List.getElem_mem h) h'))
 have hg:∀ i r,(slRows ps)[i]? = some r→∃ h:i < ps.length,r=slC ps[i]:=fun i r h=>by
  have hi:i < ps.length:=by have:=(List.getElem?_eq_some_iff.1 h).1; rwa [slRows_len] at this
  rw [slRows_get ps i hi] at h; exact ⟨hi,(Option.some.inj h).symm⟩
 have hg':∀ i r (h:i < ps.length),(prows (ps.map (·.1)))[i]? = some r→r=ps[i].1.cells:=fun i r h h'=>by
  rw [prows_get _ i (by simpa using h)] at h'
  rw [← Option.some.inj h',List.getElem_map]
 refine .dref (sz:=8) (rows:=slRows ps) (he _ (by simp)) (slRows_len ps).symm (by rw [prows_len,slRows_len]; simp) (prows_clean _) (fun e he x hx=>?_) (fun i r r' p q=>?_) (fun i r r' j x y p q u v=>?_)
 · obtain ⟨s,_,rfl⟩:=List.mem_map.1 he
   obtain ⟨_,_,_,⟨_,_,_,_⟩,_⟩:=s
   simp only [Stp.cells,T.cells,List.mem_append,List.mem_cons,List.not_mem_nil,or_false] at hx
   rcases hx with ((rfl | rfl | rfl) | (rfl | rfl | rfl | rfl)) | rfl <;> rfl
 · obtain ⟨hi,rfl⟩:=hg i r p
   rw [hg' i r' hi q]
   exact (hv i hi).1
 · obtain ⟨hi,rfl⟩:=hg i r p
   have:=hg' i r' hi q
   subst this
   exact (hv i hi).2 j x y u v
end Go.Cod
set_option linter.all false
namespace Go.Cod
open Go Go.Proofs
set_option maxRecDepth 10000
end Go.Cod
set_option linter.all false
namespace Go.Cod
open Go Go.Proofs
set_option maxRecDepth 10000
theorem toSteps_pure (ss:List Stp) (hl:ss.length≤1048576) (hs:∀ s∈ss,s.node.Small):Pure Tryd.prog 9 [.sl (prows ss)] (·=.sl (prows ss)):=by
 refine Full.freeze (toSteps_new ss hl hs) ?_
 rintro o st' ⟨b,c,ps,h1,h2,h3,rfl,rfl⟩
 have hv:=sl_view ps b c h2 (es:=slEnts ps++[ent b c 8 (slRows ps)]) (fun _ h=>h)
 rw [h1] at hv
 exact ⟨_,_,_,rfl,rfl,hv,rfl,rfl⟩
end Go.Cod
set_option linter.all false
namespace Go.Cod
open Go Go.Proofs
theorem globals_ok:∀ (g:Nat) x,Tryd.prog.globals[g]? = some x→x.type < Tryd.prog.types.size:=by
 intro g x h
 have h1:(Tryd.prog.globals.toList.all fun x=>decide (x.type < Tryd.prog.types.size))=true:=by kernel_rfl
 exact of_decide_eq_true (List.all_eq_true.1 h1 x (by simpa using Array.mem_of_getElem? h))
end Go.Cod
set_option linter.all false
set_option linter.all false
namespace Go.Cod
open Go Go.Proofs Go.Shelf Go.RowKit
def layRen:Go.Shelf.Ren:=⟨fun | 166=>16 | 169=>18 | 240=>33 | 276=>52 | n=>n,fun | 3=>3 | 4=>4 | 5=>5 | 9=>9 | 20=>20 | 37=>22 | 70=>43 | 72=>45 | 75=>51 | 80=>55 | 127=>87 | 164=>108 | n=>n,fun n=>n⟩
theorem lay_Lays_n166:Lays.n166 Tryd.prog layRen:={
 mixed:=by kernel_rfl,
 f166:=Tryd.func16.trans (congrArg some (by kernel_rfl)),
 f240:=Tryd.func33.trans (congrArg some (by kernel_rfl)),
 f276:=Tryd.func52.trans (congrArg some (by kernel_rfl)),
 t0:=Tryd.underlying0,
 a0:=Tryd.isAgg0,
 z0:=Tryd.sizeOf0,
 v0:=Tryd.zeroValue0,
 t3:=Tryd.underlying3,
 a3:=Tryd.isAgg3,
 z3:=Tryd.sizeOf3,
 v3:=Tryd.zeroValue3,
 t4:=Tryd.underlying4,
 a4:=Tryd.isAgg4,
 z4:=Tryd.sizeOf4,
 v4:=Tryd.zeroValue4,
 t9:=Tryd.underlying9,
 a9:=Tryd.isAgg9,
 z9:=Tryd.sizeOf9,
 v9:=Tryd.zeroValue9,
 t20:=Tryd.underlying20,
 a20:=Tryd.isAgg20,
 z20:=Tryd.sizeOf20,
 v20:=Tryd.zeroValue20,
 t37:=Tryd.underlying22,
 a37:=Tryd.isAgg22,
 z37:=Tryd.sizeOf22,
 v37:=Tryd.zeroValue22,
 t70:=Tryd.underlying43,
 a70:=Tryd.isAgg43,
 z70:=Tryd.sizeOf43,
 v70:=Tryd.zeroValue43,
 t72:=Tryd.underlying45,
 a72:=Tryd.isAgg45,
 z72:=Tryd.sizeOf45,
 v72:=Tryd.zeroValue45,
 t75:=Tryd.underlying51,
 a75:=Tryd.isAgg51,
 z75:=Tryd.sizeOf51,
 v75:=Tryd.zeroValue51,
 t164:=Tryd.underlying108,
 a164:=Tryd.isAgg108,
 z164:=Tryd.sizeOf108,
 v164:=Tryd.zeroValue108 }
theorem lay_Lays_n169:Lays.n169 Tryd.prog layRen:={
 mixed:=by kernel_rfl,
 f169:=Tryd.func18.trans (congrArg some (by kernel_rfl)),
 t0:=Tryd.underlying0,
 a0:=Tryd.isAgg0,
 z0:=Tryd.sizeOf0,
 v0:=Tryd.zeroValue0,
 t3:=Tryd.underlying3,
 a3:=Tryd.isAgg3,
 z3:=Tryd.sizeOf3,
 v3:=Tryd.zeroValue3,
 t9:=Tryd.underlying9,
 a9:=Tryd.isAgg9,
 z9:=Tryd.sizeOf9,
 v9:=Tryd.zeroValue9,
 t37:=Tryd.underlying22,
 a37:=Tryd.isAgg22,
 z37:=Tryd.sizeOf22,
 v37:=Tryd.zeroValue22,
 t70:=Tryd.underlying43,
 a70:=Tryd.isAgg43,
 z70:=Tryd.sizeOf43,
 v70:=Tryd.zeroValue43,
 t72:=Tryd.underlying45,
 a72:=Tryd.isAgg45,
 z72:=Tryd.sizeOf45,
 v72:=Tryd.zeroValue45,
 t127:=Tryd.underlying87,
 a127:=Tryd.isAgg87,
 z127:=Tryd.sizeOf87,
 v127:=Tryd.zeroValue87 }
theorem layX:Builder.Extra Tryd.prog layRen:={
 sizeBuilder:=by kernel_rfl,
 liesBuilder:=by kernel_rfl,
 t5:=Tryd.underlying5,
 a5:=Tryd.isAgg5,
 z5:=Tryd.sizeOf5,
 v5:=Tryd.zeroValue5,
 infoByte:=by kernel_rfl,
 cellsByte:=by kernel_rfl,
 sizeByte:=by kernel_rfl,
 neB5:=by decide }
def Bld (B b:Nat) (l:List UInt8) (w:World):Prop:=Lib.IsBuilderF 45 5 B b (Lib.byteCells l) w
theorem bld_write (B b:Nat) (l:List UInt8) (s:ByteArray) (w:World) (h:Bld B b l w) (hlen:l.length+s.size≤140737488355328) (hB:B≤w.heap.size) :
  Calls Tryd.prog 16 #[.pointer (some ⟨b,0,none⟩),.string s] w fun e w'=>e=.returned (.tuple #[.int .i64 s.size,.nilIface])∧Bld B b (l++s.data.toList) w'∧Below B w w':=by
 refine (Any.Builder_WriteString_k lay_Lays_n166 layX B b (Lib.byteCells l) s w h (by rw [Lib.byteCells_length]; exact hlen) hB).mono ?_
 rintro e w' ⟨rfl,h1,h2,_⟩
 refine ⟨rfl,?_,h2⟩
 unfold Bld
 rw [Lib.byteCells_append]
 exact Or.inr h1
theorem bld_string (B b:Nat) (l:List UInt8) (w:World) (h:Bld B b l w) (hB:B≤w.heap.size) :
  Calls Tryd.prog 18 #[.pointer (some ⟨b,0,none⟩)] w fun e w'=>e=.returned (.string ⟨l.toArray⟩)∧Below B w w':=by
 refine (Any.Builder_String_any_k lay_Lays_n169 layX B b l w h hB).mono ?_
 rintro e w' ⟨rfl,_,h2,_⟩
 exact ⟨rfl,h2⟩
theorem bldAt_below {T e:TypeId} {B b:Nat} {q:Value} {bs:List Value} {w w':World} (h:Lib.BuilderAtF T e B b q bs w) (hb:Below w.heap.size w w'):Lib.BuilderAtF T e B b q bs w':=by
 have hl:=h.lt
 obtain ⟨h1,r,h2,h3,h4⟩:=h
 exact ⟨h1,r,(hb.block b hl).trans h2,h3.kept (row:=none) ⟨hb.os,hb.tape,hb.output,hb.size,fun k hk _=>hb.block k hk⟩ (Classical.em _),h4⟩
theorem bld_below {B b:Nat} {l:List UInt8} {w w':World} (h:Bld B b l w) (hb:Below w.heap.size w w'):Bld B b l w':=Or.imp (bldAt_below · hb) (bldAt_below · hb) h
theorem bld_fresh (w:World):Bld w.heap.size w.heap.size [] (w.alloc (.cells #[.pointer none,.slice none 0 0] 45)):=Lib.IsBuilderF.of (Lib.fresh_isBuilder _ _ w)
theorem below_new {w w1:World} {o:Obj} (h:Below (w.alloc o).heap.size (w.alloc o) w1):Below w.heap.size w w1∧w1.heap[w.heap.size]? = some o :=
 ⟨((Below.refl _ w).alloc (Nat.le_refl _) o).trans (h.mono (by rw [size_alloc]; omega)),(h.block _ (by rw [size_alloc]; omega)).trans (by rw [heap_alloc,if_pos rfl])⟩
theorem cells_at {w:World} {b:Nat} {cs:Array Value} {t:TypeId} (h:w.heap[b]? = some (.cells cs t)) (n:Nat):w.cell? ⟨b,n,none⟩=cs[n]? := by
 simp [World.cell?,h]
theorem repL_one {Pr:Nat→Nat→Prop} {w:World} {x:V} {cs:List Value} (h:RepL Pr [] w [x] cs):∃ c,cs=[c]∧Rep Pr [] w x c:=by
 match cs,h with
 | [c],h=>exact ⟨c,rfl,h.2 0 x c rfl rfl⟩
 | [],h=>cases h.1
 | _::_::_,h=>exact absurd h.1 (by simp)
theorem rep_sl {Pr:Nat→Nat→Prop} {w:World} {es:List (List V)} {sv:Value} {c:Nat} (h:Rep Pr [] w (.sl es) sv) (hc:∀ e∈es,e.length=c) :
  ∃ ad cap,sv=.slice ad es.length cap∧es.length≤cap∧∀ (i:Nat) e,es[i]? = some e→∃ b off,ad=some ⟨b,off,none⟩∧∀ (j:Nat) x,e[j]? = some x→∃ u,w.cell? ⟨b,off+(i*c+j),none⟩=some u∧Pr b (off+(i*c+j))∧Rep Pr [] w x u:=by
 generalize hx:V.sl es=x at h
 cases h <;> first | (cases hx; done) | skip
 · cases hx
   rename_i a cap
   exact ⟨a,cap,rfl,Nat.zero_le _,fun i e he=>by simp at he⟩
 · cases hx
   rename_i b off cap c' u hcl hn hcc hlf hm hr
   refine ⟨_,_,rfl,hn,fun i e he=>⟨b,off,rfl,fun j x hj=>?_⟩⟩
   have hmem:=List.mem_of_getElem? he
   have e1:c=c':=(hc e hmem).symm.trans (hcc e hmem)
   subst e1
   exact ⟨u i j,(hm i e j x he hj).1,(hm i e j x he hj).2,hr i e j x he hj⟩
end Go.Cod
set_option linter.all false
set_option linter.all false
namespace Go.Cod
open Go Go.Proofs Go.Shelf Go.RowKit
def layRen2:Go.Shelf.Ren:=⟨fun | 129=>78 | 156=>110 | 165=>111 | 166=>16 | 169=>18 | 171=>34 | 240=>33 | 241=>112 | 243=>53 | 246=>71 | 276=>52 | 277=>113 | 283=>73 | 284=>74 | 285=>75 | 286=>76 | 317=>77 | 318=>79 | 319=>80 | 320=>81 | 337=>82 | 338=>83 | n=>n,fun | 2=>2 | 3=>3 | 4=>4 | 5=>5 | 9=>9 | 20=>20 | 31=>59 | 37=>22 | 46=>150 | 51=>147 | 53=>140 | 70=>43 | 72=>45 | 75=>51 | 76=>52 | 80=>55 | 127=>87 | 164=>108 | 171=>139 | 173=>143 | 212=>146 | 213=>148 | 232=>153 | 233=>154 | n=>n,fun | 17=>0 | 18=>1 | 19=>2 | n=>n⟩
theorem lay_LaysM_n171b:LaysM.n171 Tryd.prog layRen2:={
 mixed:=by kernel_rfl,
 f129:=Tryd.func78.trans (congrArg some (by kernel_rfl)),
 f171:=Tryd.func34.trans (congrArg some (by kernel_rfl)),
 f243:=Tryd.func53.trans (congrArg some (by kernel_rfl)),
 f246:=Tryd.func71.trans (congrArg some (by kernel_rfl)),
 f283:=Tryd.func73.trans (congrArg some (by kernel_rfl)),
 f284:=Tryd.func74.trans (congrArg some (by kernel_rfl)),
 f285:=Tryd.func75.trans (congrArg some (by kernel_rfl)),
 f286:=Tryd.func76.trans (congrArg some (by kernel_rfl)),
 f317:=Tryd.func77.trans (congrArg some (by kernel_rfl)),
 f318:=Tryd.func79.trans (congrArg some (by kernel_rfl)),
 f319:=Tryd.func80.trans (congrArg some (by kernel_rfl)),
 f320:=Tryd.func81.trans (congrArg some (by kernel_rfl)),
 f337:=Tryd.func82.trans (congrArg some (by kernel_rfl)),
 f338:=Tryd.func83.trans (congrArg some (by kernel_rfl)),
 t0:=Tryd.underlying0,
 a0:=Tryd.isAgg0,
 z0:=Tryd.sizeOf0,
 v0:=Tryd.zeroValue0,
 t2:=Tryd.underlying2,
 a2:=Tryd.isAgg2,
 z2:=Tryd.sizeOf2,
 v2:=Tryd.zeroValue2,
 t3:=Tryd.underlying3,
 a3:=Tryd.isAgg3,
 z3:=Tryd.sizeOf3,
 v3:=Tryd.zeroValue3,
 t4:=Tryd.underlying4,
 a4:=Tryd.isAgg4,
 z4:=Tryd.sizeOf4,
 v4:=Tryd.zeroValue4,
 t5:=Tryd.underlying5,
 a5:=Tryd.isAgg5,
 z5:=Tryd.sizeOf5,
 v5:=Tryd.zeroValue5,
 t9:=Tryd.underlying9,
 a9:=Tryd.isAgg9,
 z9:=Tryd.sizeOf9,
 v9:=Tryd.zeroValue9,
 t20:=Tryd.underlying20,
 a20:=Tryd.isAgg20,
 z20:=Tryd.sizeOf20,
 v20:=Tryd.zeroValue20,
 t37:=Tryd.underlying22,
 a37:=Tryd.isAgg22,
 z37:=Tryd.sizeOf22,
 v37:=Tryd.zeroValue22,
 t46:=Tryd.underlying150,
 a46:=Tryd.isAgg150,
 z46:=Tryd.sizeOf150,
 v46:=Tryd.zeroValue150,
 t51:=Tryd.underlying147,
 a51:=Tryd.isAgg147,
 z51:=Tryd.sizeOf147,
 v51:=Tryd.zeroValue147,
 t53:=Tryd.underlying140,
 a53:=Tryd.isAgg140,
 z53:=Tryd.sizeOf140,
 v53:=Tryd.zeroValue140,
 t171:=Tryd.underlying139,
 a171:=Tryd.isAgg139,
 z171:=Tryd.sizeOf139,
 v171:=Tryd.zeroValue139,
 t173:=Tryd.underlying143,
 a173:=Tryd.isAgg143,
 z173:=Tryd.sizeOf143,
 v173:=Tryd.zeroValue143,
 t212:=Tryd.underlying146,
 a212:=Tryd.isAgg146,
 z212:=Tryd.sizeOf146,
 v212:=Tryd.zeroValue146,
 t213:=Tryd.underlying148,
 a213:=Tryd.isAgg148,
 z213:=Tryd.sizeOf148,
 t232:=Tryd.underlying153,
 a232:=Tryd.isAgg153,
 z232:=Tryd.sizeOf153,
 v232:=Tryd.zeroValue153,
 t233:=Tryd.underlying154,
 a233:=Tryd.isAgg154,
 z233:=Tryd.sizeOf154,
 v233:=Tryd.zeroValue154,
 g17:=by kernel_rfl,
 g18:=by kernel_rfl,
 g19:=by kernel_rfl,
 i0:=by kernel_rfl,
 i2:=by kernel_rfl,
 i3:=by kernel_rfl,
 i4:=by kernel_rfl,
 i5:=by kernel_rfl,
 i9:=by kernel_rfl,
 i20:=by kernel_rfl,
 i37:=by kernel_rfl,
 i46:=by kernel_rfl,
 i51:=by kernel_rfl,
 i53:=by kernel_rfl,
 i171:=by kernel_rfl,
 i173:=by kernel_rfl,
 i212:=by kernel_rfl,
 i232:=by kernel_rfl,
 i233:=by kernel_rfl,
 m17:=by kernel_rfl,
 m18:=by kernel_rfl,
 m19:=by kernel_rfl }
theorem lay_Lays_n156b:Lays.n156 Tryd.prog layRen2:={
 mixed:=by kernel_rfl,
 f156:=Tryd.func110.trans (congrArg some (by kernel_rfl)),
 f165:=Tryd.func111.trans (congrArg some (by kernel_rfl)),
 f166:=Tryd.func16.trans (congrArg some (by kernel_rfl)),
 f169:=Tryd.func18.trans (congrArg some (by kernel_rfl)),
 f240:=Tryd.func33.trans (congrArg some (by kernel_rfl)),
 f241:=Tryd.func112.trans (congrArg some (by kernel_rfl)),
 f276:=Tryd.func52.trans (congrArg some (by kernel_rfl)),
 f277:=Tryd.func113.trans (congrArg some (by kernel_rfl)),
 t0:=Tryd.underlying0,
 a0:=Tryd.isAgg0,
 z0:=Tryd.sizeOf0,
 v0:=Tryd.zeroValue0,
 t3:=Tryd.underlying3,
 a3:=Tryd.isAgg3,
 z3:=Tryd.sizeOf3,
 v3:=Tryd.zeroValue3,
 t4:=Tryd.underlying4,
 a4:=Tryd.isAgg4,
 z4:=Tryd.sizeOf4,
 v4:=Tryd.zeroValue4,
 t9:=Tryd.underlying9,
 a9:=Tryd.isAgg9,
 z9:=Tryd.sizeOf9,
 v9:=Tryd.zeroValue9,
 t20:=Tryd.underlying20,
 a20:=Tryd.isAgg20,
 z20:=Tryd.sizeOf20,
 v20:=Tryd.zeroValue20,
 t31:=Tryd.underlying59,
 a31:=Tryd.isAgg59,
 z31:=Tryd.sizeOf59,
 v31:=Tryd.zeroValue59,
 t37:=Tryd.underlying22,
 a37:=Tryd.isAgg22,
 z37:=Tryd.sizeOf22,
 v37:=Tryd.zeroValue22,
 t70:=Tryd.underlying43,
 a70:=Tryd.isAgg43,
 z70:=Tryd.sizeOf43,
 v70:=Tryd.zeroValue43,
 t72:=Tryd.underlying45,
 a72:=Tryd.isAgg45,
 z72:=Tryd.sizeOf45,
 v72:=Tryd.zeroValue45,
 t75:=Tryd.underlying51,
 a75:=Tryd.isAgg51,
 z75:=Tryd.sizeOf51,
 v75:=Tryd.zeroValue51,
 t76:=Tryd.underlying52,
 a76:=Tryd.isAgg52,
 z76:=Tryd.sizeOf52,
 v76:=Tryd.zeroValue52,
 t127:=Tryd.underlying87,
 a127:=Tryd.isAgg87,
 z127:=Tryd.sizeOf87,
 v127:=Tryd.zeroValue87,
 t164:=Tryd.underlying108,
 a164:=Tryd.isAgg108,
 z164:=Tryd.sizeOf108,
 v164:=Tryd.zeroValue108 }
theorem layX2:Builder.Extra Tryd.prog layRen2:={
 sizeBuilder:=by kernel_rfl,
 liesBuilder:=by kernel_rfl,
 t5:=Tryd.underlying5,
 a5:=Tryd.isAgg5,
 z5:=Tryd.sizeOf5,
 v5:=Tryd.zeroValue5,
 infoByte:=by kernel_rfl,
 cellsByte:=by kernel_rfl,
 sizeByte:=by kernel_rfl,
 neB5:=by decide }
theorem below_grow (w:World) (k:Nat) (os:Array Obj):Below w.heap.size w (Go.Sort.grow (w.drewN k) os) :=
 ⟨rfl,rfl,rfl,by show w.heap.size≤(w.heap++os).size; rw [Array.size_append]; omega,fun b hb=>by
   show (w.heap++os)[b]? = _
   rw [Array.getElem?_append_left hb]⟩
theorem itoa_all (n:Int) (h0:-9223372036854775808≤n) (h1:n≤9223372036854775807):Pure Tryd.prog 34 [.int .i64 n] (·=.str (Lib.itoa n)):=by
 refine pure_of_below (r:=.str (Lib.itoa n)) ⟨_,Tryd.func34,by kernel_rfl,by kernel_rfl⟩ rfl fun Pr w cargs ha hst=>⟨_,fun _ _=>.str _,?_⟩
 obtain ⟨c,rfl,hc⟩:=repL_one ha
 cases hc
 have hd:Lam.dat 0=some (tabCells .u64 Lib.pow10Tab):=by kernel_rfl
 refine (Any.strconv_Itoa lay_LaysM_n171b n h0 h1 w (tabIs_laid hst.laid (by kernel_rfl) hd (by decide))).mono ?_
 rintro e w' ⟨rfl,k,os,rfl⟩
 exact ⟨rfl,below_grow w k os⟩
theorem bytes_back (l:List (List UInt8)):(l.map fun s=>(⟨s.toArray⟩:ByteArray)).map (·.data.toList)=l:=by
 induction l with
 | nil=>rfl
 | cons a b ih=>rw [List.map_cons,List.map_cons,ih]
def strO (ss:List (List UInt8)):O:=⟨ss.map fun s=>[.str s],1,true,true,false,.cell⟩
theorem join_own {ok:OkY} (ss:List (List UInt8)) (sep:List UInt8) (hN:ss.length≤140737488355328) (hlen:(Lib.join ss sep).length≤281474976710656) :
  Full Tryd.prog ok 110 [.own 0,.str sep] [strO ss] fun o st'=>o=.ret (.str (Lib.join ss sep))∧st'=[strO ss]:=by
 refine full_of_below ⟨_,Tryd.func110,by kernel_rfl,by kernel_rfl⟩ fun Pr γ w cargs ha hst=>⟨.str (Lib.join ss sep),_,⟨rfl,rfl⟩,fun _=>.str _,?_⟩
 match cargs,ha with
 | [],ha=>cases ha.1
 | [_],ha=>exact absurd ha.1 (by simp)
 | _::_::_::_,ha=>exact absurd ha.1 (by simp)
 | [c0,c1],ha =>
   have r0:=ha.2 0 _ c0 rfl rfl
   have r1:=ha.2 1 _ c1 rfl rfl
   cases r1
   cases r0 with
   | @own _ g hg =>
   obtain ⟨e1,e2,e3,e4⟩:=own_strs (ss:=ss) hst (k:=0) rfl hg rfl rfl rfl
   have hx:(ss.map fun s=>(⟨s.toArray⟩:ByteArray)).map (·.data.toList)=ss:=bytes_back ss
   have hc:=Any.strings_Join_48 lay_Lays_n156b layX2 g.blk 0 g.cap (ss.map fun s=>⟨s.toArray⟩) ⟨sep.toArray⟩ w (fun j x hj=>by
    simp only [List.getElem?_map,Option.map_eq_some_iff] at hj
    obtain ⟨s,hs,rfl⟩:=hj
    exact e4 j s hs) e3 (by simpa using hN) (by simpa using e2) (by rw [hx]; exact hlen)
   rw [hx,List.length_map,← e1] at hc
   exact hc
end Go.Cod
set_option linter.all false
namespace Go.Cod
open Go Go.Proofs
set_option maxRecDepth 10000
def leafW (id:Int) (kd tx:List UInt8):List UInt8:=if tx=[] then kd++[35]++Lib.itoa id else kd++[35]++Lib.itoa id++[34]++tx++[34]
theorem leafW_len (id:Int) (kd tx:List UInt8) (h0:-9223372036854775808≤id) (h1:id≤9223372036854775807):(leafW id kd tx).length≤kd.length+tx.length+24:=by
 have hl:=Lib.itoa_length_le id h0 h1
 unfold leafW
 split <;> simp only [List.length_append,List.length_cons,List.length_nil] <;> omega
theorem leaf_written (id:Int) (kd tx:List UInt8) (h0:-9223372036854775808≤id) (h1:id≤9223372036854775807) (hk:kd.length≤1048576) (ht:tx.length≤1048576) :
  Pure Tryd.prog 108 [.agg [.str kd,.int .i64 id,.str tx]] (·=.str (leafW id kd tx)):=by
 have hi:=itoa_all id h0 h1
 have hl:=Lib.itoa_length_le id h0 h1
 unfold leafW
 refine pure_of_awp good Tryd.func108 rfl (by kernel_rfl) (by decide) ?_
 conv=>whnf
 refine ⟨by show kd.length+1≤_; omega,?_⟩
 conv=>whnf
 refine ⟨_,.inl hi,?_⟩
 conv=>whnf
 generalize Lib.itoa id=ds at *
 refine ⟨by show (kd++[35]).length+ds.length≤_; simp only [List.length_append,List.length_cons,List.length_nil]; omega,?_⟩
 by_cases hx:tx=[]
 · rw [if_pos hx]
   conv=>whnf
   rw [eqS_t hx]
   conv=>whnf
   first | rfl | skip
 · rw [if_neg hx]
   conv=>whnf
   rw [eqS_f hx]
   conv=>whnf
   refine ⟨by show (kd++[35]++ds).length+1≤_; simp only [List.length_append,List.length_cons,List.length_nil]; omega,?_⟩
   conv=>whnf
   refine ⟨by show (kd++[35]++ds++[34]).length+tx.length≤_; simp only [List.length_append,List.length_cons,List.length_nil]; omega,?_⟩
   conv=>whnf
   refine ⟨by show (kd++[35]++ds++[34]++tx).length+1≤_; simp only [List.length_append,List.length_cons,List.length_nil]; omega,?_⟩
   conv=>whnf
   first | rfl | skip
end Go.Cod
set_option linter.all false
namespace Go.Cod
open Go Go.Proofs
set_option maxRecDepth 10000
def brW:List (List UInt8)→List UInt8
 | []=>[]
 | w::ws=>[91]++Lib.join (w::ws) [44]++[93]
mutual
def T.wr:T→List UInt8
 | .mk id kd tx kids=>leafW id kd tx++brW (T.wrL kids)
def T.wrL:List T→List (List UInt8)
 | []=>[]
 | t::ts=>T.wr t::T.wrL ts
end
theorem T.wrL_eq (ts:List T):T.wrL ts=ts.map T.wr:=by
 induction ts with
 | nil=>rfl
 | cons t ts ih=>simp [T.wrL,ih]
def leafV (id:Int) (kd tx:List UInt8):V:=.iface 136 (.agg [.str kd,.int .i64 id,.str tx])
def branchV (id:Int) (kd tx:List UInt8) (rows:List (List V)):V:=.iface 138 (.agg [.str kd,.int .i64 id,.str tx,.sl rows])
theorem thingOf_leaf (id:Int) (kd tx:List UInt8):Pure Tryd.prog 54 [.agg [.int .i64 id,.str kd,.str tx,.sl []]] (·=leafV id kd tx):=by
 refine pure_of_awp good Tryd.func54 rfl (by kernel_rfl) (by decide) ?_
 conv=>whnf
 rw [eqB_t (by rfl)]
 conv=>whnf
 first | rfl | skip
theorem thingOf_branch (id:Int) (kd tx:List UInt8) (rows:List (List V)) (h0:0 < rows.length):Pure Tryd.prog 54 [.agg [.int .i64 id,.str kd,.str tx,.sl rows]] (·=branchV id kd tx rows):=by
 refine pure_of_awp good Tryd.func54 rfl (by kernel_rfl) (by decide) ?_
 conv=>whnf
 rw [eqB_f (by omega)]
 conv=>whnf
 first | rfl | skip
end Go.Cod
set_option linter.all false
namespace Go.Cod
open Go Go.Proofs
set_option linter.all false
set_option maxRecDepth 10000
def WrOk (t:T):Prop:=match t with
 | .mk id kd tx []=>Pure Tryd.prog 108 [.agg [.str kd,.int .i64 id,.str tx]] (·=.str (T.wr t))
 | .mk id kd tx (k::ks)=>Pure Tryd.prog 109 [.agg [.str kd,.int .i64 id,.str tx,.sl (T.rows (k::ks))]] (·=.str (T.wr t))
theorem wrL_take (ks:List T) (i:Nat) (h:i < ks.length):(ks.map T.wr).take (i+1)=(ks.map T.wr).take i++[T.wr ks[i]]:=by
 rw [List.take_succ_eq_append_getElem (by simpa using h)]
 simp
set_option maxHeartbeats 1600000 in
theorem branch_written (id:Int) (kd tx:List UInt8) (kids:List T) (hid:-9223372036854775808≤id∧id≤9223372036854775807) (hk:kd.length≤1048576) (htx:tx.length≤1048576) (h0:0 < kids.length) (hl:kids.length≤1048576)
  (hw:∀ t∈kids,WrOk t) (hj:(Lib.join (kids.map T.wr) [44]).length≤1048576) :
  Pure Tryd.prog 109 [.agg [.str kd,.int .i64 id,.str tx,.sl (T.rows kids)]] (·=.str (leafW id kd tx++[91]++Lib.join (kids.map T.wr) [44]++[93])):=by
 have hlr:=Go.Cod.rows_len kids
 have hll:=leafW_len id kd tx hid.1 hid.2
 have hleaf:=leaf_written id kd tx hid.1 hid.2 hk htx
 refine pure_of_awp good Tryd.func109 rfl (by kernel_rfl) (by decide) ?_
 conv=>whnf
 refine loop_drop (fun n fr st=>∃ i:Nat,n+i=kids.length ∧
   ((i=0∧Holds fr [(1,.ptr 0 0 0),(3,.nils),(7,.sl (T.rows kids)),(8,.int .i64 kids.length),(9,.int .i64 i)]∧st=[⟨[[.str kd,.int .i64 id,.str tx,.sl (T.rows kids)]],4,true,true,true,.cell⟩]) ∨
    (0 < i∧Holds fr [(1,.ptr 0 0 0),(3,.own 1),(7,.sl (T.rows kids)),(8,.int .i64 kids.length),(9,.int .i64 i)]∧st=[⟨[[.str kd,.int .i64 id,.str tx,.sl (T.rows kids)]],4,true,true,true,.cell⟩,strO ((kids.map T.wr).take i)]))) kids.length none
  ⟨0,rfl,.inl ⟨rfl,⟨rfl,rfl,rfl,by rw [← hlr]; rfl,rfl,trivial⟩,rfl⟩⟩ ?_
 rintro n fr st ⟨i,hi,hst⟩
 rcases hst with ⟨rfl,hh,rfl⟩ | ⟨hi0,hh,rfl⟩
 · obtain ⟨fr,rfl⟩:=hh.split
   clear hh
   conv=>whnf
   rw [ltB_t (by omega)]
   conv=>whnf
   have hg:=rows_get kids 0 h0
   have htk:=wrL_take kids 0 h0
   have hwt:=hw kids[0] (List.getElem_mem h0)
   generalize kids[0]=t at hg htk hwt
   cases t with
   | mk id' kind' text' kids' =>
   refine ⟨by omega,T.rows kids,_,4,rfl,hg,rfl,rfl,?_⟩
   conv=>whnf
   cases kids' with
   | nil =>
     refine .inl ((thingOf_leaf id' kind' text').mono ?_)
     rintro r rfl
     conv=>whnf
     have hwt:Pure Tryd.prog 108 [.agg [.str kind',.int .i64 id',.str text']] (·=.str (T.wr (.mk id' kind' text' []))):=hwt
     generalize T.wr (.mk id' kind' text' [])=wd at *
     refine ⟨_,rfl,.inl (hwt.mono ?_)⟩
     rintro r rfl
     conv=>whnf
     refine ⟨fun m hm=>by rw [List.mem_singleton.1 hm]; rfl,?_⟩
     conv=>whnf
     refine ⟨by show 1*16≤_; omega,.inr ⟨(by intro e; cases e),?_⟩⟩
     conv=>whnf
     refine ⟨n - 1,by omega,some [0,3],?_⟩
     conv=>whnf
     refine ⟨1,by omega,.inr ⟨by omega,⟨rfl,rfl,rfl,rfl,rfl,trivial⟩,?_⟩⟩
     rw [htk]
     rfl
   | cons k ks =>
     refine .inl ((thingOf_branch id' kind' text' (T.rows (k::ks)) (by simp [T.rows])).mono ?_)
     rintro r rfl
     conv=>whnf
     have hwt:Pure Tryd.prog 109 [.agg [.str kind',.int .i64 id',.str text',.sl (T.rows (k::ks))]] (·=.str (T.wr (.mk id' kind' text' (k::ks)))):=hwt
     generalize T.wr (.mk id' kind' text' (k::ks))=wd at *
     refine ⟨_,rfl,.inl (hwt.mono ?_)⟩
     rintro r rfl
     conv=>whnf
     refine ⟨fun m hm=>by rw [List.mem_singleton.1 hm]; rfl,?_⟩
     conv=>whnf
     refine ⟨by show 1*16≤_; omega,.inr ⟨(by intro e; cases e),?_⟩⟩
     conv=>whnf
     refine ⟨n - 1,by omega,some [0,3],?_⟩
     conv=>whnf
     refine ⟨1,by omega,.inr ⟨by omega,⟨rfl,rfl,rfl,rfl,rfl,trivial⟩,?_⟩⟩
     rw [htk]
     rfl
 · obtain ⟨fr,rfl⟩:=hh.split
   clear hh
   have hln:(strO ((kids.map T.wr).take i)).es.length=i:=by
    show (((kids.map T.wr).take i).map _).length=i
    rw [List.length_map,List.length_take,List.length_map]; omega
   conv=>whnf
   by_cases hlt:i < kids.length
   · rw [ltB_t (by omega)]
     conv=>whnf
     have hg:=rows_get kids i hlt
     have htk:=wrL_take kids i hlt
     have hwt:=hw kids[i] (List.getElem_mem hlt)
     generalize kids[i]=t at hg htk hwt
     cases t with
     | mk id' kind' text' kids' =>
     refine ⟨by omega,T.rows kids,_,4,rfl,hg,rfl,rfl,?_⟩
     conv=>whnf
     cases kids' with
     | nil =>
       refine .inl ((thingOf_leaf id' kind' text').mono ?_)
       rintro r rfl
       conv=>whnf
       have hwt:Pure Tryd.prog 108 [.agg [.str kind',.int .i64 id',.str text']] (·=.str (T.wr (.mk id' kind' text' []))):=hwt
       generalize T.wr (.mk id' kind' text' [])=wd at *
       refine ⟨_,rfl,.inl (hwt.mono ?_)⟩
       rintro r rfl
       conv=>whnf
       refine ⟨fun m hm=>by rw [List.mem_singleton.1 hm]; rfl,?_⟩
       conv=>whnf
       refine ⟨by
        show ((strO ((kids.map T.wr).take i)).es.length+1)*16≤_
        rw [hln]; omega,?_⟩
       conv=>whnf
       refine ⟨n - 1,by omega,some [0,4],?_⟩
       conv=>whnf
       refine ⟨i+1,by omega,.inr ⟨by omega,⟨rfl,rfl,rfl,rfl,?_,trivial⟩,?_⟩⟩
       · show V.int .i64 (IntKind.i64.wrap (i+1))=_
         rw [wrap64 (by omega) (by omega)]; simp
       · rw [htk]
         simp only [strO,List.map_append]
         rfl
     | cons k ks =>
       refine .inl ((thingOf_branch id' kind' text' (T.rows (k::ks)) (by simp [T.rows])).mono ?_)
       rintro r rfl
       conv=>whnf
       have hwt:Pure Tryd.prog 109 [.agg [.str kind',.int .i64 id',.str text',.sl (T.rows (k::ks))]] (·=.str (T.wr (.mk id' kind' text' (k::ks)))):=hwt
       generalize T.wr (.mk id' kind' text' (k::ks))=wd at *
       refine ⟨_,rfl,.inl (hwt.mono ?_)⟩
       rintro r rfl
       conv=>whnf
       refine ⟨fun m hm=>by rw [List.mem_singleton.1 hm]; rfl,?_⟩
       conv=>whnf
       refine ⟨by
        show ((strO ((kids.map T.wr).take i)).es.length+1)*16≤_
        rw [hln]; omega,?_⟩
       conv=>whnf
       refine ⟨n - 1,by omega,some [0,4],?_⟩
       conv=>whnf
       refine ⟨i+1,by omega,.inr ⟨by omega,⟨rfl,rfl,rfl,rfl,?_,trivial⟩,?_⟩⟩
       · show V.int .i64 (IntKind.i64.wrap (i+1))=_
         rw [wrap64 (by omega) (by omega)]; simp
       · rw [htk]
         simp only [strO,List.map_append]
         rfl
   · rw [ltB_f (by omega)]
     conv=>whnf
     rw [List.take_of_length_le (by rw [List.length_map]; omega)]
     refine .inl (hleaf.mono ?_)
     rintro r rfl
     conv=>whnf
     generalize leafW id kd tx=lw at *
     refine ⟨by show lw.length+1≤_; omega,?_⟩
     conv=>whnf
     refine ⟨[1],false,?_⟩
     conv=>whnf
     refine (join_own (kids.map T.wr) [44] (by rw [List.length_map]; omega) (by omega)).mono ?_
     rintro o st' ⟨rfl,rfl⟩
     conv=>whnf
     generalize Lib.join (kids.map T.wr) [44]=js at *
     refine ⟨by show (lw++[91]).length+js.length≤_; simp only [List.length_append,List.length_cons,List.length_nil]; omega,?_⟩
     conv=>whnf
     refine ⟨by show (lw++[91]++js).length+1≤_; simp only [List.length_append,List.length_cons,List.length_nil]; omega,?_⟩
     conv=>whnf
     first | rfl | skip
end Go.Cod
set_option linter.all false
namespace Go.Cod
open Go Go.Proofs
set_option linter.all false
set_option maxRecDepth 10000
theorem join_snoc (l:List (List UInt8)) (w sep:List UInt8) (h:l≠[]):Lib.join (l++[w]) sep=Lib.join l sep++sep++w:=by
 cases l with
 | nil=>exact absurd rfl h
 | cons x r =>
   rw [List.cons_append,Lib.join_cons,Lib.join_cons]
   simp [Lib.joinTail]
theorem join_len (l:List (List UInt8)):(Lib.join l [44]).length≤(l.map fun w=>w.length+1).sum:=by
 cases l with
 | nil=>simp [Lib.join_nil]
 | cons x r =>
   rw [Lib.join_cons,List.length_append]
   have:(Lib.joinTail [44] r).length=(r.map fun w=>w.length+1).sum:=by
    induction r with
    | nil=>rfl
    | cons y r ih =>
      have e:Lib.joinTail [44] (y::r)=[44]++y++Lib.joinTail [44] r:=by simp [Lib.joinTail]
      rw [e]
      simp only [List.length_append,List.length_cons,List.length_nil,List.map_cons,List.sum_cons,ih]
      omega
   rw [this]
   simp only [List.map_cons,List.sum_cons]
   omega
theorem idsL_sum (ts:List T):(T.idsL ts).length=(ts.map fun t=>t.ids.length).sum:=by
 induction ts with
 | nil=>rfl
 | cons t ts ih=>simp [T.idsL,ih]
theorem sum_le_of {α:Type} (f g:α→Nat):∀ l:List α,(∀ x∈l,f x≤g x)→(l.map f).sum≤(l.map g).sum
 | [],_=>Nat.le_refl _
 | a::l,h=>by
   have h1:=h a (by simp)
   have h2:=sum_le_of f g l fun x hx=>h x (by simp [hx])
   simp only [List.map_cons,List.sum_cons]
   omega
theorem sum_mul (l:List T):(l.map fun t=>64*t.ids.length).sum=64*(l.map fun t=>t.ids.length).sum:=by
 induction l with
 | nil=>rfl
 | cons a l ih=>simp only [List.map_cons,List.sum_cons,ih]; omega
theorem plainT_kids {id:Int} {kd tx:List UInt8} {kids:List T} {lv:Int} (h:plainT (.mk id kd tx kids) lv=true):(1≤id∧id≤999)∧kd.length≤8∧tx.length≤12∧∀ t∈kids,plainT t (lv+1)=true:=by
 simp only [plainT,Bool.and_eq_true,decide_eq_true_eq] at h
 obtain ⟨⟨⟨⟨_,h1⟩,h2⟩,h3⟩,h4⟩:=h
 refine ⟨h1,?_,?_,fun t ht=>?_⟩
 · unfold nameL at h2
   simp at h2
   omega
 · unfold textL at h3
   simp at h3
   omega
 · rw [plainL_eq] at h4
   exact List.all_eq_true.1 h4 t ht
theorem wr_len (t:T) (hs:t.Small):∀ lv,plainT t lv=true→(T.wr t).length+1≤64*t.ids.length∧(Lib.join (t.kids.map T.wr) [44]).length≤64*t.ids.length:=by
 induction hs with
 | @mk id kd tx kids g1 g2 g3 g4 g5 ih =>
   intro lv h
   obtain ⟨h1,h2,h3,h4⟩:=plainT_kids h
   have hl:=leafW_len id kd tx (by omega) (by omega)
   have hj:=join_len (kids.map T.wr)
   have hs:=sum_le_of (fun t=>(T.wr t).length+1) (fun t=>64*t.ids.length) kids fun t ht=>(ih t ht (lv+1) (h4 t ht)).1
   rw [sum_mul,← idsL_sum] at hs
   rw [List.map_map] at hj
   have hj:(Lib.join (kids.map T.wr) [44]).length≤(kids.map fun t=>(T.wr t).length+1).sum:=hj
   have hi:(T.mk id kd tx kids).ids.length=(T.idsL kids).length+1:=by simp [T.ids]
   have hw:(T.wr (.mk id kd tx kids)).length≤44+((Lib.join (kids.map T.wr) [44]).length+2):=by
    rw [T.wr,List.length_append,T.wrL_eq]
    have:(brW (kids.map T.wr)).length≤(Lib.join (kids.map T.wr) [44]).length+2:=by
     cases kids.map T.wr with
     | nil=>simp [brW]
     | cons a b=>simp only [brW,List.length_append,List.length_cons,List.length_nil]; omega
    omega
   simp only [T.kids]
   omega
theorem wr_branch (id:Int) (kd tx:List UInt8) (k:T) (ks:List T):T.wr (.mk id kd tx (k::ks))=leafW id kd tx++[91]++Lib.join ((k::ks).map T.wr) [44]++[93]:=by
 rw [T.wr,T.wrL_eq]
 simp only [List.map_cons,brW,List.append_assoc]
theorem wr_leaf (id:Int) (kd tx:List UInt8):T.wr (.mk id kd tx [])=leafW id kd tx:=by
 simp [T.wr,T.wrL,brW]
theorem wr_ok (t:T) (hs:t.Small):∀ lv,plainT t lv=true→t.ids.length≤16000→WrOk t:=by
 induction hs with
 | @mk id kd tx kids g1 g2 g3 g4 g5 ih =>
   intro lv h hn
   obtain ⟨h1,h2,h3,h4⟩:=plainT_kids h
   have hl:=(wr_len _ (.mk g1 g2 g3 g4 g5) lv h).2
   cases kids with
   | nil =>
     show Pure Tryd.prog _ _ (·=.str (T.wr (.mk id kd tx [])))
     rw [wr_leaf]
     exact leaf_written id kd tx g1.1 g1.2 g2 g3
   | cons k ks =>
     show Pure Tryd.prog _ _ (·=.str (T.wr (.mk id kd tx (k::ks))))
     rw [wr_branch]
     have hk:∀ t∈(k::ks),t.ids.length≤16000:=fun t ht=>by
      have:t.ids.length≤(T.idsL (k::ks)).length:=by
       obtain ⟨a,b,e⟩:=List.append_of_mem ht
       rw [e,idsL_append,T.idsL]
       simp; omega
      have hi:(T.mk id kd tx (k::ks)).ids.length=(T.idsL (k::ks)).length+1:=by simp [T.ids]
      omega
     exact branch_written id kd tx (k::ks) g1 g2 g3 (by simp) g4 (fun t ht=>ih t ht (lv+1) (h4 t ht) (hk t ht)) (by simp only [T.kids] at hl; omega)
theorem implTreeWrite_pure (t:T) (hs:t.Small):Pure Tryd.prog 35 [.agg t.cells] (·=.str (if okT t=true then T.wr t else [])):=by
 have hok:=implTreeOk t hs
 cases h:okT t with
 | false =>
   rw [h] at hok
   rw [if_neg (by decide)]
   cases t with
   | mk id kd tx kids =>
   refine pure_of_awp good Tryd.func35 rfl (by kernel_rfl) (by decide) ?_
   conv=>whnf
   refine .inl (hok.mono ?_)
   rintro r rfl
   conv=>whnf
 | true =>
   rw [h] at hok
   rw [if_pos rfl]
   have hp:plainT t 1=true∧t.ids.length≤20:=by
    unfold okT at h
    simp only [Bool.and_eq_true,decide_eq_true_eq] at h
    exact ⟨h.1.1,h.2⟩
   have hw:=wr_ok t hs 1 hp.1 (by omega)
   clear h hp
   cases t with
   | mk id kd tx kids =>
   cases kids with
   | nil =>
     have hw:Pure Tryd.prog 108 [.agg [.str kd,.int .i64 id,.str tx]] (·=.str (T.wr (.mk id kd tx []))):=hw
     generalize T.wr (.mk id kd tx [])=wd at *
     refine pure_of_awp good Tryd.func35 rfl (by kernel_rfl) (by decide) ?_
     conv=>whnf
     refine .inl (hok.mono ?_)
     rintro r rfl
     conv=>whnf
     refine .inl ((thingOf_leaf id kd tx).mono ?_)
     rintro r rfl
     conv=>whnf
     refine ⟨_,rfl,.inl (hw.mono ?_)⟩
     rintro r rfl
     conv=>whnf
   | cons k ks =>
     have hw:Pure Tryd.prog 109 [.agg [.str kd,.int .i64 id,.str tx,.sl (T.rows (k::ks))]] (·=.str (T.wr (.mk id kd tx (k::ks)))):=hw
     have ht:=thingOf_branch id kd tx (T.rows (k::ks)) (by simp [T.rows])
     generalize T.wr (.mk id kd tx (k::ks))=wd at *
     refine pure_of_awp good Tryd.func35 rfl (by kernel_rfl) (by decide) ?_
     conv=>whnf
     refine .inl (hok.mono ?_)
     rintro r rfl
     conv=>whnf
     refine .inl (ht.mono ?_)
     rintro r rfl
     conv=>whnf
     refine ⟨_,rfl,.inl (hw.mono ?_)⟩
     rintro r rfl
     conv=>whnf
end Go.Cod
set_option linter.all false
namespace Go.Cod
open Go Go.Proofs
set_option linter.all false
set_option maxRecDepth 10000
theorem decDigits_lt (n:Nat) (h:n < 10):Lib.decDigits n=[UInt8.ofNat (48+n)]:=by
 rw [Lib.decDigits,dif_pos h]
theorem decDigits_ge (n:Nat) (h:¬ n < 10):Lib.decDigits n=Lib.decDigits (n / 10)++[UInt8.ofNat (48+n % 10)]:=by
 rw [Lib.decDigits,dif_neg h]
theorem itoa_nat (n:Nat):Lib.itoa (n:Int)=Lib.decDigits n:=by
 rw [Lib.itoa,if_neg (by omega)]
 rfl
theorem l1Dec_lt (n:Nat) (h1:n < 10):Pure Tryd.prog 22 [.int .i64 (n:Int)] (·=.str (Lib.decDigits n)):=by
 rw [decDigits_lt n h1]
 refine pure_of_awp good Tryd.func22 rfl (by kernel_rfl) (by decide) ?_
 conv=>whnf
 rw [ltB_f (by omega)]
 conv=>whnf
 rw [ltB_f (by omega)]
 conv=>whnf
 rw [ltB_t (by omega)]
 conv=>whnf
 refine ⟨[UInt8.ofNat (48+n)],?_,?_⟩
 · have w1:IntKind.i64.wrap (48+(n:Int))=48+n:=wrap64 (by omega) (by omega)
   rw [w1]
   have:∀ n < 10,IntKind.u8.wrap (48+((n:Nat):Int))=(((UInt8.ofNat (48+n)).toNat:Nat):Int):=by decide
   show [[V.int .u8 (IntKind.u8.wrap (48+(n:Int)))]]=[[V.int .u8 _]]
   rw [this n h1]
 · conv=>whnf
theorem l1Dec_nat (n:Nat) (hn:n≤9223372036854775807):Pure Tryd.prog 22 [.int .i64 (n:Int)] (·=.str (Lib.decDigits n)):=by
 induction n using Nat.strongRecOn with
 | _ n ih =>
 by_cases h:n < 10
 · exact l1Dec_lt n h
 · have hr:=ih (n / 10) (by omega) (by omega)
   have hl:=Lib.itoa_length_le ((n / 10:Nat):Int) (by omega) (by omega)
   rw [itoa_nat] at hl
   rw [decDigits_ge n h]
   generalize Lib.decDigits (n / 10)=ds at *
   have e:(((n / 10:Nat)):Int)=IntKind.i64.wrap ((n:Int).tdiv 10):=by
    rw [Int.tdiv_eq_ediv_of_nonneg (by omega),wrap64 (by omega) (by omega)]; omega
   have e':(((n % 10:Nat)):Int)=(n:Int).tmod 10:=by
    rw [Int.tmod_eq_emod_of_nonneg (by omega)]; omega
   rw [e] at hr
   refine pure_of_awp good Tryd.func22 rfl (by kernel_rfl) (by decide) ?_
   conv=>whnf
   rw [ltB_f (by omega)]
   conv=>whnf
   rw [ltB_f (by omega)]
   conv=>whnf
   rw [ltB_f (by omega)]
   conv=>whnf
   refine ⟨by omega,?_⟩
   conv=>whnf
   refine ⟨_,.inl hr,?_⟩
   conv=>whnf
   refine ⟨by omega,?_⟩
   conv=>whnf
   refine ⟨rfl,?_⟩
   conv=>whnf
   refine And.intro ⟨_,.inl hr,rfl⟩ ?_
   conv=>whnf
   refine ⟨[UInt8.ofNat (48+n % 10)],?_,?_⟩
   · have:∀ n < 10,IntKind.u8.wrap ((48+n:Nat):Int)=(((UInt8.ofNat (48+n)).toNat:Nat):Int):=by decide
     show [[V.int .u8 (IntKind.u8.wrap (IntKind.i64.wrap (48+(n:Int).tmod 10)))]]=[[V.int .u8 _]]
     rw [← e',show (48:Int)+((n % 10:Nat):Int)=((48+n % 10:Nat):Int) by omega,wrap64 (by omega) (by omega),this (n % 10) (by omega)]
   conv=>whnf
   refine And.intro ⟨_,.inl hr,rfl⟩ ?_
   conv=>whnf
   refine ⟨by show ds.length+1≤_; omega,?_⟩
   conv=>whnf
   first | rfl | skip
theorem l1Dec_all (n:Int) (h0:-9223372036854775808≤n) (h1:n≤9223372036854775807):Pure Tryd.prog 22 [.int .i64 n] (·=.str (Lib.itoa n)):=by
 by_cases hn:0≤n
 · obtain ⟨m,rfl⟩:∃ m:Nat,n=(m:Int):=⟨n.toNat,by omega⟩
   rw [itoa_nat]
   exact l1Dec_nat m (by omega)
 · by_cases hm:n < -9223372036854775807
   · obtain rfl:n=-9223372036854775808:=by omega
     have hv:Lib.itoa (-9223372036854775808)=[45,57,50,50,51,51,55,50,48,51,54,56,53,52,55,55,53,56,48,56]:=by
      rw [Lib.itoa,if_pos (by decide),show (-9223372036854775808:Int).natAbs=9223372036854775808 from rfl]
      simp [Lib.decDigits]
     rw [hv]
     refine pure_of_awp good Tryd.func22 rfl (by kernel_rfl) (by decide) ?_
     conv=>whnf
     rw [ltB_t (by omega)]
     conv=>whnf
     first | rfl | skip
   · obtain ⟨m,rfl⟩:∃ m:Nat,n=-(m:Int):=⟨n.natAbs,by omega⟩
     have hr:=l1Dec_nat m (by omega)
     have hl:=Lib.itoa_length_le (m:Int) (by omega) (by omega)
     rw [itoa_nat] at hl
     have hv:Lib.itoa (-(m:Int))=45::Lib.decDigits m:=by
      rw [Lib.itoa,if_pos (by omega),show (-(m:Int)).natAbs=m by omega]
     rw [hv]
     generalize Lib.decDigits m=ds at *
     have e:IntKind.i64.wrap (0 - -(m:Int))=(m:Int):=by rw [wrap64 (by omega) (by omega)]; omega
     refine pure_of_awp good Tryd.func22 rfl (by kernel_rfl) (by decide) ?_
     conv=>whnf
     rw [ltB_f (by omega)]
     conv=>whnf
     rw [ltB_t (by omega)]
     conv=>whnf
     rw [← e] at hr
     refine .inl (hr.mono ?_)
     rintro r rfl
     conv=>whnf
     refine ⟨by show 1+ds.length≤_; omega,?_⟩
     conv=>whnf
     first | rfl | skip
end Go.Cod
set_option linter.all false
namespace Go.Cod
open Go Go.Proofs
set_option linter.all false
set_option maxRecDepth 10000
def opW:List (List UInt8)→List UInt8
 | []=>[]
 | w::ws=>[91]++Lib.join (w::ws) [44]
theorem opW_ne (l:List (List UInt8)) (h:l≠[]):opW l=[91]++Lib.join l [44]:=by
 cases l with
 | nil=>exact absurd rfl h
 | cons a b=>rfl
theorem opW_snoc (l:List (List UInt8)) (w:List UInt8) (h:l≠[]):opW (l++[w])=opW l++[44]++w:=by
 rw [opW_ne l h,opW_ne _ (by simp),join_snoc l w [44] h]
 simp
theorem joinTail_take (r:List (List UInt8)) (k:Nat):(Lib.joinTail [44] (r.take k)).length≤(Lib.joinTail [44] r).length:=by
 have:Lib.joinTail [44] r=Lib.joinTail [44] (r.take k)++Lib.joinTail [44] (r.drop k):=by
  unfold Lib.joinTail
  rw [← List.flatten_append,← List.map_append,List.take_append_drop]
 rw [this,List.length_append]
 omega
theorem opW_len (l:List (List UInt8)) (k:Nat):(opW (l.take k)).length≤(Lib.join l [44]).length+1:=by
 cases l with
 | nil=>simp [opW]
 | cons x r =>
   cases k with
   | zero=>simp [opW]
   | succ k =>
     rw [List.take_succ_cons,opW_ne _ (by simp),Lib.join_cons,Lib.join_cons]
     have:=joinTail_take r k
     simp only [List.length_append,List.length_cons,List.length_nil]
     omega
theorem brW_opW (l:List (List UInt8)) (h:l≠[]):brW l=opW l++[93]:=by
 cases l with
 | nil=>exact absurd rfl h
 | cons a b=>rfl
theorem take_ne {l:List T} {i:Nat} (h0:i≠0) (h:i < l.length):(l.map T.wr).take i≠[]:=by
 intro e
 have:((l.map T.wr).take i).length=0:=by rw [e]; rfl
 rw [List.length_take,List.length_map] at this
 omega
set_option maxHeartbeats 1600000 in
theorem l2Write_pure1 (id:Int) (kd tx:List UInt8) (kids:List T) (hid:-9223372036854775808≤id∧id≤9223372036854775807) (hk:kd.length≤1048576) (htx:tx.length≤1048576) (hl:kids.length≤1048576)
  (hw:∀ t∈kids,Pure Tryd.prog 23 [.agg t.cells] (·=.str (T.wr t))∧(T.wr t).length≤1048576) (hj:(Lib.join (kids.map T.wr) [44]).length≤1048576) :
  Pure Tryd.prog 23 [.agg [.int .i64 id,.str kd,.str tx,.sl (T.rows kids)]] (·=.str (leafW id kd tx++brW (kids.map T.wr))):=by
 have hlr:=Go.Cod.rows_len kids
 have hi:=l1Dec_all id hid.1 hid.2
 have hll:=leafW_len id kd tx hid.1 hid.2
 have hil:=Lib.itoa_length_le id hid.1 hid.2
 have hof:=opW_len (kids.map T.wr)
 refine pure_of_awp good Tryd.func23 rfl (by kernel_rfl) (by decide) ?_
 conv=>whnf
 refine ⟨by show kd.length+1≤_; omega,?_⟩
 conv=>whnf
 refine ⟨_,.inl hi,?_⟩
 conv=>whnf
 refine ⟨by show (kd++[35]).length+(Lib.itoa id).length≤_; simp only [List.length_append,List.length_cons,List.length_nil]; omega,?_⟩
 conv=>whnf
 have hlw:leafW id kd tx=if tx=[] then kd++[35]++Lib.itoa id else kd++[35]++Lib.itoa id++[34]++tx++[34]:=rfl
 generalize leafW id kd tx=lw at *
 generalize Lib.itoa id=ds at *
 by_cases hx:tx=[]
 case' pos =>
  rw [if_pos hx] at hlw
  rw [eqS_t hx]
  conv=>whnf
 case' neg =>
  rw [if_neg hx] at hlw
  rw [eqS_f hx]
  conv=>whnf
  refine ⟨by show (kd++[35]++ds).length+1≤_; simp only [List.length_append,List.length_cons,List.length_nil]; omega,?_⟩
  conv=>whnf
  refine ⟨by show (kd++[35]++ds++[34]).length+tx.length≤_; simp only [List.length_append,List.length_cons,List.length_nil]; omega,?_⟩
  conv=>whnf
  refine ⟨by show (kd++[35]++ds++[34]++tx).length+1≤_; simp only [List.length_append,List.length_cons,List.length_nil]; omega,?_⟩
  conv=>whnf
 all_goals
  refine loop_intro (fun n fr st=>∃ i:Nat,n+i=kids.length∧st=[⟨[[.int .i64 id,.str kd,.str tx,.sl (T.rows kids)]],4,true,true,true,.cell⟩]∧Holds fr [(1,.ptr 0 0 0),(3,.str (lw++opW ((kids.map T.wr).take i))),(4,.int .i64 i)]) kids.length
   ⟨0,rfl,rfl,rfl,by rw [hlw]; simp [opW]; rfl,rfl,trivial⟩ ?_
  rintro n fr st ⟨i,hi,rfl,hh⟩
  obtain ⟨fr,rfl⟩:=hh.split
  clear hh
  conv=>whnf
  rw [hlr]
  have ho:=hof i
  by_cases hlt:i < kids.length
  · rw [ltB_t (by omega)]
    conv=>whnf
    have hg:=rows_get kids i hlt
    have htk:=wrL_take kids i hlt
    obtain ⟨hwt,hwl⟩:=hw kids[i] (List.getElem_mem hlt)
    have hof':=hof (i+1)
    generalize T.wr kids[i]=wd at *
    generalize kids[i]=t at *
    cases t with
    | mk id' kind' text' kids' =>
    by_cases h0:i=0
    · subst h0
      have hn1:opW ((kids.map T.wr).take (0+1))=[91]++wd:=by
       rw [htk,List.take_zero,List.nil_append,opW_ne _ (by simp),Lib.join_one]
      rw [hn1] at hof'
      rw [eqB_t (by rfl)]
      conv=>whnf
      refine ⟨by show (lw++[]).length+1≤_; simp only [List.length_append,List.length_cons,List.length_nil]; omega,?_⟩
      conv=>whnf
      refine ⟨by omega,T.rows kids,_,4,rfl,hg,rfl,rfl,?_⟩
      conv=>whnf
      refine .inl (hwt.mono ?_)
      rintro r rfl
      conv=>whnf
      refine ⟨by show (lw++[]++[91]).length+wd.length≤_; simp only [List.length_append,List.length_cons,List.length_nil]; omega,?_⟩
      conv=>whnf
      refine ⟨n - 1,by omega,0+1,by omega,rfl,rfl,?_,?_,trivial⟩
      · rw [hn1]
        show V.str (lw++[]++[91]++wd)=_
        simp
      · show V.int .i64 (IntKind.i64.wrap (0+1))=_
        rw [wrap64 (by omega) (by omega)]; simp
    · have hne:=take_ne h0 hlt
      have hn1:opW ((kids.map T.wr).take (i+1))=opW ((kids.map T.wr).take i)++[44]++wd:=by
       rw [htk,opW_snoc _ _ hne]
      rw [hn1] at hof'
      generalize opW ((kids.map T.wr).take i)=ac at *
      rw [eqB_f (by omega)]
      conv=>whnf
      refine ⟨by show (lw++ac).length+1≤_; simp only [List.length_append,List.length_cons,List.length_nil]; omega,?_⟩
      conv=>whnf
      refine ⟨by omega,T.rows kids,_,4,rfl,hg,rfl,rfl,?_⟩
      conv=>whnf
      refine .inl (hwt.mono ?_)
      rintro r rfl
      conv=>whnf
      refine ⟨by show (lw++ac++[44]).length+wd.length≤_; simp only [List.length_append,List.length_cons,List.length_nil]; omega,?_⟩
      conv=>whnf
      refine ⟨n - 1,by omega,i+1,by omega,rfl,rfl,?_,?_,trivial⟩
      · rw [hn1]
        show V.str (lw++ac++[44]++wd)=_
        simp
      · show V.int .i64 (IntKind.i64.wrap (i+1))=_
        rw [wrap64 (by omega) (by omega)]; simp
  · rw [ltB_f (by omega)]
    conv=>whnf
    rw [hlr]
    have hin:i=kids.length:=by omega
    subst hin
    have htl:(kids.map T.wr).take kids.length=kids.map T.wr:=List.take_of_length_le (by rw [List.length_map]; omega)
    rw [htl] at ho ⊢
    by_cases hz:0 < kids.length
    · have hnk:kids.map T.wr≠[]:=by
       intro e
       have:=congrArg List.length e
       rw [List.length_map,List.length_nil] at this
       omega
      rw [brW_opW _ hnk]
      rw [ltB_t (by omega)]
      conv=>whnf
      generalize opW (kids.map T.wr)=ac at *
      refine ⟨by show (lw++ac).length+1≤_; simp only [List.length_append,List.length_cons,List.length_nil]; omega,?_⟩
      conv=>whnf
      show V.str (lw++ac++[93])=_
      simp
    · have hk0:kids=[]:=List.eq_nil_of_length_eq_zero (by omega)
      rw [ltB_f (by omega)]
      conv=>whnf
      rw [hk0]
      rfl
theorem l2Write_pure (t:T) (hs:t.Small):∀ lv,plainT t lv=true→t.ids.length≤16000→Pure Tryd.prog 23 [.agg t.cells] (·=.str (T.wr t)):=by
 induction hs with
 | @mk id kd tx kids g1 g2 g3 g4 g5 ih =>
   intro lv h hn
   obtain ⟨h1,h2,h3,h4⟩:=plainT_kids h
   have hl:=(wr_len _ (.mk g1 g2 g3 g4 g5) lv h).2
   have hi:(T.mk id kd tx kids).ids.length=(T.idsL kids).length+1:=by simp [T.ids]
   have hk:∀ t∈kids,t.ids.length≤16000:=fun t ht=>by
    have:t.ids.length≤(T.idsL kids).length:=by
     obtain ⟨a,b,e⟩:=List.append_of_mem ht
     rw [e,idsL_append,T.idsL]
     simp; omega
    omega
   rw [T.wr,T.wrL_eq]
   refine l2Write_pure1 id kd tx kids g1 g2 g3 g4 (fun t ht=>⟨ih t ht (lv+1) (h4 t ht) (hk t ht),?_⟩) (by simp only [T.kids] at hl; omega)
   have:=(wr_len t (g5 t ht) (lv+1) (h4 t ht)).1
   have:=hk t ht
   omega
end Go.Cod
set_option linter.all false
namespace Go.Cod
open Go Go.Proofs
set_option linter.all false
set_option maxRecDepth 10000
def lineW (s:Stp):List UInt8 :=
 if s.kind=1 then [112,117,116,32]++Lib.itoa s.id++[32]++Lib.itoa s.at_++[32]++T.wr s.node++[10]
 else if s.kind=2 then [99,117,116,32]++Lib.itoa s.id++[10]
 else if s.kind=3 then [116,101,120,116,32]++Lib.itoa s.id++[32]++s.text++[10]
 else [107,105,110,100,32]++Lib.itoa s.id++[32]++s.text++[10]
structure Stp.I64 (s:Stp):Prop where
 i0:-9223372036854775808≤s.id
 i1:s.id≤9223372036854775807
 a0:-9223372036854775808≤s.at_
 a1:s.at_≤9223372036854775807
theorem wr_okLen {t:T} (hs:t.Small) (h:okT t=true):(T.wr t).length≤1280:=by
 unfold okT at h
 simp only [Bool.and_eq_true,decide_eq_true_eq] at h
 have:=(wr_len t hs 1 h.1.1).1
 omega
set_option maxHeartbeats 1600000 in
theorem stepLine_pure (s:Stp) (hs:s.node.Small) (htx:s.text.length≤1048576) (hb:s.I64) (hd:deedOk s=true):Pure Tryd.prog 17 [.agg s.cells] (·=.str (lineW s)):=by
 have f1:=itoa_all s.id hb.i0 hb.i1
 have f2:=itoa_all s.at_ hb.a0 hb.a1
 have l1:=Lib.itoa_length_le s.id hb.i0 hb.i1
 have l2:=Lib.itoa_length_le s.at_ hb.a0 hb.a1
 have f3:=implTreeWrite_pure s.node hs
 have l3:s.kind=1→(T.wr s.node).length≤1280∧okT s.node=true:=fun hk=>by
  have:okT s.node=true:=by
   unfold deedOk at hd
   rw [if_pos hk] at hd
   simp only [Bool.and_eq_true] at hd
   exact hd.2
  exact ⟨wr_okLen hs this,this⟩
 have hlw:lineW s=if s.kind=1 then [112,117,116,32]++Lib.itoa s.id++[32]++Lib.itoa s.at_++[32]++T.wr s.node++[10]
  else if s.kind=2 then [99,117,116,32]++Lib.itoa s.id++[10]
  else if s.kind=3 then [116,101,120,116,32]++Lib.itoa s.id++[32]++s.text++[10]
  else [107,105,110,100,32]++Lib.itoa s.id++[32]++s.text++[10]:=rfl
 rw [hlw]
 clear hlw hd
 cases s with
 | mk kind sid at_ node text =>
 simp only at f1 f2 l1 l2 f3 l3 htx hs ⊢
 clear hb
 generalize Lib.itoa sid=d1 at *
 generalize Lib.itoa at_=d2 at *
 generalize T.wr node=tw at *
 generalize okT node=ok at *
 cases node with
 | mk nid nk nx nks =>
 refine pure_of_awp good Tryd.func17 rfl (by kernel_rfl) (by decide) ?_
 conv=>whnf
 refine .inl (f1.mono ?_)
 rintro r rfl
 conv=>whnf
 by_cases k1:kind=1
 · obtain ⟨l3,h3⟩:=l3 k1
   rw [h3,if_pos rfl] at f3
   rw [if_pos k1,eqB_t k1]
   conv=>whnf
   refine ⟨by show 4+d1.length≤_; omega,?_⟩
   conv=>whnf
   refine ⟨by show ([112,117,116,32]++d1).length+1≤_; simp only [List.length_append,List.length_cons,List.length_nil]; omega,?_⟩
   conv=>whnf
   refine ⟨_,.inl f2,?_⟩
   conv=>whnf
   refine ⟨by show ([112,117,116,32]++d1++[32]).length+d2.length≤_; simp only [List.length_append,List.length_cons,List.length_nil]; omega,?_⟩
   conv=>whnf
   refine ⟨by show ([112,117,116,32]++d1++[32]++d2).length+1≤_; simp only [List.length_append,List.length_cons,List.length_nil]; omega,?_⟩
   conv=>whnf
   refine ⟨_,.inl f3,?_⟩
   conv=>whnf
   refine ⟨by show ([112,117,116,32]++d1++[32]++d2++[32]).length+tw.length≤_; simp only [List.length_append,List.length_cons,List.length_nil]; omega,?_⟩
   conv=>whnf
   refine ⟨by show ([112,117,116,32]++d1++[32]++d2++[32]++tw).length+1≤_; simp only [List.length_append,List.length_cons,List.length_nil]; omega,?_⟩
   conv=>whnf
 · rw [if_neg k1,eqB_f k1]
   conv=>whnf
   by_cases k2:kind=2
   · rw [if_pos k2,eqB_t k2]
     conv=>whnf
     refine ⟨by show 4+d1.length≤_; omega,?_⟩
     conv=>whnf
     refine ⟨by show ([99,117,116,32]++d1).length+1≤_; simp only [List.length_append,List.length_cons,List.length_nil]; omega,?_⟩
     conv=>whnf
   · rw [if_neg k2,eqB_f k2]
     conv=>whnf
     by_cases k3:kind=3
     · rw [if_pos k3,eqB_t k3]
       conv=>whnf
       refine ⟨by show 5+d1.length≤_; omega,?_⟩
       conv=>whnf
       refine ⟨by show ([116,101,120,116,32]++d1).length+1≤_; simp only [List.length_append,List.length_cons,List.length_nil]; omega,?_⟩
       conv=>whnf
       refine ⟨by show ([116,101,120,116,32]++d1++[32]).length+text.length≤_; simp only [List.length_append,List.length_cons,List.length_nil]; omega,?_⟩
       conv=>whnf
       refine ⟨by show ([116,101,120,116,32]++d1++[32]++text).length+1≤_; simp only [List.length_append,List.length_cons,List.length_nil]; omega,?_⟩
       conv=>whnf
     · rw [if_neg k3,eqB_f k3]
       conv=>whnf
       refine ⟨by show 5+d1.length≤_; omega,?_⟩
       conv=>whnf
       refine ⟨by show ([107,105,110,100,32]++d1).length+1≤_; simp only [List.length_append,List.length_cons,List.length_nil]; omega,?_⟩
       conv=>whnf
       refine ⟨by show ([107,105,110,100,32]++d1++[32]).length+text.length≤_; simp only [List.length_append,List.length_cons,List.length_nil]; omega,?_⟩
       conv=>whnf
       refine ⟨by show ([107,105,110,100,32]++d1++[32]++text).length+1≤_; simp only [List.length_append,List.length_cons,List.length_nil]; omega,?_⟩
       conv=>whnf
end Go.Cod
set_option linter.all false
set_option linter.all false
namespace Go.Cod
open Go Go.Proofs Go.RowKit
theorem pure_callsTup {P:Program} {f:FuncId} {xs:List V} {x:V} {b:Bool} {Pr:Nat→Nat→Prop} {w:World} {cargs:List Value} (hp:Pure P f xs (·=.tup [x,.bool b])) (hr:RepL Pr [] w xs cargs) (hlow:∀ b n,Pr b n→b < w.heap.size) (hl:Laid Pr w) :
  Calls P f cargs.toArray w fun e w'=>∃ u,e=.returned (.tuple #[u,.bool b])∧Below w.heap.size w w':=by
 refine (hp.calls hr hlow hl).mono ?_
 rintro e w' ⟨r,v,Pr',rfl,rfl,hv,hb⟩
 cases hv with
 | @tup cs us hl h =>
 match us,hl,h with
 | [u0,u1],_,h =>
   have h1:=h 1 _ u1 rfl rfl
   cases h1
   exact ⟨u0,rfl,hb⟩
theorem all_take {ls:List Stp} {p:Stp→Bool} {k:Nat} (hk:k < ls.length) (h:(ls.take k).all p=true) (h1:p ls[k]=true):(ls.take (k+1)).all p=true:=by
 rw [List.take_succ_eq_append_getElem hk,List.all_append,h]
 simp [h1]
theorem flatMap_takeT {α:Type} (f:α→List UInt8) (xs:List α) (i:Nat) (h:i < xs.length):(xs.take (i+1)).flatMap f=(xs.take i).flatMap f++f xs[i]:=by
 rw [List.take_succ_eq_append_getElem h,List.flatMap_append]
 simp
def stepsW (ls:List Stp):List UInt8:=if ls.all deedOk=true then ls.flatMap lineW else []
set_option maxHeartbeats 800000 in
set_option maxRecDepth 1000000 in
theorem stepsText_walk (Pr:Nat→Nat→Prop) (ls:List Stp) (w:World) (ad:Option Addr) (cap:Nat) (hlow:∀ b n,Pr b n→b < w.heap.size) (hl:Laid Pr w) (hsv:Rep Pr [] w (.sl (prows ls)) (.slice ad ls.length cap))
  (hls:∀ s∈ls,Pure Tryd.prog 15 [.agg s.cells] (·=.tup [deedV s,.bool (deedOk s)])∧(deedOk s=true→Pure Tryd.prog 17 [.agg s.cells] (·=.str (lineW s))∧(lineW s).length≤2000000)) (hnum:ls.length≤1048576) :
  Calls Tryd.prog 6 #[.slice ad ls.length cap] w fun e w'=>e=.returned (.string ⟨(stepsW ls).toArray⟩)∧Below w.heap.size w w':=by
 have hlen:=prows_len ls
 have hget:=prows_get ls
 have hwid:∀ e∈prows ls,e.length=8:=fun e he=>by
  obtain ⟨x,_,rfl⟩:=List.mem_map.1 he
  obtain ⟨_,_,_,⟨_,_,_,_⟩,_⟩:=x
  rfl
 generalize prows ls=rows at *
 obtain ⟨ad',cap',e1,hcap,hsl⟩:=rep_sl hsv hwid
 rw [hlen] at e1
 obtain ⟨rfl,-,rfl⟩:ad=ad'∧True∧cap=cap':=by simpa using e1
 clear e1
 have K1:∀ (w':World),Below w.heap.size w w'→Keep Pr Pr [] [] w w':=fun w' hb=>⟨fun _ _ h=>h,fun b n h=>cell_of_heap (hb.block b (hlow b n h)),fun _ _ h=>h⟩
 have hbld:=bld_fresh w
 have hbA:Below w.heap.size w (w.alloc (.cells #[.pointer none,.slice none 0 0] 45)):=(Below.refl _ w).alloc (Nat.le_refl _) _
 have accLen:∀ k,k≤ls.length→(ls.take k).all deedOk=true→((ls.take k).flatMap lineW).length≤2000000*k:=by
  intro k
  induction k with
  | zero=>intro _ _; simp
  | succ k ih =>
    intro h ha
    rw [List.take_succ_eq_append_getElem (by omega:k < ls.length),List.all_append,Bool.and_eq_true] at ha
    rw [flatMap_takeT lineW ls k (by omega),List.length_append]
    have:=ih (by omega) ha.1
    have hd:deedOk ls[k]=true:=by simpa using ha.2
    have:=((hls ls[k] (List.getElem_mem (by omega))).2 hd).2
    omega
 go_enter Tryd.func6,Tryd.ntmps6
 go_wp2
 go_loopw [10] (fun iv wr=>∃ k:Nat,k≤ls.length∧iv=.int .i64 k∧(ls.take k).all deedOk=true∧Bld w.heap.size w.heap.size ((ls.take k).flatMap lineW) wr∧Below w.heap.size w wr) (fun iv _=>ls.length - (intOf iv).toNat)
 case atStart=>exact ⟨0,Nat.zero_le _,rfl,rfl,hbld,hbA⟩
 case round =>
  obtain ⟨k,hk,rfl,hall,hI,hbR⟩:=hrel
  by_cases hp:k < ls.length
  · obtain ⟨b,off,rfl,hcl⟩:=hsl k _ (hget k hp)
    obtain ⟨hf,hg⟩:=hls ls[k] (List.getElem_mem hp)
    obtain ⟨kind,sid,at_,⟨nid,nk,nx,nks⟩,text,hr⟩:∃ kind sid at_ node text,ls[k]=⟨kind,sid,at_,node,text⟩:=⟨_,_,_,_,_,rfl⟩
    obtain ⟨u0,p0,q0,r0⟩:=hcl 0 (.int .i64 kind) (by rw [hr]; rfl)
    obtain ⟨u1,p1,_,r1⟩:=hcl 1 (.int .i64 sid) (by rw [hr]; rfl)
    obtain ⟨u2,p2,_,r2⟩:=hcl 2 (.int .i64 at_) (by rw [hr]; rfl)
    obtain ⟨u3,p3,_,r3⟩:=hcl 3 (.int .i64 nid) (by rw [hr]; rfl)
    obtain ⟨u4,p4,_,r4⟩:=hcl 4 (.str nk) (by rw [hr]; rfl)
    obtain ⟨u5,p5,_,r5⟩:=hcl 5 (.str nx) (by rw [hr]; rfl)
    obtain ⟨u6,p6,_,r6⟩:=hcl 6 (.sl (T.rows nks)) (by rw [hr]; rfl)
    obtain ⟨u7,p7,_,r7⟩:=hcl 7 (.str text) (by rw [hr]; rfl)
    cases r0
    cases r1
    cases r2
    cases r3
    cases r4
    cases r5
    cases r7
    obtain ⟨ad2,cap2,rfl,-,-⟩:=rep_sl (c:=4) r6 (fun e he=>by
     rw [T.rows_eq] at he
     obtain ⟨x,_,rfl⟩:=List.mem_map.1 he
     obtain ⟨_,_,_,_⟩:=x
     rfl)
    generalize (T.rows nks).length=nn at *
    have hbw0:b < w.heap.size:=hlow _ _ q0
    have cc:∀ n,wr.cell? ⟨b,n,none⟩=w.cell? ⟨b,n,none⟩:=fun n=>cell_of_heap (hbR.block b hbw0)
    have hks:(k:Int) < (ls.length:Int):=by omega
    have g0:wr.cell? ⟨b,off+k*8,none⟩=some (.int .i64 kind):=(cc _).trans p0
    have g1:wr.cell? ⟨b,off+k*8+1,none⟩=some (.int .i64 sid):=(cc _).trans p1
    have g2:wr.cell? ⟨b,off+k*8+2,none⟩=some (.int .i64 at_):=(cc _).trans p2
    have g3:wr.cell? ⟨b,off+k*8+3,none⟩=some (.int .i64 nid):=(cc _).trans p3
    have g4:wr.cell? ⟨b,off+k*8+4,none⟩=some (.string ⟨nk.toArray⟩):=(cc _).trans p4
    have g5:wr.cell? ⟨b,off+k*8+5,none⟩=some (.string ⟨nx.toArray⟩):=(cc _).trans p5
    have g6:wr.cell? ⟨b,off+k*8+6,none⟩=some (.slice ad2 nn cap2):=(cc _).trans p6
    have g7:wr.cell? ⟨b,off+k*8+7,none⟩=some (.string ⟨text.toArray⟩):=(cc _).trans p7
    rw [hr] at hf hg
    have HR:=Lib.hid hr
    clear hr cc p0 p1 p2 p3 p4 p5 p6 p7 hcl
    have hrep:RepL Pr [] w [.agg (Stp.cells ⟨kind,sid,at_,⟨nid,nk,nx,nks⟩,text⟩)] [.agg #[.int .i64 kind,.int .i64 sid,.int .i64 at_,.int .i64 nid,.string ⟨nk.toArray⟩,.string ⟨nx.toArray⟩,.slice ad2 nn cap2,.string ⟨text.toArray⟩]]:=by
     have h:=RepL.cons (.int .i64 kind) (RepL.cons (.int .i64 sid) (RepL.cons (.int .i64 at_) (RepL.cons (.int .i64 nid) (RepL.cons (.str nk) (RepL.cons (.str nx) (RepL.cons r6 (RepL.cons (.str text) RepL.nil)))))))
     exact RepL.cons (Rep.agg h.1 h.2) RepL.nil
    generalize Stp.cells ⟨kind,sid,at_,⟨nid,nk,nx,nks⟩,text⟩=scs at *
    generalize hdv:deedV ⟨kind,sid,at_,⟨nid,nk,nx,nks⟩,text⟩=dv at *
    generalize hdk:deedOk ⟨kind,sid,at_,⟨nid,nk,nx,nks⟩,text⟩=dk at *
    clear hdv
    have bR1:Below w.heap.size w (wr.alloc (.cells #[.int .i64 kind,.int .i64 sid,.int .i64 at_,.int .i64 nid,.string ⟨nk.toArray⟩,.string ⟨nx.toArray⟩,.slice ad2 nn cap2,.string ⟨text.toArray⟩] 30)):=hbR.alloc hbR.size _
    have q4:=hrep.keep (K1 _ bR1)
    have q5:∀ b n,Pr b n→b < (wr.alloc (.cells #[.int .i64 kind,.int .i64 sid,.int .i64 at_,.int .i64 nid,.string ⟨nk.toArray⟩,.string ⟨nx.toArray⟩,.slice ad2 nn cap2,.string ⟨text.toArray⟩] 30)).heap.size:=fun b n h=>Nat.lt_of_lt_of_le (hlow b n h) bR1.size
    have q6:Laid Pr (wr.alloc (.cells #[.int .i64 kind,.int .i64 sid,.int .i64 at_,.int .i64 nid,.string ⟨nk.toArray⟩,.string ⟨nx.toArray⟩,.slice ad2 nn cap2,.string ⟨text.toArray⟩] 30)):=hl.keep (K1 _ bR1)
    have HDK:=Lib.hid hdk
    clear hdk
    go_wp2_with (go_at_call 15; refine (pure_callsTup hf q4 q5 q6).mono ?_; rintro e w3 ⟨dvv,rfl,b3⟩; refine Hid.out ?_)
    refine Lib.hid ?_
    obtain ⟨b3',hb3⟩:=below_new b3
    have e0:w3.cell? ⟨wr.heap.size,0,none⟩=some (.int .i64 kind):=(cells_at hb3 0).trans rfl
    have e1:w3.cell? ⟨wr.heap.size,1,none⟩=some (.int .i64 sid):=(cells_at hb3 1).trans rfl
    have e2:w3.cell? ⟨wr.heap.size,2,none⟩=some (.int .i64 at_):=(cells_at hb3 2).trans rfl
    have e3:w3.cell? ⟨wr.heap.size,3,none⟩=some (.int .i64 nid):=(cells_at hb3 3).trans rfl
    have e4:w3.cell? ⟨wr.heap.size,4,none⟩=some (.string ⟨nk.toArray⟩):=(cells_at hb3 4).trans rfl
    have e5:w3.cell? ⟨wr.heap.size,5,none⟩=some (.string ⟨nx.toArray⟩):=(cells_at hb3 5).trans rfl
    have e6:w3.cell? ⟨wr.heap.size,6,none⟩=some (.slice ad2 nn cap2):=(cells_at hb3 6).trans rfl
    have e7:w3.cell? ⟨wr.heap.size,7,none⟩=some (.string ⟨text.toArray⟩):=(cells_at hb3 7).trans rfl
    have hb3R:Below w.heap.size w w3:=hbR.trans (b3'.mono hbR.size)
    have hI3:Bld w.heap.size w.heap.size ((ls.take k).flatMap lineW) w3:=bld_below hI b3'
    clear b3 hb3 q4 q5 q6 bR1
    cases dk with
    | false =>
      go_wp2
      go_ret
      refine ⟨?_,hb3R⟩
      have:ls.all deedOk=false:=by
       have hd:deedOk ls[k]=false:=by rw [HR.out,HDK.out]
       have:¬ ls.all deedOk=true:=fun h=>by
        have:=List.all_eq_true.1 h _ (List.getElem_mem hp)
        rw [hd] at this
        cases this
       simpa using this
      rw [stepsW,this]
      rfl
    | true =>
      obtain ⟨hg1,hg2⟩:=hg rfl
      have hs3:wr.heap.size < w3.heap.size:=by
       rcases Nat.lt_or_ge wr.heap.size w3.heap.size with h' | h'
       · exact h'
       · simp [World.cell?,Array.getElem?_eq_none h'] at e0
      have q7:=hrep.keep (K1 _ hb3R)
      have q8:∀ b n,Pr b n→b < w3.heap.size:=fun b n h=>Nat.lt_of_lt_of_le (hlow b n h) hb3R.size
      have q9:Laid Pr w3:=hl.keep (K1 _ hb3R)
      generalize hlw:lineW ⟨kind,sid,at_,⟨nid,nk,nx,nks⟩,text⟩=lw at *
      have HLW:=Lib.hid hlw
      clear hlw
      go_wp2_with (go_at_call 17; refine (hg1.callsStr q7 q8 q9).mono ?_; rintro e w4 ⟨rfl,b4⟩; refine Hid.out ?_)
      refine Lib.hid ?_
      have hI4:=bld_below hI3 b4
      have hN4:w.heap.size≤w4.heap.size:=Nat.le_trans hb3R.size b4.size
      have hal:=accLen k hk hall
      have hq:((ls.take k).flatMap lineW).length+(⟨lw.toArray⟩:ByteArray).size≤140737488355328:=by
       show _+lw.toArray.size≤_
       rw [List.size_toArray]
       omega
      go_wp2_with (go_at_call 16; refine (bld_write w.heap.size w.heap.size _ _ _ hI4 hq hN4).mono ?_; rintro e w5 ⟨rfl,hI5,b5⟩; refine Hid.out ?_)
      refine Lib.hid ?_
      go_wp2
      go_roundw
      case rel =>
       refine ⟨k+1,by omega,by go_num,all_take hp hall (by rw [HR.out,HDK.out]),?_,(hb3R.trans (b4.mono hb3R.size)).trans b5⟩
       rw [flatMap_takeT lineW ls k hp,HR.out,HLW.out]
       exact hI5
      case measure=>simp [intOf]; omega
  · have hN:w.heap.size≤wr.heap.size:=hbR.size
    have hks:¬ (k:Int) < (ls.length:Int):=by omega
    go_wp2_with (go_at_call 18; refine (bld_string w.heap.size w.heap.size _ _ hI hN).mono ?_; rintro e w5 ⟨rfl,b5⟩; refine Hid.out ?_)
    refine Lib.hid ?_
    go_wp2
    go_ret
    refine ⟨?_,hbR.trans b5⟩
    rw [List.take_of_length_le (by omega)] at hall ⊢
    simp [stepsW,hall]
end Go.Cod
set_option linter.all false
namespace Go.Cod
open Go Go.Proofs
set_option linter.all false
set_option maxRecDepth 10000
def specOk (s:Stp):Bool:=bareT s&&(decide (1≤s.kind∧s.kind≤4)&&(!decide (s.kind=1)||okT s.node))
theorem specOk_deed (s:Stp):specOk s=deedOk s:=by
 obtain ⟨kind,sid,at_,node,text⟩:=s
 unfold specOk bareT deedOk nothingT
 simp only
 by_cases k1:kind=1
 · subst k1
   simp
 · by_cases k2:kind=2
   · subst k2
     simp
     cases noneT node <;> cases decide (text=[]) <;> cases decide (at_=0) <;> rfl
   · by_cases k3:kind=3
     · subst k3
       simp
       cases noneT node <;> cases decide (at_=0) <;> rfl
     · by_cases k4:kind=4
       · subst k4
         simp
         cases noneT node <;> cases decide (at_=0) <;> rfl
       · have:¬ (1≤kind∧kind≤4):=by omega
         simp [k1,k2,k3,k4,this]
theorem lineW_len (s:Stp) (hs:s.node.Small) (htx:s.text.length≤1048576) (hb:s.I64) (hd:deedOk s=true):(lineW s).length≤2000000:=by
 have l1:=Lib.itoa_length_le s.id hb.i0 hb.i1
 have l2:=Lib.itoa_length_le s.at_ hb.a0 hb.a1
 unfold lineW
 split
 · rename_i hk
   have:okT s.node=true:=by
    unfold deedOk at hd
    rw [if_pos hk] at hd
    simp only [Bool.and_eq_true] at hd
    exact hd.2
   have:=wr_okLen hs this
   simp only [List.length_append,List.length_cons,List.length_nil]
   omega
 · split
   · simp only [List.length_append,List.length_cons,List.length_nil]; omega
   · split <;> simp only [List.length_append,List.length_cons,List.length_nil] <;> omega
theorem stepsText_pure (ls:List Stp) (hs:∀ s∈ls,s.node.Small∧s.text.length≤1048576∧s.I64) (hl:ls.length≤1048576):Pure Tryd.prog 6 [.sl (prows ls)] (·=.str (stepsW ls)):=by
 refine pure_of_below (r:=.str (stepsW ls)) ⟨_,Tryd.func6,by kernel_rfl,by kernel_rfl⟩ rfl fun Pr w cargs ha hst=>⟨_,fun _ _=>.str _,?_⟩
 obtain ⟨c,rfl,hc⟩:=repL_one ha
 obtain ⟨ad,cap,rfl,_,_⟩:=rep_sl (c:=8) hc (fun e he=>by
  obtain ⟨x,_,rfl⟩:=List.mem_map.1 he
  obtain ⟨_,_,_,⟨_,_,_,_⟩,_⟩:=x
  rfl)
 rw [prows_len] at hc ⊢
 exact stepsText_walk Pr ls w ad cap hst.low hst.laid hc (fun s h=>⟨stepDeedOf_pure s (hs s h).1,fun hd=>⟨stepLine_pure s (hs s h).1 (hs s h).2.1 (hs s h).2.2 hd,lineW_len s (hs s h).1 (hs s h).2.1 (hs s h).2.2 hd⟩⟩) hl
set_option maxHeartbeats 1600000 in
theorem specStepsText_pure (ls:List Stp) (hs:∀ s∈ls,s.node.Small∧s.text.length≤1048576∧s.I64) (hl:ls.length≤1048576) (hn:∀ s∈ls,s.node.ids.length≤1048577):Pure Tryd.prog 7 [.sl (prows ls)] (·=.str (stepsW ls)):=by
 have hlr:=prows_len ls
 have hgr:=prows_get ls
 have accLen:∀ k,k≤ls.length→(ls.take k).all deedOk=true→((ls.take k).flatMap lineW).length≤2000000*k:=by
  intro k
  induction k with
  | zero=>intro _ _; simp
  | succ k ih =>
    intro h ha
    rw [List.take_succ_eq_append_getElem (by omega:k < ls.length),List.all_append,Bool.and_eq_true] at ha
    rw [flatMap_takeT lineW ls k (by omega),List.length_append]
    have:=ih (by omega) ha.1
    have hd:deedOk ls[k]=true:=by simpa using ha.2
    obtain ⟨h1,h2,h3⟩:=hs ls[k] (List.getElem_mem (by omega))
    have:=lineW_len ls[k] h1 h2 h3 hd
    omega
 generalize prows ls=rows at *
 refine pure_of_awp good Tryd.func7 rfl (by kernel_rfl) (by decide) ?_
 conv=>whnf
 refine loop_drop (fun n fr st=>∃ i:Nat,n+i=ls.length∧st=[]∧(ls.take i).all deedOk=true∧Holds fr [(0,.sl rows),(3,.str ((ls.take i).flatMap lineW)),(4,.int .i64 i)]) ls.length none
  ⟨0,rfl,rfl,rfl,rfl,rfl,rfl,trivial⟩ ?_
 rintro n fr st ⟨i,hi,rfl,hall,hh⟩
 obtain ⟨fr,rfl⟩:=hh.split
 clear hh
 conv=>whnf
 rw [hlr]
 have hac:=accLen i (by omega) hall
 by_cases hlt:i < ls.length
 · rw [ltB_t (by omega)]
   conv=>whnf
   have hg:=hgr i hlt
   obtain ⟨h1,h2,h3⟩:=hs ls[i] (List.getElem_mem hlt)
   have hfm:=flatMap_takeT lineW ls i hlt
   have hat:=all_take (p:=deedOk) hlt hall
   have hbad:deedOk ls[i]=false→stepsW ls=[]:=fun hd=>by
    have:ls.all deedOk=false:=by
     have:¬ ls.all deedOk=true:=fun h=>by
      have:=List.all_eq_true.1 h _ (List.getElem_mem hlt)
      rw [hd] at this
      cases this
     simpa using this
    rw [stepsW,this]
    rfl
   have b1:=l4Bare_pure ls[i]
   have b2:=specTreeOk_pure ls[i].node h1 (hn _ (List.getElem_mem hlt))
   have b3:=l1Dec_all ls[i].id h3.i0 h3.i1
   have b4:=l1Dec_all ls[i].at_ h3.a0 h3.a1
   have m1:=Lib.itoa_length_le ls[i].id h3.i0 h3.i1
   have m2:=Lib.itoa_length_le ls[i].at_ h3.a0 h3.a1
   have b5:okT ls[i].node=true→Pure Tryd.prog 23 [.agg ls[i].node.cells] (·=.str (T.wr ls[i].node))∧(T.wr ls[i].node).length≤1280:=fun h=>⟨by
    have h':=h
    unfold okT at h'
    simp only [Bool.and_eq_true,decide_eq_true_eq] at h'
    exact l2Write_pure _ h1 1 h'.1.1 (by omega),wr_okLen h1 h⟩
   have hsp:=specOk_deed ls[i]
   have hlw:lineW ls[i]=if ls[i].kind=1 then [112,117,116,32]++Lib.itoa ls[i].id++[32]++Lib.itoa ls[i].at_++[32]++T.wr ls[i].node++[10]
    else if ls[i].kind=2 then [99,117,116,32]++Lib.itoa ls[i].id++[10]
    else if ls[i].kind=3 then [116,101,120,116,32]++Lib.itoa ls[i].id++[32]++ls[i].text++[10]
    else [107,105,110,100,32]++Lib.itoa ls[i].id++[32]++ls[i].text++[10]:=rfl
   unfold specOk at hsp
   generalize lineW ls[i]=lw at *
   generalize deedOk ls[i]=dk at *
   generalize bareT ls[i]=bb at *
   generalize (ls.take i).flatMap lineW=ac at *
   generalize stepsW ls=res at *
   generalize ls[i]=s at *
   cases s with
   | mk kind sid at_ node text =>
   simp only at h1 h2 b1 b2 b3 b4 b5 m1 m2 hsp hlw
   clear h3
   generalize okT node=okn at *
   generalize T.wr node=tw at *
   generalize Lib.itoa sid=d1 at *
   generalize Lib.itoa at_=d2 at *
   cases node with
   | mk nid nk nx nks =>
   have hg:rows[i]? = some [.int .i64 kind,.int .i64 sid,.int .i64 at_,.int .i64 nid,.str nk,.str nx,.sl (T.rows nks),.str text]:=hg
   refine ⟨by omega,rows,_,8,rfl,hg,rfl,rfl,?_⟩
   conv=>whnf
   refine .inl (b1.mono ?_)
   rintro r rfl
   cases bb with
   | false =>
     conv=>whnf
     rw [hbad (by simpa using hsp.symm)]
   | true =>
     conv=>whnf
     have b6:=l1In_pure kind 1 4
     by_cases hk:1≤kind∧kind≤4
     · rw [decide_eq_true hk] at b6 hsp
       refine .inl (b6.mono ?_)
       rintro r rfl
       conv=>whnf
       obtain rfl | rfl | rfl | rfl:kind=1∨kind=2∨kind=3∨kind=4:=by omega
       · rw [eqB_t (by rfl)]
         conv=>whnf
         refine .inl (b2.mono ?_)
         rintro r rfl
         cases okn with
         | false =>
           conv=>whnf
           rw [hbad (by simpa using hsp.symm)]
         | true =>
           conv=>whnf
           have hdk:dk=true:=by simpa using hsp.symm
           obtain ⟨b5,m5⟩:=b5 rfl
           rw [if_pos rfl] at hlw
           refine ⟨_,.inl b3,?_⟩
           conv=>whnf
           refine And.intro ⟨_,.inl b3,rfl⟩ ?_
           conv=>whnf
           refine ⟨by decide,_,_,1,rfl,rfl,rfl,rfl,?_⟩
           conv=>whnf
           repeat
            first
             | (refine AtRow_intro _ rfl ?_; conv=>whnf)
             | (refine And.intro (by (conv=>whnf); first | rfl | exact ⟨_,.inl b3,rfl⟩ | exact AtRow_intro _ rfl rfl | exact ⟨by decide,_,_,1,rfl,rfl,rfl,rfl,rfl⟩ | exact ⟨by simp; omega,rfl⟩) ?_; conv=>whnf)
             | (refine ⟨by simp; omega,?_⟩; conv=>whnf)
           rw [eqB_t (by rfl)]
           conv=>whnf
           refine ⟨by simp; omega,?_⟩
           conv=>whnf
           refine ⟨_,.inl b4,?_⟩
           conv=>whnf
           refine ⟨by simp; omega,?_⟩
           conv=>whnf
           refine ⟨by simp; omega,?_⟩
           conv=>whnf
           refine ⟨_,.inl b5,?_⟩
           conv=>whnf
           refine ⟨by simp; omega,?_⟩
           conv=>whnf
           refine ⟨by simp; omega,?_⟩
           conv=>whnf
           refine ⟨n - 1,by omega,some [],?_⟩
           conv=>whnf
           refine ⟨i+1,by omega,rfl,hat hdk,rfl,?_,?_,trivial⟩
           · rw [hfm,hlw]
             show V.str _=_
             simp
           · show V.int .i64 (IntKind.i64.wrap (i+1))=_
             rw [wrap64 (by omega) (by omega)]; simp
       · have hdk:dk=true:=by simpa using hsp.symm
         rw [eqB_f (by show (2:Int)≠1; decide)]
         conv=>whnf
         refine ⟨_,.inl b3,?_⟩
         conv=>whnf
         refine And.intro ⟨_,.inl b3,rfl⟩ ?_
         conv=>whnf
         refine ⟨by decide,_,_,1,rfl,rfl,rfl,rfl,?_⟩
         conv=>whnf
         repeat
          first
           | (refine AtRow_intro _ rfl ?_; conv=>whnf)
           | (refine And.intro (by (conv=>whnf); first | rfl | exact ⟨_,.inl b3,rfl⟩ | exact AtRow_intro _ rfl rfl | exact ⟨by decide,_,_,1,rfl,rfl,rfl,rfl,rfl⟩ | exact ⟨by simp; omega,rfl⟩) ?_; conv=>whnf)
           | (refine ⟨by simp; omega,?_⟩; conv=>whnf)
         rw [eqB_f (by show (2:Int)≠1; decide)]
         conv=>whnf
         rw [if_neg (by decide),if_pos rfl] at hlw
         rw [eqB_f (by show (2:Int)≠3; decide)]
         conv=>whnf
         rw [eqB_f (by show (2:Int)≠4; decide)]
         conv=>whnf
         refine ⟨by simp; omega,?_⟩
         conv=>whnf
         refine ⟨n - 1,by omega,some [],?_⟩
         conv=>whnf
         refine ⟨i+1,by omega,rfl,hat hdk,rfl,?_,?_,trivial⟩
         · rw [hfm,hlw]
           show V.str _=_
           simp
         · show V.int .i64 (IntKind.i64.wrap (i+1))=_
           rw [wrap64 (by omega) (by omega)]; simp
       · have hdk:dk=true:=by simpa using hsp.symm
         rw [eqB_f (by show (3:Int)≠1; decide)]
         conv=>whnf
         refine ⟨_,.inl b3,?_⟩
         conv=>whnf
         refine And.intro ⟨_,.inl b3,rfl⟩ ?_
         conv=>whnf
         refine ⟨by decide,_,_,1,rfl,rfl,rfl,rfl,?_⟩
         conv=>whnf
         repeat
          first
           | (refine AtRow_intro _ rfl ?_; conv=>whnf)
           | (refine And.intro (by (conv=>whnf); first | rfl | exact ⟨_,.inl b3,rfl⟩ | exact AtRow_intro _ rfl rfl | exact ⟨by decide,_,_,1,rfl,rfl,rfl,rfl,rfl⟩ | exact ⟨by simp; omega,rfl⟩) ?_; conv=>whnf)
           | (refine ⟨by simp; omega,?_⟩; conv=>whnf)
         rw [eqB_f (by show (3:Int)≠1; decide)]
         conv=>whnf
         rw [if_neg (by decide),if_neg (by decide),if_pos rfl] at hlw
         rw [eqB_t (by rfl)]
         conv=>whnf
         refine ⟨by simp; omega,?_⟩
         conv=>whnf
         refine ⟨by simp; omega,?_⟩
         conv=>whnf
         refine ⟨by simp; omega,?_⟩
         conv=>whnf
         refine ⟨n - 1,by omega,some [],?_⟩
         conv=>whnf
         refine ⟨i+1,by omega,rfl,hat hdk,rfl,?_,?_,trivial⟩
         · rw [hfm,hlw]
           show V.str _=_
           simp
         · show V.int .i64 (IntKind.i64.wrap (i+1))=_
           rw [wrap64 (by omega) (by omega)]; simp
       · have hdk:dk=true:=by simpa using hsp.symm
         rw [eqB_f (by show (4:Int)≠1; decide)]
         conv=>whnf
         refine ⟨_,.inl b3,?_⟩
         conv=>whnf
         refine And.intro ⟨_,.inl b3,rfl⟩ ?_
         conv=>whnf
         refine ⟨by decide,_,_,1,rfl,rfl,rfl,rfl,?_⟩
         conv=>whnf
         repeat
          first
           | (refine AtRow_intro _ rfl ?_; conv=>whnf)
           | (refine And.intro (by (conv=>whnf); first | rfl | exact ⟨_,.inl b3,rfl⟩ | exact AtRow_intro _ rfl rfl | exact ⟨by decide,_,_,1,rfl,rfl,rfl,rfl,rfl⟩ | exact ⟨by simp; omega,rfl⟩) ?_; conv=>whnf)
           | (refine ⟨by simp; omega,?_⟩; conv=>whnf)
         rw [eqB_f (by show (4:Int)≠1; decide)]
         conv=>whnf
         rw [if_neg (by decide),if_neg (by decide),if_neg (by decide)] at hlw
         rw [eqB_f (by show (4:Int)≠3; decide)]
         conv=>whnf
         rw [eqB_t (by rfl)]
         conv=>whnf
         refine ⟨by simp; omega,?_⟩
         conv=>whnf
         refine ⟨by simp; omega,?_⟩
         conv=>whnf
         refine ⟨by simp; omega,?_⟩
         conv=>whnf
         refine ⟨n - 1,by omega,some [],?_⟩
         conv=>whnf
         refine ⟨i+1,by omega,rfl,hat hdk,rfl,?_,?_,trivial⟩
         · rw [hfm,hlw]
           show V.str _=_
           simp
         · show V.int .i64 (IntKind.i64.wrap (i+1))=_
           rw [wrap64 (by omega) (by omega)]; simp
     · rw [decide_eq_false hk] at b6 hsp
       refine .inl (b6.mono ?_)
       rintro r rfl
       conv=>whnf
       rw [hbad (by simpa using hsp.symm)]
 · rw [ltB_f (by omega)]
   conv=>whnf
   have hin:i=ls.length:=by omega
   subst hin
   rw [List.take_of_length_le (Nat.le_refl _)] at hall ⊢
   rw [stepsW,if_pos hall]
end Go.Cod
set_option linter.all false
namespace Go.Cod
open Go Go.Proofs Go.ChangeShapes Go.WideShapes Go.ChangeAt Go.RowKit
set_option maxRecDepth 10000
theorem ownK:ownKnob Tryd.prog.godebug=none:=by kernel_rfl
theorem lawFnExactStepsText (ls:List Stp) (h:(∀ s∈ls,s.Ok)∧ls.length≤maxLen):Pure Tryd.prog 4 [.sl (prows ls)] (·=.bool true):=by
 have hsz:=szSteps_pure ls h.1 h.2 1048576 (by omega) (by omega)
 have hsm:=szLs_small ls 1048576 h.1 (by omega)
 have hall:0≤szLs ls 1048576→ls.length≤1048576∧(∀ s∈ls,s.node.Small)∧(∀ s∈ls,s.node.Small∧s.text.length≤1048576∧s.I64)∧(∀ s∈ls,s.node.ids.length≤1048577):=fun hz=>by
  obtain ⟨h1,h2⟩:=hsm hz
  refine ⟨h2,fun s hs=>(h1 s hs).1,fun s hs=>⟨(h1 s hs).1,(h1 s hs).2.2,?_⟩,fun s hs=>?_⟩
  · exact ⟨(h.1 s hs).i.1,(h.1 s hs).i.2,(h.1 s hs).a.1,(h.1 s hs).a.2⟩
  · have:=(h1 s hs).2.1
    rw [T.ids_size]; omega
 have f1:=toSteps_pure ls
 have f2:=specStepsText_pure ls
 have f3:=stepsText_pure ls
 have f4:=eqSteps_pure ls
 generalize szLs ls 1048576=left at *
 generalize stepsW ls=res at *
 generalize prows ls=rows at *
 refine pure_of_awp good Tryd.func4 rfl (by kernel_rfl) (by decide) ?_
 conv=>whnf
 refine .inl (hsz.mono ?_)
 rintro r rfl
 conv=>whnf
 by_cases a1:left < 0
 · rw [ltB_t a1]
   conv=>whnf
 rw [ltB_f (by omega)]
 obtain ⟨z1,z2,z3,z4⟩:=hall (by omega)
 have f1:=f1 z1 z2
 have f2:=f2 z3 z1 z4
 have f3:=f3 z3 z1
 have f4:=f4 z2 z1
 conv=>whnf
 refine .inl (f1.mono ?_)
 rintro r rfl
 conv=>whnf
 refine .inl (f2.mono ?_)
 rintro r rfl
 conv=>whnf
 refine .inl (f1.mono ?_)
 rintro r rfl
 conv=>whnf
 refine .inl (f3.mono ?_)
 rintro r rfl
 conv=>whnf
 rw [eqS_refl]
 conv=>whnf
 refine .inl (f1.mono ?_)
 rintro r rfl
 conv=>whnf
 refine .inl (f4.mono ?_)
 rintro r rfl
 conv=>whnf
theorem conFnExactStepsText (H:Type) (enc:TypeId × Value→H) (W:World) (base:Nat) (args:Array Value) (ds gs:List (DataW H)) (before:List MemPlace)
  (hval:∀ (j:Nat) t v,Tryd.f4.params[j]? = some t→args[j]? = some v→Value.okWide Tryd.prog W .any base t v)
  (hW:DataW.Whole enc Tryd.prog Tryd.f4.params.toList YtbekcgbmahcliaaDoor.Rows.fnExactStepsTextSpec.vars false W args.toList ds gs before) (hL:laidMetH Tryd.prog YtbekcgbmahcliaaDoor.Rows.fnExactStepsTextRow.laid W) {fresh handsOn again:Bool} :
  Calls Tryd.prog 4 args W fun e W'=>∃ v,e=.returned v∧YtbekcgbmahcliaaDoor.Rows.fnExactStepsTextSpec.post enc Tryd.prog Tryd.f4 false fresh handsOn again W args v W':=by
 have hm:laidMet Tryd.prog YtbekcgbmahcliaaDoor.Rows.fnExactStepsTextRow.laid W:=by
  rw [← MakeChecks.laidMetH_plain _ _ _ (by kernel_rfl)]; exact hL
 replace hm:=laidMet.tail hm
 replace hm:=laidMet.tail hm
 have t0:=Go.Lib.tabIs_of_head (zs:=[1,10,100,1000,10000,100000,1000000,10000000,100000000,1000000000,10000000000,100000000000,1000000000000,10000000000000,100000000000000,1000000000000000,10000000000000000,100000000000000000,1000000000000000000,10000000000000000000]) (k:=.u64) (g:=0) (t:=146) (e:=140) (n:=20) (by kernel_rfl) (by kernel_rfl) Tryd.underlying146 Tryd.underlying140 (by kernel_rfl) (by kernel_rfl) hm
 replace hm:=laidMet.tail hm
 letI A:Adr:=⟨fun g=>match g with | _=>default⟩
 have hlaid:Laid (oldP W) W:=by
  intro g cs h
  match g,h with
  | 0,h=>cases h; exact rep_tab (by kernel_rfl) t0
  | g+3,h=>cases h
 refine law_callsV kids full globals_ok (tb:=4) rfl Tryd.underlying4 (by decide +kernel) hW (fun ds gs h h'=>by match ds,gs,h,h' with | [_],[],_,_=>exact ⟨rfl,rfl,rfl⟩) hval
  (Ss:=[fun x=>∃ ls:List Stp,x=.sl (prows ls)∧(∀ s∈ls,s.Ok)∧ls.length≤maxLen]) hlaid ?_ ?_
 · rw [Tryd.params4]
   exact ⟨argSteps,trivial⟩
 · intro xs h
   obtain ⟨_,rfl,⟨t0,rfl,h0⟩⟩:=hold1 h
   exact lawFnExactStepsText t0 h0
theorem doorFnExactStepsText (os:Os) (args:Array Value):laidMetH Tryd.prog YtbekcgbmahcliaaDoor.Rows.fnExactStepsTextRow.laid ((World.doorLaid Tryd.prog 400 os).forCall (fun _ _=>0) ⟨#[],args,[]⟩).memory :=
 laidMetH_of_parts3 (fuel:=8) (laidMet_of_run' 8 (by kernel_rfl) (by kernel_rfl)) (by kernel_rfl) (by kernel_rfl)
set_option maxRecDepth 100000 in
theorem rowFnExactStepsText:YtbekcgbmahcliaaDoor.Rows.FnExactStepsTextSaid :=
 OpenClaim.holds_of_wide 4 Tryd.f4 rfl rfl rfl rfl rfl rfl rfl ⟨rfl,rfl,rfl,rfl,rfl⟩ rfl rfl rfl rfl rfl (by kernel_rfl) Tryd.func4 (by kernel_rfl)
  (of_decide_eq_true (by kernel_rfl)) (by unfold Func.isWrapper; first | (rw [if_pos (by decide +kernel)]; kernel_rfl) | (rw [if_neg (by decide +kernel)]; exact ⟨rfl,rfl⟩))
  (fun os started H enc _=>returnsInHanded_of_change_and (C:=Tryd.checked) (X:=fun w _=>laidMetH Tryd.prog YtbekcgbmahcliaaDoor.Rows.fnExactStepsTextRow.laid w) (fun _ _ _ hh h=>h.of_heap hh) ownK started (by kernel_rfl) Tryd.func4
    (ChangeSpec.witness_shaped (enc:=enc) (C:=Tryd.checked) (os:=os) (X:=fun w _=>laidMetH Tryd.prog YtbekcgbmahcliaaDoor.Rows.fnExactStepsTextRow.laid w) false (World.doorLaid Tryd.prog 400 os) #[.slice none 0 0] 8 rfl (World.shaped_of_RefB (by kernel_rfl) (by kernel_rfl)) (by kernel_rfl) (by kernel_rfl) (by kernel_rfl) (doorFnExactStepsText os _))
    (fun W base args ds gs before hval hW _ _ hL _=>conFnExactStepsText H enc W base args ds gs before hval hW hL))
set_option maxRecDepth 100000 in
theorem overFnExactStepsText:YtbekcgbmahcliaaDoor.Rows.FnExactStepsTextCardSaid :=
 Claim7.holds_tied_plain_at .later [] [.data, .data, .data] true (true, "8bdcdf0e0b4d02deea9220bf26d5215c33536a60df6b99c1cdc918f0ea102c30") false
  rowFnExactStepsText (fun _ h=>by cases h) (by kernel_rfl) (fun _ h=>by cases h) YtbekcgbmahcliaaDoor.fnExactStepsText_row_tie rfl ⟨rfl,rfl⟩ (by kernel_rfl) rfl
  (fun f fn hf hfn=>by
    obtain rfl : f = 4 := Option.some.inj ((show Tryd.prog.funcNamed "loop.example/codicil/laws.FnExactStepsText" = some 4 by kernel_rfl).symm.trans hf) |>.symm
    obtain rfl:fn=Tryd.f4:=(Option.some.inj (Tryd.func4.symm.trans hfn)).symm
    exact ⟨by kernel_rfl,fun j t ht=>by
     rw [Tryd.params4] at ht
     have hm:t∈([32]:List Nat):=by simpa using Array.mem_of_getElem? ht
     have hall:(([32]:List Nat).all fun u=>!Tryd.prog.wantsStandIn u)=true:=by kernel_rfl
     exact (show Tryd.prog.wantsStandIn t=false by simpa using List.all_eq_true.1 hall t hm)⟩)
  (by kernel_rfl)
end Go.Cod
