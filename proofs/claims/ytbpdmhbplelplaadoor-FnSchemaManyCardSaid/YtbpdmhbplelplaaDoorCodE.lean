import Derived.Test.YtbpdmhbplelplaaDoorChecked
import Derived.Test.YtbpdmhbplelplaaDoorRows
import Derived.WalkKit
import Derived.LaidEql
import Derived.RowKitTokens
import Derived.Stop.LaidErr
import Derived.ProofKit
import Derived.OpenShut
import Derived.JoinedOf
import Derived.Handed
import Derived.Test.YtbpdmhbplelplaaDoorCodD
set_option linter.all false
namespace Go.Cod
open Go Go.Proofs
variable [Adr]
instance lam0:Lam:=⟨fun g=>match g with
 | 0=>some (sentCells 169 0)
 | 3=>some (sentCells 169 3)
 | 4=>some (sentCells 169 4)
 | 5=>some (sentCells 169 5)
 | _=>none,fun g=>false,fun g=>false,fun g=>false,fun g=>Nat.beq g 23||Nat.beq g 30||Nat.beq g 26⟩
def tauL:List (Nat × TI):=[
 (1,⟨.other,1,8,.raw .nilFunc,[],[],false⟩),
 (2,⟨.int .i64,1,8,.int .i64 0,[],[],false⟩),
 (3,⟨.int .i64,1,8,.int .i64 0,[],[],false⟩),
 (4,⟨.bool,1,1,.bool false,[],[],false⟩),
 (5,⟨.int .u8,1,1,.int .u8 0,[],[],false⟩),
 (6,⟨.int .u8,1,1,.int .u8 0,[],[],false⟩),
 (7,⟨.agg,4,24,.agg [.int .i64 0,.int .i64 0,.bool false,.int .u8 0],[(0,1,false),(1,1,false),(2,1,false),(3,1,false)],[],false⟩),
 (8,⟨.agg,4,24,.agg [.int .i64 0,.int .i64 0,.bool false,.int .u8 0],[(0,1,false),(1,1,false),(2,1,false),(3,1,false)],[],false⟩),
 (9,⟨.str,1,16,.str [],[],[],false⟩),
 (10,⟨.str,1,16,.str [],[],[],false⟩),
 (11,⟨.str,1,16,.str [],[],[],false⟩),
 (12,⟨.int .u64,1,8,.int .u64 0,[],[],false⟩),
 (13,⟨.agg,2,24,.agg [.str [],.int .u64 0],[(0,1,false),(1,1,false)],[],false⟩),
 (14,⟨.agg,2,24,.agg [.str [],.int .u64 0],[(0,1,false),(1,1,false)],[],false⟩),
 (15,⟨.ptr,1,8,.raw (.pointer none),[],[],false⟩),
 (16,⟨.ptr,1,8,.raw (.pointer none),[],[],false⟩),
 (17,⟨.ptr,1,8,.raw (.pointer none),[],[],false⟩),
 (18,⟨.agg,1,8,.agg [.raw (.pointer none)],[(0,1,false)],[],false⟩),
 (19,⟨.agg,1,8,.agg [.raw (.pointer none)],[(0,1,false)],[],false⟩),
 (20,⟨.iface,1,16,.raw .nilIface,[],[],false⟩),
 (21,⟨.int .i32,1,4,.int .i32 0,[],[],false⟩),
 (22,⟨.slice 5,1,24,.nils,[],[],false⟩),
 (23,⟨.slice 32,1,24,.nils,[],[],false⟩),
 (24,⟨.agg,2,40,.agg [.str [],.nils],[(0,1,false),(1,1,false)],[],false⟩),
 (25,⟨.agg,2,40,.agg [.str [],.nils],[(0,1,false),(1,1,false)],[],false⟩),
 (26,⟨.slice 9,1,24,.nils,[],[],false⟩),
 (28,⟨.other,1,8,.raw .nilFunc,[],[],false⟩),
 (29,⟨.other,1,8,.raw .nilFunc,[],[],false⟩),
 (30,⟨.slice 34,1,24,.nils,[],[],false⟩),
 (31,⟨.agg,3,48,.agg [.str [],.bool false,.nils],[(0,1,false),(1,1,false),(2,1,false)],[],false⟩),
 (32,⟨.agg,3,48,.agg [.str [],.bool false,.nils],[(0,1,false),(1,1,false),(2,1,false)],[],false⟩),
 (33,⟨.agg,3,24,.agg [.str [],.bool false,.bool false],[(0,1,false),(1,1,false),(2,1,false)],[],false⟩),
 (34,⟨.agg,3,24,.agg [.str [],.bool false,.bool false],[(0,1,false),(1,1,false),(2,1,false)],[],false⟩),
 (35,⟨.other,1,8,.raw .nilFunc,[],[],false⟩),
 (36,⟨.slice 38,1,24,.nils,[],[],false⟩),
 (37,⟨.agg,4,64,.agg [.int .i64 0,.str [],.str [],.nils],[(0,1,false),(1,1,false),(2,1,false),(3,1,false)],[],false⟩),
 (38,⟨.agg,4,64,.agg [.int .i64 0,.str [],.str [],.nils],[(0,1,false),(1,1,false),(2,1,false),(3,1,false)],[],false⟩),
 (40,⟨.other,1,8,.raw .nilFunc,[],[],false⟩),
 (41,⟨.other,1,8,.raw .nilFunc,[],[],false⟩),
 (42,⟨.other,1,8,.raw .nilFunc,[],[],false⟩),
 (43,⟨.other,1,8,.raw .nilFunc,[],[],false⟩),
 (44,⟨.slice 3,1,24,.nils,[],[],false⟩),
 (45,⟨.other,1,8,.raw .nilFunc,[],[],false⟩),
 (47,⟨.other,1,8,.raw .nilFunc,[],[],false⟩),
 (48,⟨.other,1,8,.raw .nilFunc,[],[],false⟩),
 (49,⟨.slice 136,1,24,.nils,[],[],false⟩),
 (50,⟨.agg,2,40,.agg [.str [],.nils],[(0,1,false),(1,1,false)],[],false⟩),
 (51,⟨.agg,2,40,.agg [.str [],.nils],[(0,1,false),(1,1,false)],[],false⟩),
 (52,⟨.other,1,8,.raw .nilFunc,[],[],false⟩),
 (53,⟨.other,1,8,.raw .nilFunc,[],[],false⟩),
 (54,⟨.other,1,8,.raw .nilFunc,[],[],false⟩),
 (55,⟨.other,1,8,.raw .nilFunc,[],[],false⟩),
 (56,⟨.other,1,8,.raw .nilFunc,[],[],false⟩),
 (57,⟨.slice 59,1,24,.nils,[],[],false⟩),
 (58,⟨.agg,4,64,.agg [.int .i64 0,.str [],.str [],.nils],[(0,1,false),(1,1,false),(2,1,false),(3,1,false)],[],false⟩),
 (59,⟨.agg,4,64,.agg [.int .i64 0,.str [],.str [],.nils],[(0,1,false),(1,1,false),(2,1,false),(3,1,false)],[],false⟩),
 (60,⟨.other,1,8,.raw .nilFunc,[],[],false⟩),
 (61,⟨.other,1,8,.raw .nilFunc,[],[],false⟩),
 (62,⟨.other,1,8,.raw .nilFunc,[],[],false⟩),
 (63,⟨.other,1,8,.raw .nilFunc,[],[],false⟩),
 (64, ⟨.ptr, 1, 8, .raw (.pointer none), [], [("loop.example/codicil/spec.of", 29), ("loop.example/codicil/spec.pick", 28)], false⟩),
 (65,⟨.other,1,8,.raw .nilFunc,[],[],false⟩),
 (66,⟨.other,1,8,.raw .nilFunc,[],[],false⟩),
 (67,⟨.other,1,8,.raw .nilFunc,[],[],false⟩),
 (68,⟨.other,1,8,.raw .nilFunc,[],[],false⟩),
 (69,⟨.iface,1,16,.raw .nilIface,[],[],false⟩),
 (70,⟨.iface,1,16,.raw .nilIface,[],[],false⟩),
 (72,⟨.other,1,8,.raw .nilFunc,[],[],false⟩),
 (73,⟨.other,1,8,.raw .nilFunc,[],[],false⟩),
 (74,⟨.other,1,8,.raw .nilFunc,[],[],false⟩),
 (75,⟨.other,1,8,.raw .nilFunc,[],[],false⟩),
 (76,⟨.other,1,8,.raw .nilFunc,[],[],false⟩),
 (77,⟨.other,1,8,.raw .nilFunc,[],[],false⟩),
 (78,⟨.other,1,8,.raw .nilFunc,[],[],false⟩),
 (79,⟨.other,1,8,.raw .nilFunc,[],[],false⟩),
 (80,⟨.other,1,8,.raw .nilFunc,[],[],false⟩),
 (81,⟨.other,1,8,.raw .nilFunc,[],[],false⟩),
 (82,⟨.other,1,8,.raw .nilFunc,[],[],false⟩),
 (83,⟨.other,1,8,.raw .nilFunc,[],[],false⟩),
 (84,⟨.agg,6,80,.agg [.int .i64 0,.str [],.str [],.nils,.int .i64 0,.int .i64 0],[(0,4,true),(4,1,false),(5,1,false)],[],false⟩),
 (85,⟨.agg,6,80,.agg [.int .i64 0,.str [],.str [],.nils,.int .i64 0,.int .i64 0],[(0,4,true),(4,1,false),(5,1,false)],[],false⟩),
 (86,⟨.other,1,8,.raw .nilFunc,[],[],false⟩),
 (87,⟨.map 3 4,1,8,.raw (.map none),[],[],false⟩),
 (88,⟨.other,1,8,.raw .nilFunc,[],[],false⟩),
 (89,⟨.other,1,8,.raw .nilFunc,[],[],false⟩),
 (90,⟨.other,1,8,.raw .nilFunc,[],[],false⟩),
 (91,⟨.other,1,8,.raw .nilFunc,[],[],false⟩),
 (93,⟨.other,1,8,.raw .nilFunc,[],[],false⟩),
 (94,⟨.other,1,8,.raw .nilFunc,[],[],false⟩),
 (95,⟨.other,1,8,.raw .nilFunc,[],[],false⟩),
 (96,⟨.other,1,8,.raw .nilFunc,[],[],false⟩),
 (97,⟨.other,1,8,.raw .nilFunc,[],[],false⟩),
 (98,⟨.ptr,1,8,.raw (.pointer none),[],[],false⟩),
 (99,⟨.agg,2,32,.agg [.raw (.pointer none),.nils],[(0,1,false),(1,1,false)],[],false⟩),
 (100,⟨.agg,2,32,.agg [.raw (.pointer none),.nils],[(0,1,false),(1,1,false)],[],false⟩),
 (102,⟨.other,1,8,.raw .nilFunc,[],[],false⟩),
 (103,⟨.other,1,8,.raw .nilFunc,[],[],false⟩),
 (104,⟨.other,1,8,.raw .nilFunc,[],[],false⟩),
 (105,⟨.other,1,8,.raw .nilFunc,[],[],false⟩),
 (106,⟨.other,1,8,.raw .nilFunc,[],[],false⟩),
 (107,⟨.other,1,8,.raw .nilFunc,[],[],false⟩),
 (108,⟨.agg,2,32,.agg [.nils,.int .i64 0],[(0,1,false),(1,1,false)],[],false⟩),
 (109,⟨.agg,2,32,.agg [.nils,.int .i64 0],[(0,1,false),(1,1,false)],[],false⟩),
 (110,⟨.other,1,8,.raw .nilFunc,[],[],false⟩),
 (111,⟨.other,1,8,.raw .nilFunc,[],[],false⟩),
 (112,⟨.iface,1,16,.raw .nilIface,[],[],false⟩),
 (113,⟨.iface,1,16,.raw .nilIface,[],[],false⟩),
 (114,⟨.other,1,8,.raw .nilFunc,[],[],false⟩),
 (115,⟨.other,1,8,.raw .nilFunc,[],[],false⟩),
 (116,⟨.other,1,8,.raw .nilFunc,[],[],false⟩),
 (117,⟨.other,1,8,.raw .nilFunc,[],[],false⟩),
 (118,⟨.other,1,8,.raw .nilFunc,[],[],false⟩),
 (119,⟨.other,1,8,.raw .nilFunc,[],[],false⟩),
 (120,⟨.other,1,8,.raw .nilFunc,[],[],false⟩),
 (121,⟨.ptr,1,8,.raw (.pointer none),[],[],false⟩),
 (122,⟨.other,1,8,.raw .nilFunc,[],[],false⟩),
 (123,⟨.other,1,8,.raw .nilFunc,[],[],false⟩),
 (124,⟨.agg,8,104,.agg [.int .i64 0,.int .i64 0,.int .i64 0,.int .i64 0,.str [],.str [],.nils,.str []],[(0,1,false),(1,1,false),(2,1,false),(3,4,true),(7,1,false)],[],false⟩),
 (125,⟨.agg,8,104,.agg [.int .i64 0,.int .i64 0,.int .i64 0,.int .i64 0,.str [],.str [],.nils,.str []],[(0,1,false),(1,1,false),(2,1,false),(3,4,true),(7,1,false)],[],false⟩),
 (126,⟨.other,1,8,.raw .nilFunc,[],[],false⟩),
 (127,⟨.other,1,8,.raw .nilFunc,[],[],false⟩),
 (128,⟨.other,1,8,.raw .nilFunc,[],[],false⟩),
 (129,⟨.other,1,8,.raw .nilFunc,[],[],false⟩),
 (130,⟨.other,1,8,.raw .nilFunc,[],[],false⟩),
 (131,⟨.other,1,8,.raw .nilFunc,[],[],false⟩),
 (132,⟨.other,1,8,.raw .nilFunc,[],[],false⟩),
 (133,⟨.other,1,8,.raw .nilFunc,[],[],false⟩),
 (134,⟨.slice 166,1,24,.nils,[],[],false⟩),
 (135,⟨.agg,3,48,.agg [.str [],.bool false,.nils],[(0,1,false),(1,1,false),(2,1,false)],[],false⟩),
 (136,⟨.agg,3,48,.agg [.str [],.bool false,.nils],[(0,1,false),(1,1,false),(2,1,false)],[],false⟩),
 (137,⟨.other,1,8,.raw .nilFunc,[],[],false⟩),
 (138,⟨.other,1,8,.raw .nilFunc,[],[],false⟩),
 (139,⟨.ptr,1,8,.raw (.pointer none),[],[],false⟩),
 (140,⟨.other,1,8,.raw .nilFunc,[],[],false⟩),
 (141,⟨.other,1,8,.raw .nilFunc,[],[],false⟩),
 (142,⟨.other,1,8,.raw .nilFunc,[],[],false⟩),
 (143,⟨.agg,1,8,.agg [.raw (.pointer none)],[(0,1,false)],[],false⟩),
 (144,⟨.agg,1,8,.agg [.raw (.pointer none)],[(0,1,false)],[],false⟩),
 (145,⟨.ptr,1,8,.raw (.pointer none),[],[],false⟩),
 (146,⟨.iface,1,16,.raw .nilIface,[],[],false⟩),
 (148,⟨.other,1,8,.raw .nilFunc,[],[],false⟩),
 (149,⟨.iface,1,16,.raw .nilIface,[],[],false⟩),
 (150,⟨.other,1,8,.raw .nilFunc,[],[],false⟩),
 (151,⟨.iface,1,16,.raw .nilIface,[],[],false⟩),
 (152,⟨.slice 70,1,24,.nils,[],[],false⟩),
 (153,⟨.other,1,8,.raw .nilFunc,[],[],false⟩),
 (154,⟨.other,1,8,.raw .nilFunc,[],[],false⟩),
 (155,⟨.other,1,8,.raw .nilFunc,[],[],false⟩),
 (156,⟨.other,1,8,.raw .nilFunc,[],[],false⟩),
 (157,⟨.other,1,8,.raw .nilFunc,[],[],false⟩),
 (158,⟨.other,1,8,.raw .nilFunc,[],[],false⟩),
 (159,⟨.other,1,8,.raw .nilFunc,[],[],false⟩),
 (160,⟨.other,1,8,.raw .nilFunc,[],[],false⟩),
 (161,⟨.other,1,8,.raw .nilFunc,[],[],false⟩),
 (163,⟨.other,1,8,.raw .nilFunc,[],[],false⟩),
 (164,⟨.other,1,8,.raw .nilFunc,[],[],false⟩),
 (165,⟨.other,1,8,.raw .nilFunc,[],[],false⟩),
 (166,⟨.agg,3,24,.agg [.str [],.bool false,.bool false],[(0,1,false),(1,1,false),(2,1,false)],[],false⟩),
 (167,⟨.other,1,8,.raw .nilFunc,[],[],false⟩),
 (168,⟨.other,1,8,.raw .nilFunc,[],[],false⟩),
 (169,⟨.ptr,1,8,.raw (.pointer none),[],[],false⟩),
 (170,⟨.agg,4,40,.agg [.raw (.pointer none),.raw (.pointer none),.raw (.pointer none),.str []],[(0,1,false),(1,1,false),(2,1,false),(3,1,false)],[],false⟩),
 (171,⟨.agg,4,40,.agg [.raw (.pointer none),.raw (.pointer none),.raw (.pointer none),.str []],[(0,1,false),(1,1,false),(2,1,false),(3,1,false)],[],false⟩),
 (175,⟨.other,1,8,.raw .nilFunc,[],[],false⟩),
 (176,⟨.int .u32,1,4,.int .u32 0,[],[],false⟩),
 (177,⟨.int .u8,1,1,.int .u8 0,[],[],false⟩),
 (178,⟨.int .u8,1,1,.int .u8 0,[],[],false⟩),
 (179,⟨.other,1,8,.raw .nilFunc,[],[],false⟩),
 (180,⟨.int .i32,1,4,.int .i32 0,[],[],false⟩),
 (181,⟨.int .i32,1,4,.int .i32 0,[],[],false⟩),
 (182,⟨.agg,11,48,.agg [.int .u64 0,.int .u64 0,.int .u32 0,.int .u8 0,.int .u8 0,.int .u8 0,.int .u8 0,.raw .nilFunc,.raw (.pointer none),.int .i32 0,.int .i32 0],[(0,1,false),(1,1,false),(2,1,false),(3,1,false),(4,1,false),(5,1,false),(6,1,false),(7,1,false),(8,1,false),(9,1,false),(10,1,false)],[],false⟩),
 (183,⟨.agg,11,48,.agg [.int .u64 0,.int .u64 0,.int .u32 0,.int .u8 0,.int .u8 0,.int .u8 0,.int .u8 0,.raw .nilFunc,.raw (.pointer none),.int .i32 0,.int .i32 0],[(0,1,false),(1,1,false),(2,1,false),(3,1,false),(4,1,false),(5,1,false),(6,1,false),(7,1,false),(8,1,false),(9,1,false),(10,1,false)],[],false⟩),
 (184,⟨.other,1,8,.raw .nilFunc,[],[],false⟩),
 (185,⟨.other,1,8,.raw .nilFunc,[],[],false⟩),
 (186,⟨.other,1,8,.raw .nilFunc,[],[],false⟩),
 (187,⟨.other,1,8,.raw .nilFunc,[],[],false⟩),
 (188,⟨.other,1,8,.raw .nilFunc,[],[],false⟩),
 (189,⟨.other,1,8,.raw .nilFunc,[],[],false⟩),
 (190,⟨.agg,2,24,.agg [.str [],.int .u8 0],[(0,1,false),(1,1,false)],[],false⟩),
 (191,⟨.agg,2,24,.agg [.str [],.int .u8 0],[(0,1,false),(1,1,false)],[],false⟩),
 (192,⟨.agg,1,16,.agg [.str []],[(0,1,false)],[],false⟩),
 (193,⟨.agg,1,16,.agg [.str []],[(0,1,false)],[],false⟩),
 (194,⟨.ptr,1,8,.raw (.pointer none),[],[],false⟩),
 (195,⟨.other,1,8,.raw .nilFunc,[],[],false⟩),
 (196,⟨.int .u16,1,2,.int .u16 0,[],[],false⟩),
 (197,⟨.agg,5,16,.agg [.int .i32 0,.int .u16 0,.int .u16 0,.int .u32 0,.int .u32 0],[(0,1,false),(1,1,false),(2,1,false),(3,1,false),(4,1,false)],[],false⟩),
 (198,⟨.agg,5,16,.agg [.int .i32 0,.int .u16 0,.int .u16 0,.int .u32 0,.int .u32 0],[(0,1,false),(1,1,false),(2,1,false),(3,1,false),(4,1,false)],[],false⟩),
 (199,⟨.slice 202,1,24,.nils,[],[],false⟩),
 (200,⟨.int .i32,1,4,.int .i32 0,[],[],false⟩),
 (201,⟨.agg,4,16,.agg [.int .i32 0,.int .i32 0,.int .i32 0,.int .i32 0],[(0,1,false),(1,1,false),(2,1,false),(3,1,false)],[],false⟩),
 (202,⟨.agg,4,16,.agg [.int .i32 0,.int .i32 0,.int .i32 0,.int .i32 0],[(0,1,false),(1,1,false),(2,1,false),(3,1,false)],[],false⟩),
 (203,⟨.other,1,8,.raw .nilFunc,[],[],false⟩)]
set_option maxRecDepth 100000 in
theorem good:TauGood Tryd.prog (tauOf tauL):=tauGood (by kernel_rfl) (by kernel_rfl) (by decide)
end Go.Cod
set_option linter.all false
namespace Go.Cod
variable [Adr]
open Go Go.Proofs Go.ChangeShapes Go.RowKit
set_option maxRecDepth 100000
def compM : Array Value → Sem Value := Extern.ReflectliteType.method fun t => do Extern.Rtype.noPackHeld "Comparable" t; pure (.bool (← typeInfo t).comparable)
theorem is_same (a:Addr) (w:World) :
  Calls Tryd.prog 32 #[.iface 169 (.pointer (some a)),.iface 169 (.pointer (some a))] w fun e w'=>e=.returned (.bool true)∧w'=w:=by
 obtain ⟨i,hi,hcmp⟩:=Option.map_eq_some_iff.1 (show (Tryd.prog.info? 169).map (·.comparable)=some true by kernel_rfl)
 obtain ⟨j,hj,hjs⟩:=Option.map_eq_some_iff.1 (show (Tryd.prog.info? 193).map (·.size)=some 1 by kernel_rfl)
 have h8:=@run_callFunc_extern Tryd.prog 64 _ Extern.ReflectliteType.typeOf Tryd.func64 (by kernel_rfl) (by kernel_rfl) (by kernel_rfl) (by kernel_rfl)
 have h32:=@run_callFunc_extern Tryd.prog 126 _ compM Tryd.func126 (by kernel_rfl) (by kernel_rfl) (by kernel_rfl) (by kernel_rfl)
 have tT:∀ (v:Value) (w:World),(Extern.ReflectliteType.typeOf #[.iface 169 v]).run Tryd.prog w=.ok (.iface 144 (.agg #[.pointer (some ⟨6,169,none⟩)])) w:=fun v w=>by kernel_rfl
 have cT:∀ (w:World),(compM #[.agg #[.pointer (some ⟨6,169,none⟩)]]).run Tryd.prog w=.ok (.bool true) w:=fun w=>by kernel_rfl
 have mR : ∀ (v : Value) (w : World), (Go.method 304 144 v "Comparable").run Tryd.prog w = .ok (126, v) w := fun v w => by kernel_rfl
 have heq:=run_eql_iface_ptr_same (P:=Tryd.prog) w a Tryd.underlying70 Tryd.underlying169 hi hcmp hj
 go_enter Tryd.func32,Tryd.ntmps32
 go_wp2
 refine wp_loop_rounds 1 ?_
 rw [rounds_succ]
 go_wp2
 go_ret
 exact ⟨rfl,rfl⟩
theorem is_nil (b:Addr) (w:World) :
  Calls Tryd.prog 32 #[.nilIface,.iface 169 (.pointer (some b))] w fun e w'=>e=.returned (.bool false)∧w'=w:=by
 have hn:=run_eql_iface_nil_left (P:=Tryd.prog) w 169 (.pointer (some b)) Tryd.underlying70
 go_enter Tryd.func32,Tryd.ntmps32
 go_wp2
 go_ret
 exact ⟨rfl,rfl⟩
abbrev errV (g:Nat):V:=.raw (.iface 169 (.pointer (some (Adr.a g))))
abbrev nilErr:V:=.raw .nilIface
theorem repL_raw2 {Pr:Nat→Nat→Prop} {γ:List G} {w:World} {a b:Value} {cs:List Value} (h:RepL Pr γ w [.raw a,.raw b] cs):cs=[a,b]:=by
 have:=h.1
 match cs,this with
 | [x,y],_ =>
   have h0:=h.2 0 _ _ rfl rfl
   have h1:=h.2 1 _ _ rfl rfl
   cases h0
   cases h1
   rfl
theorem errorsIs_same (g:Nat):Pure Tryd.prog 32 [errV g,errV g] (·=.bool true):=by
 refine pure_of_still (r:=.bool true) ⟨_,Tryd.func32,by kernel_rfl,by kernel_rfl⟩ rfl fun Pr γ w cs h=>?_
 obtain rfl:=repL_raw2 h
 exact ⟨.bool true,fun _=>.bool true,is_same _ w⟩
theorem errorsIs_nil (g:Nat):Pure Tryd.prog 32 [nilErr,errV g] (·=.bool false):=by
 refine pure_of_still (r:=.bool false) ⟨_,Tryd.func32,by kernel_rfl,by kernel_rfl⟩ rfl fun Pr γ w cs h=>?_
 obtain rfl:=repL_raw2 h
 exact ⟨.bool false,fun _=>.bool false,is_nil _ w⟩
omit [Adr] in
theorem star : "*" ++ "errors.errorString" = "*errors.errorString" := by decide
omit [Adr] in
theorem rowErr (u : TypeId) (h : Tryd.prog.typeName? 3 u = some "*errors.errorString") : u = 169 :=
 typeName_ptr_named (nm := "errors.errorString") (by rw [star]; kernel_rfl) (by kernel_rfl) (by decide) u (by rw [star]; exact h)
omit [Adr] in
theorem laid_err {n : String} {text : List UInt8} {r : List (String × DataW Unit)} {W : World} {g : Nat} (h : laidMet Tryd.prog ((n, .iface "*errors.errorString" (.ptr (.agg [.lit (.string text)]))) :: r) W) (hg : Tryd.prog.globalNamed n = some g)
  (ht:(Tryd.prog.globals[g]?).map (·.type)=some 70):(∃ a:Addr,W.cell? ⟨g,0,none⟩=some (.iface 169 (.pointer (some a)))∧g < W.heap.size)∧laidMet Tryd.prog r W:=by
 obtain ⟨a,s,hv,_⟩:=laid_sentinel h hg ht Tryd.underlying70 rowErr Tryd.underlying169 Tryd.underlying193 rfl rfl Tryd.underlying9 (by kernel_rfl) (by kernel_rfl)
 exact ⟨⟨a,laid_cell hg hv⟩,h.tail⟩
omit [Adr] in
theorem globals_ok:∀ (g:Nat) x,Tryd.prog.globals[g]? = some x→x.type < Tryd.prog.types.size:=by
 intro g x h
 have h1:(Tryd.prog.globals.toList.all fun x=>decide (x.type < Tryd.prog.types.size))=true:=by kernel_rfl
 exact of_decide_eq_true (List.all_eq_true.1 h1 x (by simpa using Array.mem_of_getElem? h))
end Go.Cod
set_option linter.all false
namespace Go.Cod
variable [Adr]
open Go Go.Proofs
set_option maxRecDepth 10000
theorem l1In_pure (a b c:Int):Pure Tryd.prog 48 [.int .i64 a,.int .i64 b,.int .i64 c] (·=.bool (decide (b≤a∧a≤c))):=by
 refine pure_of_awp good Tryd.func48 rfl (by kernel_rfl) (by decide) ?_
 conv=>whnf
 by_cases h1:b≤a
 · rw [leB_t h1]
   conv=>whnf
   simp [h1,leB_def]
 · rw [leB_f (by omega)]
   conv=>whnf
   simp [h1]
def lowerB (c:UInt8):Bool:=decide (97≤c.toNat∧c.toNat≤122)
def lower (s:List UInt8):Bool:=s.all lowerB
def nameL (s:List UInt8):Bool:=lower s&&decide (1≤(s.length:Int)∧(s.length:Int)≤8)
theorem take_all {p:UInt8→Bool} {s:List UInt8} {i:Nat} (h:i < s.length):(s.take (i+1)).all p=((s.take i).all p&&p s[i]):=by
 rw [List.take_succ_eq_append_getElem h,List.all_append]; simp
theorem l2Name_pure (s:List UInt8) (hs:s.length≤9223372036854775806):Pure Tryd.prog 49 [.str s] (·=.bool (nameL s)):=by
 refine pure_of_awp good Tryd.func49 rfl (by kernel_rfl) (by decide) ?_
 conv=>whnf
 refine loop_intro (fun n fr st=>st=[]∧∃ i:Nat,n+i=s.length∧lower (s.take i)=true∧Holds fr [(0,.str s),(3,.int .i64 i)]) s.length ⟨rfl,0,rfl,rfl,rfl,rfl,trivial⟩ ?_
 rintro n fr st ⟨rfl,i,hi,hlow,hh⟩
 obtain ⟨fr,rfl⟩:=hh.split
 clear hh
 conv=>whnf
 by_cases hlt:i < s.length
 · rw [ltB_t (by omega)]
   have hstep:=take_all (p:=lowerB) hlt
   conv=>whnf
   refine ⟨by omega,s[i],by simp [hlt],?_⟩
   conv=>whnf
   by_cases h1:(97:Int)≤(s[i].toNat:Int)
   · rw [ltB_f (by omega)]
     conv=>whnf
     refine ⟨by omega,s[i],by simp [hlt],?_⟩
     conv=>whnf
     by_cases h2:(s[i].toNat:Int)≤122
     · rw [ltB_f (by omega)]
       conv=>whnf
       refine ⟨n - 1,by omega,rfl,i+1,by omega,?_,?_⟩
       · unfold lower at *; rw [hstep,hlow]; simp [lowerB]; omega
       · refine ⟨rfl,?_,trivial⟩
         show V.int .i64 (IntKind.i64.wrap (i+1))=_
         rw [wrap64 (by omega) (by omega)]; simp
     · rw [ltB_t (by omega)]
       conv=>whnf
       have hf:lower s=false:=by
        unfold lower
        rw [List.all_eq_false]
        exact ⟨s[i],List.getElem_mem _,by simp only [lowerB,decide_eq_true_eq]; omega⟩
       simp only [nameL,hf,Bool.false_and]
   · rw [ltB_t (by omega)]
     conv=>whnf
     have hf:lower s=false:=by
      unfold lower
      rw [List.all_eq_false]
      exact ⟨s[i],List.getElem_mem _,by simp only [lowerB,decide_eq_true_eq]; omega⟩
     simp only [nameL,hf,Bool.false_and]
 · rw [ltB_f (by omega)]
   conv=>whnf
   refine .inl ((l1In_pure _ _ _).mono ?_)
   rintro r rfl
   conv=>whnf
   have:s.take i=s:=List.take_of_length_le (by omega)
   rw [this] at hlow
   simp [nameL,hlow]
end Go.Cod
set_option linter.all false
namespace Go.Cod
variable [Adr]
open Go Go.Proofs Go.ChangeShapes Go.WideShapes Go.ChangeAt Go.RowKit
set_option maxRecDepth 10000
inductive T where
 | mk (id:Int) (kind text:List UInt8) (kids:List T)
mutual
def T.cells:T→List V
 | .mk id kind text kids=>[.int .i64 id,.str kind,.str text,.sl (T.rows kids)]
def T.rows:List T→List (List V)
 | []=>[]
 | t::ts=>t.cells::T.rows ts
end
theorem kids:Kids Tryd.prog (· < Tryd.prog.types.size):=kids_rows (by kernel_rfl) (by kernel_rfl)
theorem full:∀ t e,t < Tryd.prog.types.size→Tryd.prog.underlying t=some (.slice e)→0 < Tryd.prog.cellsOf e:=slices_full_of Tryd.prog (by kernel_rfl)
end Go.Cod
set_option linter.all false
namespace Go.Cod
variable [Adr]
open Go Go.Proofs
set_option maxRecDepth 10000
end Go.Cod
set_option linter.all false
namespace Go.Cod
variable [Adr]
open Go Go.Proofs
set_option maxRecDepth 10000
end Go.Cod
set_option linter.all false
namespace Go.Cod
variable [Adr]
open Go Go.Proofs
set_option maxRecDepth 10000
theorem eqB_refl (a:Int):eqB a a=true:=by rw [eqB_def]; simp
end Go.Cod
set_option linter.all false
namespace Go.Cod
variable [Adr]
open Go Go.Proofs
set_option maxRecDepth 10000
end Go.Cod
set_option linter.all false
namespace Go.Cod
variable [Adr]
open Go Go.Proofs
set_option maxRecDepth 10000
end Go.Cod
set_option linter.all false
namespace Go.Cod
variable [Adr]
open Go Go.Proofs
set_option maxRecDepth 10000
end Go.Cod
set_option linter.all false
namespace Go.Cod
variable [Adr]
open Go Go.Proofs
set_option maxRecDepth 10000
theorem textHasOnly_pure (s:List UInt8) (hs:s.length≤9223372036854775806) (g:Nat) (p:UInt8→Bool) (hp:∀ b:UInt8,Pure Tryd.prog g [cellB b] (·=.bool (p b))) :
  Pure Tryd.prog 77 [.str s,.fn g []] (·=.bool (s.all p)):=by
 refine pure_of_awp good Tryd.func77 rfl (by kernel_rfl) (by decide) ?_
 conv=>whnf
 refine loop_intro (fun n fr st=>st=[]∧∃ i:Nat,n+i=s.length∧(s.take i).all p=true∧Holds fr [(0,.str s),(1,.fn g []),(7,.int .i64 s.length),(8,.int .i64 i)]) s.length ⟨rfl,0,rfl,rfl,rfl,rfl,rfl,rfl,trivial⟩ ?_
 rintro n fr st ⟨rfl,i,hi,hx,hh⟩
 obtain ⟨fr,rfl⟩:=hh.split
 clear hh
 conv=>whnf
 by_cases hlt:i < s.length
 · rw [ltB_t (by omega)]
   conv=>whnf
   refine ⟨by omega,s[i],by simp [hlt],?_⟩
   conv=>whnf
   have hst:=take_all (p:=p) hlt
   have hno:p s[i]=false→s.all p=false:=by
    intro h; rw [List.all_eq_false]; exact ⟨s[i],List.getElem_mem _,by simp [h]⟩
   refine .inl ((hp s[i]).mono ?_)
   rintro r rfl
   cases a:p s[i]
   · conv=>whnf
     rw [hno a]
   conv=>whnf
   refine ⟨n - 1,by omega,rfl,i+1,by omega,by rw [hst,hx,a]; rfl,rfl,rfl,rfl,?_,trivial⟩
   show V.int .i64 (IntKind.i64.wrap (i+1))=_
   rw [wrap64 (by omega) (by omega)]; simp
 · rw [ltB_f (by omega)]
   conv=>whnf
   rw [List.take_of_length_le (by omega)] at hx
   rw [hx]
theorem isLetter_pure (b:UInt8):Pure Tryd.prog 95 [cellB b] (·=.bool (lowerB b)):=by
 refine pure_of_awp good Tryd.func95 rfl (by kernel_rfl) (by decide) ?_
 conv=>whnf
 by_cases h1:(97:Int)≤(b.toNat:Int)
 · rw [leB_t (by omega)]
   conv=>whnf
   congr 1
   rw [leB_def,lowerB]
   exact decide_eq_decide.2 (by omega)
 · rw [leB_f (by omega)]
   conv=>whnf
   have:lowerB b=false:=by unfold lowerB; simp; omega
   rw [this]
theorem nameOk_pure (s:List UInt8) (hs:s.length≤9223372036854775806):Pure Tryd.prog 76 [.str s] (·=.bool (nameL s)):=by
 refine pure_of_awp good Tryd.func76 rfl (by kernel_rfl) (by decide) ?_
 conv=>whnf
 by_cases h1:(1:Int)≤(s.length:Int)
 case neg =>
  rw [leB_f (by omega)]
  conv=>whnf
  simp [nameL]; omega
 rw [leB_t (by omega)]
 conv=>whnf
 by_cases h2:(s.length:Int)≤8
 case neg =>
  rw [leB_f (by omega)]
  conv=>whnf
  simp [nameL]; omega
 rw [leB_t (by omega)]
 conv=>whnf
 refine .inl ((textHasOnly_pure s hs _ lowerB isLetter_pure).mono ?_)
 rintro r rfl
 conv=>whnf
 simp [nameL,lower,h1,h2]
end Go.Cod
set_option linter.all false
namespace Go.Cod
variable [Adr]
open Go Go.Proofs
set_option maxRecDepth 10000
end Go.Cod
set_option linter.all false
namespace Go.Cod
variable [Adr]
open Go Go.Proofs
set_option maxRecDepth 10000
end Go.Cod
set_option linter.all false
namespace Go.Cod
variable [Adr]
open Go Go.Proofs
set_option maxRecDepth 10000
end Go.Cod
set_option linter.all false
namespace Go.Cod
variable [Adr]
open Go Go.Proofs
set_option maxRecDepth 10000
end Go.Cod
set_option linter.all false
namespace Go.Cod
variable [Adr]
open Go Go.Proofs
set_option maxRecDepth 10000
end Go.Cod
set_option linter.all false
namespace Go.Cod
variable [Adr]
open Go Go.Proofs
set_option maxRecDepth 10000
end Go.Cod
set_option linter.all false
namespace Go.Cod
variable [Adr]
open Go Go.Proofs
set_option maxRecDepth 10000
inductive LT where
 | mk (id:Int) (kind text:List UInt8) (h:Option (Nat × Nat)) (kids:List LT)
def hdV:Option (Nat × Nat)→Nat→V
 | none,_=>.nils
 | some (b,c),n=>.dref b n c
def LT.cells:LT→List V
 | .mk id kind text h kids=>[.int .i64 id,.str kind,.str text,hdV h kids.length]
def LT.rows (ls:List LT):List (List V):=ls.map LT.cells
end Go.Cod
set_option linter.all false
namespace Go.Cod
variable [Adr]
open Go Go.Proofs
set_option maxRecDepth 10000
end Go.Cod
set_option linter.all false
namespace Go.Cod
variable [Adr]
open Go Go.Proofs
set_option maxRecDepth 10000
theorem putEnt_mem {b c s:Nat} {rows rows':List (List V)} {es:List (List V)} (h:ent b c s rows∈es):ent b c s rows'∈putEnt b rows' es:=by
 unfold putEnt
 exact List.mem_map.2 ⟨_,h,by rw [if_pos (labOf_ent b c s rows)]; rfl⟩
theorem putEnt_other {b:Nat} {rows':List (List V)} {es:List (List V)} {e:List V} (h:e∈es) (hb:labOf e≠b):e∈putEnt b rows' es:=by
 unfold putEnt
 exact List.mem_map.2 ⟨e,h,by rw [if_neg hb]⟩
end Go.Cod
set_option linter.all false
namespace Go.Cod
variable [Adr]
open Go Go.Proofs
set_option maxRecDepth 10000
end Go.Cod
set_option linter.all false
namespace Go.Cod
variable [Adr]
open Go Go.Proofs
set_option maxRecDepth 10000
end Go.Cod
set_option linter.all false
namespace Go.Cod
variable [Adr]
open Go Go.Proofs
set_option maxRecDepth 10000
end Go.Cod
set_option linter.all false
namespace Go.Cod
variable [Adr]
open Go Go.Proofs
set_option maxRecDepth 10000
end Go.Cod
set_option linter.all false
namespace Go.Cod
variable [Adr]
open Go Go.Proofs
set_option maxRecDepth 10000
end Go.Cod
set_option linter.all false
namespace Go.Cod
variable [Adr]
open Go Go.Proofs
set_option maxRecDepth 10000
def T.kind:T→List UInt8
 | .mk _ kind _ _=>kind
end Go.Cod
set_option linter.all false
namespace Go.Cod
variable [Adr]
open Go Go.Proofs
set_option maxRecDepth 10000
end Go.Cod
set_option linter.all false
namespace Go.Cod
variable [Adr]
open Go Go.Proofs
set_option maxRecDepth 10000
end Go.Cod
set_option linter.all false
namespace Go.Cod
variable [Adr]
open Go Go.Proofs
set_option maxRecDepth 10000
end Go.Cod
set_option linter.all false
namespace Go.Cod
variable [Adr]
open Go Go.Proofs
set_option maxRecDepth 10000
end Go.Cod
set_option linter.all false
namespace Go.Cod
variable [Adr]
open Go Go.Proofs
set_option maxRecDepth 10000
end Go.Cod
set_option linter.all false
namespace Go.Cod
variable [Adr]
open Go Go.Proofs
variable [Lam]
def aOpsR (P:Program) (ok:OkY) (τ:Tau) (ops:Array Oper) (l:List Oper):(Nat→V)→St→((Nat→V)→St→Prop)→(V→(Nat→V)→St→Prop)→Prop :=
 List.rec (motive:=fun _=>(Nat→V)→St→((Nat→V)→St→Prop)→(V→(Nat→V)→St→Prop)→Prop)
  (fun fr st K _=>K fr st)
  (fun o _ ih fr st K Z=>match o.guard with
    | none=>aOp P ok τ o fr st (fun v st'=>force v fun v=>forceSt st' fun st'=>ih (put fr o.dst v) st' K Z) (fun v st'=>Z v fr st')
    | some (j,want)=>match (ops[j]?).bind (·.dst) with
      | some d=>(match fr d with
        | .bool b=>BC (if want then b else negB b) (aOp P ok τ o fr st (fun v st'=>force v fun v=>forceSt st' fun st'=>ih (put fr o.dst v) st' K Z) (fun v st'=>Z v fr st'))
          (ih (put fr o.dst undefV) st K Z)
        | .raw (.tuple _)=>ih (put fr o.dst undefV) st K Z
        | _=>False)
      | none=>False) l
theorem aOps_with {P:Program} {ok:OkY} {τ:Tau} {ops:Array Oper} {l:List Oper} {fr:Nat→V} {st:St} {K:(Nat→V)→St→Prop} {Z:V→(Nat→V)→St→Prop} (L:List (Nat × V)) (hh:Holds fr L) (h:∀ b,aOpsR P ok τ ops l (setL b L) st K Z):aOps P ok τ ops l fr st K Z:=by
 obtain ⟨b,rfl⟩:=hh.split
 exact h b
end Go.Cod
set_option linter.all false
namespace Go.Cod
variable [Adr]
open Go Go.Proofs
variable [Lam]
variable {A:Program→OkY→Tau→Array Oper→List Oper→(Nat→V)→St→((Nat→V)→St→Prop)→(V→(Nat→V)→St→Prop)→Prop}
variable {P:Program} {ok:OkY} {τ:Tau} {ops:Array Oper} {l:List Oper} {fr:Nat→V} {st:St} {K:(Nat→V)→St→Prop} {Z:V→(Nat→V)→St→Prop}
theorem box_go (hA:A=aOps) (h:aOpsR P ok τ ops l fr st K Z):A P ok τ ops l fr st K Z:=by rw [hA]; exact h
theorem box_with (hA:A=aOps) (L:List (Nat × V)) (hh:Holds fr L) (h:∀ b,aOpsR P ok τ ops l (setL b L) st K Z):A P ok τ ops l fr st K Z:=by
 rw [hA]
 exact aOps_with L hh h
end Go.Cod
set_option linter.all false
namespace Go.Cod
variable [Adr]
open Go Go.Proofs
set_option linter.all false
variable [Lam]
def drawR (P:Program) (ok:OkY) (τ:Tau) (ops:Array Oper) (fr:Nat→V) (st:St) (K:(Nat→V)→St→Prop) (Z:V→(Nat→V)→St→Prop):Prop:=(match hasHand τ ops with
    | true=>withMat τ ops fun M CH=>Chk (mix2Ok τ M CH ops) (aEOps2 P τ CH ops ops.toList 0 fr st fun fr=>forcePlan (planOf M CH ops) fun plan=>aXOps P ok τ ops plan K plan [] fr st)
    | false=>(match orderOk ops with
      | true=>aQOps P τ ops ops.toList fr st fun fr=>K fr st
      | false=>(match mixOk ops with
        | true=>aEOps P τ ops ops.toList 0 fr st fun fr=>aCOps P ok τ ops ops.toList 0 fr st K
        | false=>withMat τ ops fun M CH=>(match mix2Ok τ M CH ops with
          | true=>aEOps2 P τ CH ops ops.toList 0 fr st fun fr=>forcePlan (planOf M CH ops) fun plan=>aXOps P ok τ ops plan K plan [] fr st
          | false=>aAny P ok τ ops K Z ops.size [] fr st))))
abbrev WalkA:=Program→OkY→Tau→Array Oper→List Oper→(Nat→V)→St→((Nat→V)→St→Prop)→(V→(Nat→V)→St→Prop)→Prop
abbrev WalkX:=Program→OkY→Tau→Array Oper→(Nat→V)→St→((Nat→V)→St→Prop)→(V→(Nat→V)→St→Prop)→Prop
def awpX (A:WalkA) (X:WalkX) (P:Program) (ok:OkY) (τ:Tau) (nb:Nat) (c:Code):(Ex→(Nat→V)→St→Prop)→(Nat→V)→St→Prop :=
 Code.rec (motive:=fun _=>Nat→(Ex→(Nat→V)→St→Prop)→(Nat→V)→St→Prop)
  (fun _ Q fr st=>Q .normal fr st)
  (fun _ ops d _ Q fr st=>match d with
    | false=>A P ok τ ops ops.toList fr st (Q .normal) (fun v=>Q (.pan v))
    | true=>X P ok τ ops fr st (Q .normal) (fun v=>Q (.pan v)))
  (fun _ _ iha ihb nb Q fr st=>iha nb (AThen (ihb nb Q) Q) fr st)
  (fun c _ _ iha ihb nb Q fr st=>ACond (ev fr c) (iha nb Q fr st) (ihb nb Q fr st))
  (fun id _ ih nb Q fr st=>ih nb (ABlock id Q) fr st)
  (fun _ ih nb Q fr st=>∃ (J:Nat→(Nat→V)→St→Prop) (n:Nat) (flag:Bool) (s0:Option (List Nat)),cmp nb s0 fr st (J n) ∧
    ∀ n fr st,J n fr st→ih nb (AThen (ALoop nb flag J n) Q) fr st)
  (fun f ps _ _ ihx ihy _ Q fr st=>(match ev fr f with
    | .fn g cap=>ARange P g cap ps.size (fun Q vs st'=>ihx st.length (AThen (ihy st.length Q) fun _ _ _=>False) (setPs ps.toList vs fr) st') Q fr st
    | _=>False))
  (fun id _ Q fr st=>Q (.exit id) fr st)
  (fun _ _ _ _ _ _=>False)
  (fun _ _ _ _ _=>False)
  (fun _ _ _ _ _=>False)
  (fun _ Q fr st=>Q .ret fr st)
  (fun _ _ _ _ _=>False) c nb
theorem full_of_draw {P:Program} {ok:OkY} {τ:Tau} (hτ:TauGood P τ) {f:FuncId} {fn:Func} {c:Code} {args:List V} {st0:St} {R:Out→St→Prop}
  (hf : P.funcs[f]? = some fn) (hb : fn.body = some c) (hname : (fn.name == "runtime.NumGoroutine") = false) (hc : codeOk fn.ntmps c = true)
  (h:∀ X,X=drawR→awpX aOps X P ok τ st0.length c (AEndF τ fn.results.toList st0.length R) (initFr args) st0):Full P ok f args st0 R:=full_of_awp hτ hf hb hname hc (h drawR rfl)
theorem full_of_draw2 {P:Program} {ok:OkY} {τ:Tau} (hτ:TauGood P τ) {f:FuncId} {fn:Func} {c:Code} {args:List V} {st0:St} {R:Out→St→Prop}
  (hf : P.funcs[f]? = some fn) (hb : fn.body = some c) (hname : (fn.name == "runtime.NumGoroutine") = false) (hc : codeOk fn.ntmps c = true)
  (h:∀ A,A=aOps→∀ X,X=drawR→awpX A X P ok τ st0.length c (AEndF τ fn.results.toList st0.length R) (initFr args) st0):Full P ok f args st0 R:=full_of_awp hτ hf hb hname hc (h aOps rfl drawR rfl)
variable {X:WalkX} {P:Program} {ok:OkY} {τ:Tau} {ops:Array Oper} {fr:Nat→V} {st:St} {K:(Nat→V)→St→Prop} {Z:V→(Nat→V)→St→Prop}
theorem draw_with (hX:X=drawR) (L:List (Nat × V)) (hh:Holds fr L) (h:∀ C:(Nat→V)→St→Prop,(∀ fr st,K fr st→C fr st)→∀ b,drawR P ok τ ops (setL b L) st C Z):X P ok τ ops fr st K Z:=by
 obtain ⟨b,rfl⟩:=hh.split
 rw [hX]
 exact h K (fun _ _ x=>x) b
end Go.Cod
set_option linter.all false
namespace Go.Cod
variable [Adr]
open Go Go.Proofs
set_option maxRecDepth 10000
def brows (bs:List UInt8):List (List V):=bs.map fun b=>[cellB b]
theorem brows_len (bs:List UInt8):(brows bs).length=bs.length:=by simp [brows]
theorem brows_get (bs:List UInt8) (i:Nat) (h:i < bs.length):(brows bs)[i]? = some [cellB bs[i]]:=by simp [brows,h]
def rdO (bs:List UInt8) (p:Int):O:=⟨[[.sl (brows bs),.int .i64 p]],2,true,true,true,.cell⟩
theorem tmod_in {a n:Int} (h0:0≤a) (hn:1≤n):0≤a.tmod n∧a.tmod n < n:=by
 rw [Int.tmod_eq_emod_of_nonneg h0]
 exact ⟨Int.emod_nonneg _ (by omega),Int.emod_lt_of_pos _ (by omega)⟩
theorem xor_in {a b:Int} (ha:0≤a∧a < 4611686018427387904) (hb:0≤b∧b < 4611686018427387904):∃ m:Int,0≤m∧IntKind.i64.wrap (BitVec.ofInt IntKind.i64.bits a ^^^ BitVec.ofInt IntKind.i64.bits b).toNat=m:=by
 refine ⟨_,?_,rfl⟩
 have e:(BitVec.ofInt IntKind.i64.bits a ^^^ BitVec.ofInt IntKind.i64.bits b).toNat < 2 ^ 62:=by
  show (BitVec.ofInt 64 a ^^^ BitVec.ofInt 64 b).toNat < 2 ^ 62
  rw [BitVec.toNat_xor,BitVec.toNat_ofInt,BitVec.toNat_ofInt]
  refine Nat.xor_lt_two_pow ?_ ?_ <;> omega
 rw [wrap64 (by omega) (by have:(2:Nat)^62=4611686018427387904:=rfl; omega)]
 omega
theorem pick_full (bs:List UInt8) (p n:Int) (hb:bs.length≤2000) (h0:0≤p) (h1:p≤1073741824) :
  Full Tryd.prog noY 28 [.ptr 0 0 0,.int .i64 n] [rdO bs p] fun o st'=>∃ m:Int,0≤m∧(1≤n→m < n)∧o=.ret (.int .i64 m)∧st'=[rdO bs (p+1)]:=by
 have hl:=brows_len bs
 have w1:IntKind.i64.wrap (p+1)=p+1:=wrap64 (by omega) (by omega)
 have w2:IntKind.i64.wrap (p+1 - 1)=p:=by rw [wrap64 (by omega) (by omega)]; omega
 have g0:∀ i:Nat,i < bs.length→(brows bs)[i]? = some [cellB bs[i]!]:=fun i hi=>by rw [brows_get bs i hi,getElem!_pos bs i hi]
 generalize hrows:brows bs=rows at *
 refine full_of_awp good Tryd.func28 rfl (by kernel_rfl) (by decide) ?_
 unfold rdO
 rw [hrows]
 conv=>whnf
 rw [w1]
 conv=>whnf
 by_cases a1:n < 1
 · rw [ltB_t (by omega)]
   conv=>whnf
   refine ⟨[],false,?_⟩
   conv=>whnf
   exact ⟨0,by omega,fun h=>by omega,rfl,rfl⟩
 rw [ltB_f (by omega)]
 conv=>whnf
 by_cases a2:(rows.length:Int)=0
 · rw [eqB_t a2]
   conv=>whnf
   refine ⟨[],false,?_⟩
   conv=>whnf
   exact ⟨0,by omega,fun h=>by omega,rfl,rfl⟩
 rw [eqB_f a2]
 conv=>whnf
 rw [w2]
 conv=>whnf
 by_cases a3:p < (rows.length:Int)
 · rw [ltB_t a3]
   conv=>whnf
   refine ⟨h0,rows,_,1,rfl,g0 p.toNat (by omega),rfl,rfl,?_⟩
   conv=>whnf
   refine ⟨by omega,?_⟩
   conv=>whnf
   refine ⟨[],false,?_⟩
   conv=>whnf
   have hc:IntKind.i64.wrap ((bs[p.toNat]!).toNat:Int)=((bs[p.toNat]!).toNat:Int):=wrap64 (by omega) (by have:=(bs[p.toNat]!).toNat_lt; omega)
   refine ⟨_,?_,?_,rfl,rfl⟩
   · rw [hc]; exact (tmod_in (by omega) (by omega)).1
   · intro _; rw [hc]; exact (tmod_in (by omega) (by omega)).2
 rw [ltB_f (by omega)]
 conv=>whnf
 have hL:1≤(rows.length:Int):=by omega
 refine ⟨by omega,?_⟩
 conv=>whnf
 have i1:=tmod_in (a:=p) (n:=rows.length) h0 hL
 refine ⟨i1.1,rows,_,1,rfl,g0 (p.tmod rows.length).toNat (by omega),rfl,rfl,?_⟩
 conv=>whnf
 refine ⟨rfl,?_⟩
 conv=>whnf
 have w3:IntKind.i64.wrap (IntKind.i64.wrap (p*7)+3)=p*7+3:=by rw [wrap64 (a:=p*7) (by omega) (by omega),wrap64 (by omega) (by omega)]
 rw [w3]
 refine ⟨by omega,?_⟩
 conv=>whnf
 have i2:=tmod_in (a:=p*7+3) (n:=rows.length) (by omega) hL
 refine ⟨i2.1,rows,_,1,rfl,g0 ((p*7+3).tmod rows.length).toNat (by omega),rfl,rfl,?_⟩
 conv=>whnf
 refine ⟨rfl,?_⟩
 conv=>whnf
 refine ⟨by omega,?_⟩
 have c1:=(bs[(p.tmod rows.length).toNat]!).toNat_lt
 have c2:=(bs[((p*7+3).tmod rows.length).toNat]!).toNat_lt
 generalize bs[(p.tmod rows.length).toNat]! = d1 at *
 generalize bs[((p*7+3).tmod rows.length).toNat]! = d2 at *
 have q1:0≤p.tdiv rows.length∧p.tdiv rows.length≤p:=by
  rw [Int.tdiv_eq_ediv_of_nonneg h0]
  exact ⟨Int.ediv_nonneg h0 (by omega),Int.ediv_le_self _ h0⟩
 generalize p.tdiv rows.length=q at *
 obtain ⟨x,⟨hx0,hx1⟩,hx⟩:∃ x:Int,(0≤x∧x < 4611686018427387904)∧IntKind.i64.wrap (IntKind.i64.wrap (IntKind.i64.wrap (IntKind.i64.wrap (IntKind.i64.wrap (d1.toNat:Int)*131)+IntKind.i64.wrap (IntKind.i64.wrap (d2.toNat:Int)*1117))+IntKind.i64.wrap (p*29))+IntKind.i64.wrap (IntKind.i64.wrap q*53))=x:=by
  rw [wrap64 (a:=(d1.toNat:Int)) (by omega) (by omega),wrap64 (a:=(d2.toNat:Int)) (by omega) (by omega),wrap64 (a:=(d1.toNat:Int)*131) (by omega) (by omega),wrap64 (a:=(d2.toNat:Int)*1117) (by omega) (by omega),wrap64 (a:=(d1.toNat:Int)*131+_) (by omega) (by omega),
   wrap64 (a:=p*29) (by omega) (by omega),wrap64 (a:=q) (by omega) (by omega),wrap64 (a:=q*53) (by omega) (by omega),wrap64 (a:=(d1.toNat:Int)*131+_+_) (by omega) (by omega)]
  rw [wrap64 (by omega) (by omega)]
  exact ⟨_,by omega,rfl⟩
 conv=>whnf
 rw [hx]
 refine ⟨by decide,?_⟩
 conv=>whnf
 obtain ⟨y,hy0,hy⟩:=xor_in (a:=x) (b:=IntKind.i64.wrap (x.tdiv 64)) ⟨hx0,hx1⟩ (by
  rw [Int.tdiv_eq_ediv_of_nonneg hx0,wrap64 (by omega) (by omega)]; omega)
 rw [hy]
 refine ⟨by omega,?_⟩
 conv=>whnf
 refine ⟨[],false,?_⟩
 conv=>whnf
 exact ⟨_,(tmod_in hy0 (by omega)).1,fun _=>(tmod_in hy0 (by omega)).2,rfl,rfl⟩
end Go.Cod
set_option linter.all false
namespace Go.Cod
variable [Adr]
open Go Go.Proofs
set_option maxRecDepth 10000
def drows (ss:List (List UInt8)):List (List V):=ss.map fun s=>[.str s]
theorem drows_len (ss:List (List UInt8)):(drows ss).length=ss.length:=by simp [drows]
theorem of_full (bs:List UInt8) (p:Int) (ss:List (List UInt8)) (hb:bs.length≤2000) (h0:0≤p) (h1:p≤1073741824) (hn:1≤ss.length) (hn':ss.length≤1048576) :
  Full Tryd.prog noY 29 [.ptr 0 0 0,.sl (drows ss)] [rdO bs p] fun o st'=>∃ s∈ss,o=.ret (.str s)∧st'=[rdO bs (p+1)]:=by
 have hl:=drows_len ss
 have hp:=pick_full bs p ss.length hb h0 h1
 have hg:∀ m:Int,0≤m→m < ss.length→∃ s∈ss,(drows ss)[m.toNat]? = some [.str s]:=fun m a b=>by
  have:m.toNat < ss.length:=by omega
  exact ⟨ss[m.toNat],List.getElem_mem _,by simp [drows,this]⟩
 generalize drows ss=rows at *
 refine full_of_awp good Tryd.func29 rfl (by kernel_rfl) (by decide) ?_
 conv=>whnf
 rw [hl]
 refine ⟨[0],false,?_⟩
 conv=>whnf
 refine hp.mono ?_
 rintro o st' ⟨m,m0,m1,rfl,rfl⟩
 conv=>whnf
 obtain ⟨s,hs,hgs⟩:=hg m m0 (m1 (by omega))
 refine ⟨m0,rows,_,1,rfl,hgs,rfl,rfl,?_⟩
 conv=>whnf
 refine ⟨[],false,?_⟩
 conv=>whnf
 exact ⟨s,hs,rfl,rfl⟩
end Go.Cod
set_option linter.all false
namespace Go.Cod
variable [Adr]
open Go Go.Proofs
set_option maxRecDepth 10000
structure It43 where
 kind:List UInt8
 many:Bool
 may:Bool
def It43.cells (x:It43):List V:=[.str x.kind,.bool x.many,.bool x.may]
structure Ru43 where
 kind:List UInt8
 text:Bool
 kids:List It43
def Ru43.cells (x:Ru43):List V:=[.str x.kind,.bool x.text,.sl (x.kids.map It43.cells)]
structure Sch where
 root:List UInt8
 rules:List Ru43
def Sch.cells (x:Sch):List V:=[.str x.root,.sl (x.rules.map Ru43.cells)]
def kDoc:List UInt8:=[100,111,99]
def kTitle:List UInt8:=[116,105,116,108,101]
def kSec:List UInt8:=[115,101,99]
def kNote:List UInt8:=[110,111,116,101]
def kPar:List UInt8:=[112,97,114]
def sch11:Sch:=⟨kDoc,[⟨kDoc,false,[⟨kTitle,false,true⟩,⟨kSec,true,false⟩,⟨kNote,false,true⟩]⟩,⟨kTitle,true,[]⟩,⟨kSec,true,[⟨kPar,true,false⟩,⟨kNote,false,true⟩]⟩,⟨kPar,true,[]⟩,⟨kNote,true,[⟨kPar,true,false⟩]⟩]⟩
def Ru43.cellsN (x:Ru43):List V:=[.str x.kind,.bool x.text,match x.kids with | []=>.nils | _::_=>.sl (x.kids.map It43.cells)]
theorem l11Schema_pure:Pure Tryd.prog 36 [] (·=.agg sch11.cells):=by
 refine Pure.soft (R:=(·=.agg [.str kDoc,.sl (sch11.rules.map Ru43.cellsN)])) ?_ ?_
 · refine pure_of_awp good Tryd.func36 rfl (by kernel_rfl) (by decide) ?_
   conv=>whnf
   rfl
 · rintro r rfl
   rfl
end Go.Cod
set_option linter.all false
namespace Go.Cod
variable [Adr]
open Go Go.Proofs
set_option maxRecDepth 10000
end Go.Cod
set_option linter.all false
namespace Go.Cod
variable [Adr]
open Go Go.Proofs
set_option maxRecDepth 10000
end Go.Cod
set_option linter.all false
namespace Go.Cod
variable [Adr]
open Go Go.Proofs
set_option maxRecDepth 10000
end Go.Cod
set_option linter.all false
namespace Go.Cod
variable [Adr]
open Go Go.Proofs
set_option maxRecDepth 10000
end Go.Cod
set_option linter.all false
namespace Go.Cod
variable [Adr]
open Go Go.Proofs
set_option maxRecDepth 10000
theorem l1Open_full (bs:List UInt8) (hb:bs.length≤1048576):Full Tryd.prog noY 26 [.sl (brows bs)] [] fun o st'=>o=.ret (.ptr 0 0 0)∧∃ bs':List UInt8,bs'.length≤2000∧st'=[rdO bs' 0]:=by
 have hl:=brows_len bs
 have h1:∀ r∈brows bs,r.length=1:=fun r h=>by
  obtain ⟨b,_,rfl⟩:=List.mem_map.1 h; rfl
 have h2:((brows bs).take 2000).drop 0=brows (bs.take 2000):=by rw [brows,brows,List.map_take]; rfl
 refine full_of_awp good Tryd.func26 rfl (by kernel_rfl) (by decide) ?_
 generalize hR:brows bs=R at *
 conv=>whnf
 by_cases a:2000 < R.length
 · rw [ltB_t (by omega)]
   conv=>whnf
   refine ⟨h1,by omega,by show 2000≤_; omega,?_⟩
   conv=>whnf
   refine ⟨[0],false,?_⟩
   conv=>whnf
   refine ⟨rfl,bs.take 2000,by rw [List.length_take]; omega,?_⟩
   show [(⟨[[.sl ((R.take 2000).drop 0),.int .i64 0]],2,true,true,true,.cell⟩:O)]=_
   rw [h2]; rfl
 · rw [ltB_f (by omega)]
   conv=>whnf
   refine ⟨[0],false,?_⟩
   conv=>whnf
   refine ⟨rfl,bs,by omega,?_⟩
   rw [rdO,hR]; rfl
end Go.Cod
set_option linter.all false
namespace Go.Cod
variable [Adr]
open Go Go.Proofs Go.ChangeShapes Go.WideShapes Go.ChangeAt Go.RowKit
set_option maxRecDepth 10000
def rws {α:Type} (c:α→List V) (ys:List α):List (List V):=ys.map c
theorem rws_len {α:Type} (c:α→List V) (ys:List α):(rws c ys).length=ys.length:=by simp [rws]
theorem rws_get {α:Type} (c:α→List V) (ys:List α) (i:Nat) (h:i < ys.length):(rws c ys)[i]? = some (c ys[i]):=by simp [rws,h]
theorem rws_take {α:Type} (c:α→List V) (ys:List α) (i:Nat):(rws c ys).take i=rws c (ys.take i):=by simp [rws]
theorem rws_wid {α:Type} (c:α→List V) {k:Nat} (hk:∀ a,(c a).length=k) (ys:List α):∀ r∈rws c ys,r.length=k:=fun r hr=>by
 obtain ⟨a,_,rfl⟩:=List.mem_map.1 hr
 exact hk a
structure It where
 kind:List UInt8
 many:Bool
 may:Bool
 deriving DecidableEq
def It.cells (a:It):List V:=[.str a.kind,.bool a.many,.bool a.may]
structure Ru where
 kind:List UInt8
 text:Bool
 kids:List It
 deriving DecidableEq
def Ru.cells (a:Ru):List V:=[.str a.kind,.bool a.text,.sl (rws It.cells a.kids)]
structure Sc where
 root:List UInt8
 rules:List Ru
 deriving DecidableEq
def Sc.cells (a:Sc):List V:=[.str a.root,.sl (rws Ru.cells a.rules)]
theorem It.len (a:It):a.cells.length=3:=rfl
theorem Ru.len (a:Ru):a.cells.length=3:=rfl
end Go.Cod
set_option linter.all false
namespace Go.Cod
variable [Adr]
open Go Go.Proofs
set_option maxRecDepth 10000
abbrev sCells:List UInt8→List V:=fun s=>[.str s]
def It.Sm (a:It):Prop:=a.kind.length≤1048576
def Ru.Sm (a:Ru):Prop:=a.kind.length≤1048576∧a.kids.length≤1048576∧∀ x∈a.kids,x.Sm
def Sc.Sm (a:Sc):Prop:=a.root.length≤1048576∧a.rules.length≤1048576∧∀ x∈a.rules,x.Sm
end Go.Cod
set_option linter.all false
namespace Go.Cod
variable [Adr]
open Go Go.Proofs
set_option maxRecDepth 10000
def hasR (rs:List Ru) (k:List UInt8):Bool:=rs.any fun r=>decide (r.kind=k)
def idxR (k:List UInt8):List Ru→Int→Int
 | [],_=>-1
 | r::rs,n=>if r.kind=k then n else idxR k rs (n+1)
def textW:List UInt8:=[116,101,120,116]
def itemB (rs:List Ru) (x:It):Bool:=hasR rs x.kind&&!(x.many&&x.may)
def ruleB (rs:List Ru) (r:Ru):Bool:=nameL r.kind&&decide (r.kind≠textW)&&decide (r.kids.length≤4)&&r.kids.all (itemB rs)
def okS (s:Sc):Bool:=decide (s.rules.length≤6)&&hasR s.rules s.root&&s.rules.all (ruleB s.rules)&&decide ((s.rules.map (·.kind)).Nodup)
theorem idxR_drop (k:List UInt8) (rs:List Ru) (i:Nat) (h:i < rs.length) (n:Int):idxR k (rs.drop i) n=if rs[i].kind=k then n else idxR k (rs.drop (i+1)) (n+1):=by
 rw [List.drop_eq_getElem_cons h]; rfl
theorem idxR_has (k:List UInt8):∀ (rs:List Ru) (n:Int),0≤n→(idxR k rs n < 0↔hasR rs k=false)∧(hasR rs k=true→n≤idxR k rs n)
 | [],n,h=>by simp [idxR,hasR]
 | r::rs,n,h=>by
   have ih:=idxR_has k rs (n+1) (by omega)
   have he:hasR (r::rs) k=(decide (r.kind=k)||hasR rs k):=rfl
   simp only [idxR]
   rw [he]
   by_cases hk:r.kind=k
   · simp [hk]; omega
   · rw [if_neg hk]
     simp only [hk,decide_false,Bool.false_or]
     exact ⟨ih.1,fun h=>by have:=ih.2 h; omega⟩
theorem idxR_neg (k:List UInt8) (rs:List Ru):idxR k rs 0 < 0↔hasR rs k=false:=(idxR_has k rs 0 (by omega)).1
theorem hasR_get {rs:List Ru} {i:Nat} (h:i < rs.length):hasR rs rs[i].kind=true:=by
 unfold hasR
 rw [List.any_eq_true]
 exact ⟨rs[i],List.getElem_mem _,by simp⟩
theorem hasR_iff (rs:List Ru) (k:List UInt8):hasR rs k=true↔k∈rs.map (·.kind):=by
 unfold hasR
 rw [List.any_eq_true]
 simp only [List.mem_map,decide_eq_true_eq]
theorem idxR_at (k:List UInt8):∀ (rs:List Ru) (n:Int),0≤n→hasR rs k=true→∃ (i:Nat) (h:i < rs.length),idxR k rs n=n+i∧rs[i].kind=k∧hasR (rs.take i) k=false
 | [],n,_,h=>by simp [hasR] at h
 | r::rs,n,hn,h=>by
   have he:hasR (r::rs) k=(decide (r.kind=k)||hasR rs k):=rfl
   rw [he] at h
   by_cases hk:r.kind=k
   · exact ⟨0,by simp,by simp [idxR,hk],by simpa using hk,rfl⟩
   · simp only [hk,decide_false,Bool.false_or] at h
     obtain ⟨i,hi,h1,h2,h3⟩:=idxR_at k rs (n+1) (by omega) h
     refine ⟨i+1,by simpa using hi,?_,by simpa using h2,?_⟩
     · simp only [idxR,if_neg hk,h1]; omega
     · have:hasR ((r::rs).take (i+1)) k=(decide (r.kind=k)||hasR (rs.take i) k):=rfl
       rw [this,h3]; simp [hk]
theorem idxR_first (rs:List Ru) (i:Nat) (h:i < rs.length):idxR rs[i].kind rs 0=i↔hasR (rs.take i) rs[i].kind=false:=by
 obtain ⟨j,hj,h1,h2,h3⟩:=idxR_at rs[i].kind rs 0 (by omega) (hasR_get h)
 rw [h1]
 constructor
 · intro e
   obtain rfl:j=i:=by omega
   exact h3
 · intro e
   rcases Nat.lt_trichotomy j i with hlt | rfl | hlt
   · exfalso
     have:hasR (rs.take i) rs[i].kind=true:=by
      unfold hasR
      rw [List.any_eq_true]
      exact ⟨rs[j],List.mem_take_iff_getElem.2 ⟨j,by omega,rfl⟩,by simpa using h2⟩
     rw [e] at this; cases this
   · omega
   · exfalso
     have:hasR (rs.take j) rs[i].kind=true:=by
      unfold hasR
      rw [List.any_eq_true]
      exact ⟨rs[i],List.mem_take_iff_getElem.2 ⟨i,by omega,rfl⟩,by simp⟩
     rw [h3] at this; cases this
theorem kinds_take {rs:List Ru} {i:Nat} (h:i < rs.length):((rs.take (i+1)).map (·.kind)).Nodup↔((rs.take i).map (·.kind)).Nodup∧hasR (rs.take i) rs[i].kind=false:=by
 rw [List.take_succ_eq_append_getElem h,List.map_append,List.nodup_append]
 simp only [List.map_cons,List.map_nil,List.nodup_cons,List.not_mem_nil,not_false_eq_true,List.nodup_nil,and_self,List.mem_singleton,forall_eq,true_and]
 rw [← Bool.not_eq_true,hasR_iff]
 exact ⟨fun ⟨a,b⟩=>⟨a,fun h=>b _ h rfl⟩,fun ⟨a,b⟩=>⟨a,fun x hx e=>b (e ▸ hx)⟩⟩
theorem kinds_no {rs:List Ru} {i:Nat} (h:i < rs.length) (hh:hasR (rs.take i) rs[i].kind=true):¬ (rs.map (·.kind)).Nodup:=fun hd=>by
 have h3:((rs.take (i+1)).map (·.kind)).Nodup:=hd.sublist ((List.take_sublist _ _).map _)
 rw [(kinds_take h).1 h3 |>.2] at hh; cases hh
theorem all_take {α:Type} {p:α→Bool} {s:List α} {i:Nat} (h:i < s.length):(s.take (i+1)).all p=((s.take i).all p&&p s[i]):=by
 rw [List.take_succ_eq_append_getElem h,List.all_append]; simp
theorem all_no {α:Type} {p:α→Bool} {s:List α} {i:Nat} (h:i < s.length) (hp:p s[i]=false):s.all p=false:=by
 rw [List.all_eq_false]; exact ⟨s[i],List.getElem_mem _,by simp [hp]⟩
set_option maxHeartbeats 4000000 in
theorem l3Rule_pure (s:Sc) (k:List UInt8) (hn:s.rules.length≤1048576):Pure Tryd.prog 34 [.agg s.cells,.str k] (·=.int .i64 (idxR k s.rules 0)):=by
 have hd:idxR k s.rules 0=idxR k (s.rules.drop 0) ((0:Nat):Int):=rfl
 generalize idxR k s.rules 0=res at *
 obtain ⟨root,rules⟩:=s
 simp only [Sc.cells] at hn hd ⊢
 have hlr:=rws_len Ru.cells rules
 have hgr:=rws_get Ru.cells rules
 generalize rws Ru.cells rules=rows at *
 refine pure_of_awp good Tryd.func34 rfl (by kernel_rfl) (by decide) ?_
 conv=>whnf
 refine loop_intro (fun n fr st=>st=[⟨[[.str root,.sl rows]],2,true,true,true,.cell⟩]∧∃ i:Nat,n+i=rules.length∧res=idxR k (rules.drop i) i∧Holds fr [(1,.str k),(2,.ptr 0 0 0),(5,.int .i64 i)]) rules.length ⟨rfl,0,rfl,hd,rfl,rfl,rfl,trivial⟩ ?_
 rintro n fr st ⟨rfl,i,hi,hr,hh⟩
 obtain ⟨fr,rfl⟩:=hh.split
 clear hh
 conv=>whnf
 by_cases hlt:i < rules.length
 · rw [hlr,ltB_t (by omega)]
   conv=>whnf
   have hg:=hgr i hlt
   have hs:=idxR_drop k rules i hlt i
   generalize rules[i]=x at *
   obtain ⟨kind,text,kids⟩:=x
   simp only [Ru.cells] at hg hs
   refine ⟨by omega,rows,_,3,rfl,hg,rfl,rfl,?_⟩
   conv=>whnf
   by_cases hk:kind=k
   · rw [eqS_t hk]
     conv=>whnf
     rw [hr,hs,if_pos hk]
   · rw [eqS_f hk]
     conv=>whnf
     refine ⟨n - 1,by omega,rfl,i+1,by omega,?_,rfl,rfl,?_,trivial⟩
     · rw [hr,hs,if_neg hk]; rfl
     · show V.int .i64 (IntKind.i64.wrap (i+1))=_
       rw [wrap64 (by omega) (by omega)]; simp
 · rw [hlr,ltB_f (by omega)]
   conv=>whnf
   rw [hr,List.drop_of_length_le (by omega)]
   rfl
end Go.Cod
set_option linter.all false
namespace Go.Cod
variable [Adr]
open Go Go.Proofs
set_option maxRecDepth 10000
theorem itemB_def (rs:List Ru) (x:It):itemB rs x=(hasR rs x.kind&&!(x.many&&x.may)):=rfl
theorem okS_def (s:Sc):okS s=(decide (s.rules.length≤6)&&hasR s.rules s.root&&s.rules.all (ruleB s.rules)&&decide ((s.rules.map (·.kind)).Nodup)):=rfl
set_option maxHeartbeats 8000000 in
theorem specSchemaOk_pure (s:Sc) (hs:s.Sm):Pure Tryd.prog 15 [.agg s.cells] (·=.bool (okS s)):=by
 have f1:=fun k=>l3Rule_pure s k hs.2.1
 have hO:=okS_def s
 generalize okS s=res at *
 obtain ⟨root,rules⟩:=s
 obtain ⟨_,hn,hx⟩:=hs
 simp only [Sc.cells] at f1 hn hx hO ⊢
 have hlr:=rws_len Ru.cells rules
 have hgr:=rws_get Ru.cells rules
 have hneg:=fun k=>idxR_neg k rules
 have hfst:=idxR_first rules
 have hkt:=fun i (h:i < rules.length)=>kinds_take h
 have hkn:=fun i (h:i < rules.length)=>kinds_no h
 generalize rws Ru.cells rules=rows at *
 refine pure_of_awp good Tryd.func15 rfl (by kernel_rfl) (by decide) ?_
 conv=>whnf
 refine .inl ((l1In_pure _ _ _).mono ?_)
 rintro r rfl
 rw [hlr]
 by_cases hA:1≤(rules.length:Int)∧(rules.length:Int)≤6
 case neg =>
  rw [decide_eq_false hA]
  conv=>whnf
  rw [hO]
  by_cases h6:rules.length≤6
  · have:rules=[]:=List.length_eq_zero_iff.1 (by omega)
    subst this
    rfl
  · rw [decide_eq_false h6]; rfl
 rw [decide_eq_true hA]
 conv=>whnf
 refine .inl ((f1 root).mono ?_)
 rintro r rfl
 by_cases hB:idxR root rules 0 < 0
 · have hb:=(hneg root).1 hB
   generalize idxR root rules 0=v at *
   conv=>whnf
   rw [ltB_t hB]
   conv=>whnf
   rw [hO,hb]; simp
 have hb:hasR rules root=true:=by
  cases h:hasR rules root with
  | true=>rfl
  | false=>exact absurd ((hneg root).2 h) hB
 generalize idxR root rules 0=v at *
 conv=>whnf
 rw [ltB_f (by omega)]
 rw [hb,decide_eq_true (show rules.length≤6 by omega),Bool.true_and,Bool.true_and] at hO
 conv=>whnf
 refine loop_drop (fun n fr st=>∃ i:Nat,n+i=rules.length∧(rules.take i).all (ruleB rules)=true∧((rules.take i).map (·.kind)).Nodup∧st=[⟨[[.str root,.sl rows]],2,true,true,true,.cell⟩]∧Holds fr [(1,.ptr 0 0 0),(3,.int .i64 i)]) rules.length none ⟨0,rfl,rfl,by simp,rfl,rfl,rfl,trivial⟩ ?_
 rintro n fr st ⟨i,hi,hal,hnd,rfl,hh⟩
 obtain ⟨fr,rfl⟩:=hh.split
 clear hh
 conv=>whnf
 by_cases hlt:i < rules.length
 · rw [hlr,ltB_t (by omega)]
   conv=>whnf
   have hg:=hgr i hlt
   have hxi:=hx rules[i] (List.getElem_mem _)
   have hat:=all_take (p:=ruleB rules) hlt
   have hano:=all_no (p:=ruleB rules) hlt
   have hf:=hfst i hlt
   have hk1:=hkt i hlt
   have hk2:=hkn i hlt
   have hrd:ruleB rules rules[i]=(nameL rules[i].kind&&decide (rules[i].kind≠textW)&&decide (rules[i].kids.length≤4)&&rules[i].kids.all (itemB rules)):=rfl
   generalize rules[i]=x at *
   obtain ⟨kind,text,kids⟩:=x
   obtain ⟨g1,g2,g3⟩:=hxi
   simp only [Ru.cells] at hg hat hano hf hk1 hk2 hrd g1 g2 g3
   have hlk:=rws_len It.cells kids
   have hgk:=rws_get It.cells kids
   generalize rws It.cells kids=krows at *
   refine ⟨by omega,rows,_,3,rfl,hg,rfl,rfl,?_⟩
   conv=>whnf
   refine .inl ((l2Name_pure kind (by omega)).mono ?_)
   rintro r rfl
   cases hN:nameL kind with
   | false =>
     conv=>whnf
     rw [hO,hano (by rw [hrd,hN]; rfl)]; rfl
   | true =>
     conv=>whnf
     by_cases hT:kind=[116,101,120,116]
     · rw [eqS_t hT]
       conv=>whnf
       rw [hO,hano (by rw [hrd,hN,decide_eq_false (by simp [textW,hT])]; rfl)]; rfl
     rw [eqS_f hT]
     rw [hN,decide_eq_true (show kind≠textW from hT),Bool.true_and,Bool.true_and] at hrd
     conv=>whnf
     refine .inl ((f1 kind).mono ?_)
     rintro r rfl
     by_cases hF:idxR kind rules 0=i
     case neg =>
      have hh:hasR (rules.take i) kind=true:=by
       cases h:hasR (rules.take i) kind with
       | true=>rfl
       | false=>exact absurd (hf.2 h) hF
      generalize idxR kind rules 0=v at *
      conv=>whnf
      rw [eqB_f hF]
      conv=>whnf
      rw [hO,decide_eq_false (hk2 hh)]; simp
     have hh:=hf.1 hF
     generalize idxR kind rules 0=v at *
     subst hF
     conv=>whnf
     rw [eqB_refl]
     conv=>whnf
     rw [hlk]
     by_cases hK:(kids.length:Int)≤4
     case neg =>
      rw [ltB_t (by omega)]
      conv=>whnf
      rw [hO,hano (by rw [hrd,decide_eq_false (by omega)]; rfl)]; rfl
     rw [ltB_f (by omega)]
     rw [decide_eq_true (show kids.length≤4 by omega),Bool.true_and] at hrd
     conv=>whnf
     refine loop_intro (fun n fr st=>∃ j:Nat,n+j=kids.length∧(kids.take j).all (itemB rules)=true∧st=[⟨[[.str root,.sl rows]],2,true,true,true,.cell⟩,⟨[[.str kind,.bool text,.sl krows]],3,true,true,true,.cell⟩]∧Holds fr [(1,.ptr 0 0 0),(3,.int .i64 i),(4,.ptr 1 0 0),(5,.int .i64 j)]) kids.length ⟨0,rfl,rfl,rfl,rfl,rfl,rfl,rfl,trivial⟩ ?_
     rintro n2 fr st ⟨j,hj,hja,rfl,hh2⟩
     obtain ⟨fr,rfl⟩:=hh2.split
     clear hh2
     conv=>whnf
     by_cases hjt:j < kids.length
     · rw [hlk,ltB_t (by omega)]
       conv=>whnf
       have hgj:=hgk j hjt
       have hjs:=all_take (p:=itemB rules) hjt
       have hjno:=all_no (p:=itemB rules) hjt
       have hjd:=itemB_def rules kids[j]
       generalize kids[j]=y at *
       obtain ⟨yk,ym,yy⟩:=y
       simp only [It.cells] at hgj hjd
       repeat (first
        | (refine ⟨by omega,krows,_,3,rfl,hgj,rfl,rfl,?_⟩
           conv=>whnf)
        | (refine ⟨_,.inl (f1 yk),?_⟩
           conv=>whnf))
       by_cases hY:idxR yk rules 0 < 0
       · have hy0:=(hneg yk).1 hY
         generalize idxR yk rules 0=v at *
         rw [ltB_t hY]
         conv=>whnf
         rw [hO,hano (by rw [hrd,hjno (by rw [hjd,hy0]; rfl)])]; rfl
       have hy1:hasR rules yk=true:=by
        cases h:hasR rules yk with
        | true=>rfl
        | false=>exact absurd ((hneg yk).2 h) hY
       generalize idxR yk rules 0=v at *
       rw [ltB_f (by omega)]
       rw [hy1,Bool.true_and] at hjd
       conv=>whnf
       refine ⟨by omega,krows,_,3,rfl,hgj,rfl,rfl,?_⟩
       cases ym with
       | false =>
         conv=>whnf
         refine ⟨n2 - 1,by omega,j+1,by omega,by rw [hjs,hja,hjd]; rfl,rfl,rfl,rfl,rfl,?_,trivial⟩
         show V.int .i64 (IntKind.i64.wrap (j+1))=_
         rw [wrap64 (by omega) (by omega)]; simp
       | true =>
         conv=>whnf
         refine ⟨by omega,krows,_,3,rfl,hgj,rfl,rfl,?_⟩
         cases yy with
         | true =>
           conv=>whnf
           rw [hO,hano (by rw [hrd,hjno (by rw [hjd]; rfl)])]; rfl
         | false =>
           conv=>whnf
           refine ⟨n2 - 1,by omega,j+1,by omega,by rw [hjs,hja,hjd]; rfl,rfl,rfl,rfl,rfl,?_,trivial⟩
           show V.int .i64 (IntKind.i64.wrap (j+1))=_
           rw [wrap64 (by omega) (by omega)]; simp
     · rw [hlk,ltB_f (by omega)]
       conv=>whnf
       rw [List.take_of_length_le (by omega)] at hja
       rw [hja] at hrd
       refine ⟨n - 1,by omega,some [0],i+1,by omega,?_,hk1.2 ⟨hnd,hh⟩,rfl,rfl,?_,trivial⟩
       · rw [hat,hal,hrd]; rfl
       · show V.int .i64 (IntKind.i64.wrap (i+1))=_
         rw [wrap64 (by omega) (by omega)]; simp
 · rw [hlr,ltB_f (by omega)]
   conv=>whnf
   rw [List.take_of_length_le (by omega)] at hal hnd
   rw [hO,hal,decide_eq_true hnd]; rfl
end Go.Cod
set_option linter.all false
namespace Go.Cod
variable [Adr]
open Go Go.Proofs
set_option maxRecDepth 10000
def noRule:List V:=[.str [],.bool false,.sl []]
def ruleOf (rs:List Ru) (k:List UInt8):List V:=match rs.find? fun r=>decide (r.kind=k) with
 | some r=>r.cells
 | none=>noRule
def ruleErr (rs:List Ru) (k:List UInt8):V:=if hasR rs k=true then nilErr else errV 0
theorem find_drop (rs:List Ru) (k:List UInt8) (i:Nat) (h:i < rs.length):ruleOf (rs.drop i) k=if rs[i].kind=k then rs[i].cells else ruleOf (rs.drop (i+1)) k:=by
 rw [List.drop_eq_getElem_cons h]
 unfold ruleOf
 by_cases hk:rs[i].kind=k
 · simp [List.find?,hk]
 · simp [List.find?,hk]
theorem hasR_drop (rs:List Ru) (k:List UInt8) (i:Nat) (h:i < rs.length):hasR (rs.drop i) k=(decide (rs[i].kind=k)||hasR (rs.drop (i+1)) k):=by
 rw [List.drop_eq_getElem_cons h]; rfl
set_option maxHeartbeats 4000000 in
theorem schemaRule_pure (rs:List Ru) (k:List UInt8) (hn:rs.length≤1048576):Pure Tryd.prog 31 [.sl (rws Ru.cells rs),.str k] (·=.tup [.agg (ruleOf rs k),ruleErr rs k]):=by
 have hlr:=rws_len Ru.cells rs
 have hgr:=rws_get Ru.cells rs
 have hd:ruleOf rs k=ruleOf (rs.drop 0) k:=rfl
 have hd2:hasR rs k=hasR (rs.drop 0) k:=rfl
 have he:ruleErr rs k=if hasR rs k=true then nilErr else errV 0:=rfl
 generalize ruleErr rs k=er at *
 generalize ruleOf rs k=res at *
 generalize hasR rs k=hb at *
 generalize rws Ru.cells rs=rows at *
 refine pure_of_awp good Tryd.func31 rfl (by kernel_rfl) (by decide) ?_
 conv=>whnf
 refine loop_drop (fun n fr st=>∃ i:Nat,n+i=rs.length∧res=ruleOf (rs.drop i) k∧hb=hasR (rs.drop i) k∧st=[⟨[[.str [],.bool false,.nils]],3,true,true,true,.cell⟩]∧Holds fr [(1,.str k),(4,.ptr 0 0 0),(5,nilErr),(8,.sl rows),(9,.int .i64 rs.length),(10,.int .i64 i)]) rs.length none ⟨0,rfl,hd,hd2,rfl,rfl,rfl,rfl,rfl,by rw [← hlr]; rfl,rfl,trivial⟩ ?_
 rintro n fr st ⟨i,hi,hr,hr2,rfl,hh⟩
 obtain ⟨fr,rfl⟩:=hh.split
 clear hh
 conv=>whnf
 by_cases hlt:i < rs.length
 · rw [ltB_t (by omega)]
   conv=>whnf
   have hg:=hgr i hlt
   have hs:=find_drop rs k i hlt
   have hs2:=hasR_drop rs k i hlt
   generalize rs[i]=x at *
   obtain ⟨kind,text,kids⟩:=x
   simp only [Ru.cells] at hg hs hs2
   refine ⟨by omega,rows,_,3,rfl,hg,rfl,rfl,?_⟩
   conv=>whnf
   by_cases hk:kind=k
   · rw [eqS_t hk]
     conv=>whnf
     rw [hr,hs,if_pos hk]
     rw [hr2,hs2,decide_eq_true hk] at he
     rw [he]; rfl
   · rw [eqS_f hk]
     conv=>whnf
     refine ⟨n - 1,by omega,some [0],i+1,by omega,?_,?_,rfl,rfl,rfl,rfl,rfl,rfl,?_,trivial⟩
     · rw [hr,hs,if_neg hk]
     · rw [hr2,hs2,decide_eq_false hk]; rfl
     · show V.int .i64 (IntKind.i64.wrap (i+1))=_
       rw [wrap64 (by omega) (by omega)]; simp
 · rw [ltB_f (by omega)]
   rw [List.drop_of_length_le (by omega)] at hr hr2
   rw [hr2] at he
   have hr:res=noRule:=hr
   have he:er=errV 0:=he
   conv=>whnf
   refine And.intro (by (conv=>whnf); first | done | rfl) ?_
   conv=>whnf
   rw [hr,he]; rfl
end Go.Cod
set_option linter.all false
namespace Go.Cod
variable [Adr]
open Go Go.Proofs
set_option maxRecDepth 10000
theorem ruleOf_cells (rs:List Ru) (k:List UInt8):∃ r:Ru,ruleOf rs k=r.cells:=by
 unfold ruleOf
 split
 · exact ⟨_,rfl⟩
 · exact ⟨⟨[],false,[]⟩,rfl⟩
theorem schemaHas_pure (rs:List Ru) (k:List UInt8) (hn:rs.length≤1048576):Pure Tryd.prog 85 [.sl (rws Ru.cells rs),.str k] (·=.bool (hasR rs k)):=by
 have f1:=schemaRule_pure rs k hn
 have he:ruleErr rs k=if hasR rs k=true then nilErr else errV 0:=rfl
 obtain ⟨r0,hr0⟩:=ruleOf_cells rs k
 rw [hr0] at f1
 generalize ruleErr rs k=er at *
 generalize hasR rs k=hb at *
 generalize rws Ru.cells rs=rows at *
 obtain ⟨a,b,c⟩:=r0
 simp only [Ru.cells] at f1
 refine pure_of_awp good Tryd.func85 rfl (by kernel_rfl) (by decide) ?_
 conv=>whnf
 refine .inl (f1.mono ?_)
 rintro r rfl
 cases hb with
 | true =>
   rw [he]
   conv=>whnf
   refine .inl ((errorsIs_nil 0).mono ?_)
   rintro r rfl
   conv=>whnf
   rfl
 | false =>
   rw [he]
   conv=>whnf
   refine .inl ((errorsIs_same 0).mono ?_)
   rintro r rfl
   conv=>whnf
   rfl
def isErr (x:V):Prop:=∃ a:Addr,x=.raw (.iface 169 (.pointer (some a)))
def faultIs (b:Bool) (x:V):Prop:=match b with
 | true=>x=nilErr
 | false=>isErr x
set_option maxHeartbeats 8000000 in
theorem itemsFault_pure (s:Sc) (hs:s.Sm) (xs:List It) (hx:xs.length≤1048576):Pure Tryd.prog 86 [.agg s.cells,.sl (rws It.cells xs)] (faultIs (decide (xs.length≤4)&&xs.all (itemB s.rules))):=by
 have f1:=fun k=>schemaHas_pure s.rules k hs.2.1
 have hd:∀ x:It,itemB s.rules x=(hasR s.rules x.kind&&!(x.many&&x.may)):=fun x=>rfl
 obtain ⟨root,rules⟩:=s
 simp only [Sc.cells] at f1 hd ⊢
 generalize rws Ru.cells rules=rrows at *
 generalize itemB rules=p at *
 have hF:faultIs (decide (xs.length≤4)&&xs.all p)=fun x=>faultIs (decide (xs.length≤4)&&xs.all p) x:=rfl
 generalize hres:(decide (xs.length≤4)&&xs.all p)=res at *
 have hlr:=rws_len It.cells xs
 have hgr:=rws_get It.cells xs
 generalize rws It.cells xs=rows at *
 refine pure_of_awp good Tryd.func86 rfl (by kernel_rfl) (by decide) ?_
 conv=>whnf
 rw [hlr]
 by_cases a1:(4:Int) < (xs.length:Int)
 · rw [ltB_t a1]
   rw [decide_eq_false (by omega),Bool.false_and] at hres
   subst hres
   conv=>whnf
   exact ⟨_,rfl⟩
 rw [ltB_f (by omega)]
 rw [decide_eq_true (by omega),Bool.true_and] at hres
 conv=>whnf
 refine loop_drop (fun n fr st=>∃ i:Nat,n+i=xs.length∧(xs.take i).all p=true∧st=[⟨[[.str root,.sl rrows]],2,true,true,true,.cell⟩]∧Holds fr [(2,.ptr 0 0 0),(11,.sl rows),(12,.int .i64 xs.length),(13,.int .i64 i)]) xs.length none ⟨0,rfl,rfl,rfl,rfl,rfl,by rw [← hlr]; rfl,rfl,trivial⟩ ?_
 rintro n fr st ⟨i,hi,hal,rfl,hh⟩
 obtain ⟨fr,rfl⟩:=hh.split
 clear hh
 conv=>whnf
 by_cases hlt:i < xs.length
 · rw [ltB_t (by omega)]
   conv=>whnf
   have hg:=hgr i hlt
   have hat:=all_take (p:=p) hlt
   have hano:=all_no (p:=p) hlt
   have hx:=hd xs[i]
   generalize xs[i]=y at *
   obtain ⟨yk,ym,yy⟩:=y
   simp only [It.cells] at hg hx
   refine ⟨by omega,rows,_,3,rfl,hg,rfl,rfl,?_⟩
   have h2:∀ b c,(b&&c)=true∨(b&&c)=false:=fun b c=>by cases b <;> cases c <;> simp
   have key:(∀ fr0:Nat→V,True):=fun _=>trivial
   cases ym <;> cases yy
   case true.true =>
    conv=>whnf
    rw [← hres,hano (by rw [hx]; cases hasR rules yk <;> rfl)]
    exact ⟨_,rfl⟩
   all_goals
    conv=>whnf
    refine .inl ((f1 yk).mono ?_)
    rintro r rfl
    generalize hasR rules yk=hb at *
    cases hb with
    | false =>
      conv=>whnf
      rw [← hres,hano (by rw [hx]; rfl)]
      exact ⟨_,rfl⟩
    | true =>
      conv=>whnf
      refine ⟨n - 1,by omega,some [0],i+1,by omega,by rw [hat,hal,hx]; rfl,rfl,rfl,rfl,rfl,?_,trivial⟩
      show V.int .i64 (IntKind.i64.wrap (i+1))=_
      rw [wrap64 (by omega) (by omega)]; simp
 · rw [ltB_f (by omega)]
   rw [List.take_of_length_le (by omega)] at hal
   rw [hal] at hres
   subst hres
   conv=>whnf
set_option maxHeartbeats 8000000 in
theorem schemaFault_pure (s:Sc) (hs:s.Sm):Pure Tryd.prog 63 [.agg s.cells] (faultIs (okS s)):=by
 have f1:=fun k=>schemaHas_pure s.rules k hs.2.1
 have f1t:=fun i k=>schemaHas_pure (s.rules.take i) k (by rw [List.length_take]; have:=hs.2.1; omega)
 have f2:=itemsFault_pure s hs
 have hO:=okS_def s
 generalize okS s=res at *
 obtain ⟨root,rules⟩:=s
 obtain ⟨_,hn,hx⟩:=hs
 simp only [Sc.cells] at f1 f1t f2 hn hx hO ⊢
 have hlr:=rws_len Ru.cells rules
 have hgr:=rws_get Ru.cells rules
 have htk:=rws_take Ru.cells rules
 have hwid:=rws_wid Ru.cells Ru.len rules
 have hkt:=fun i (h:i < rules.length)=>kinds_take h
 have hkn:=fun i (h:i < rules.length)=>kinds_no h
 simp only [← htk] at f1t
 generalize rws Ru.cells rules=rows at *
 refine pure_of_awp good Tryd.func63 rfl (by kernel_rfl) (by decide) ?_
 conv=>whnf
 rw [hlr]
 by_cases a1:(6:Int) < (rules.length:Int)
 · rw [ltB_t a1]
   rw [decide_eq_false (by omega)] at hO
   conv=>whnf
   rw [hO]
   exact ⟨_,rfl⟩
 rw [ltB_f (by omega)]
 rw [decide_eq_true (by omega),Bool.true_and] at hO
 conv=>whnf
 refine loop_drop (fun n fr st=>∃ i:Nat,n+i=rules.length∧(rules.take i).all (ruleB rules)=true∧((rules.take i).map (·.kind)).Nodup∧st=[⟨[[.str root,.sl rows]],2,true,true,true,.cell⟩]∧Holds fr [(1,.ptr 0 0 0),(12,.sl rows),(13,.int .i64 rules.length),(14,.int .i64 i)]) rules.length none ⟨0,rfl,rfl,by simp,rfl,rfl,rfl,by rw [← hlr]; rfl,rfl,trivial⟩ ?_
 rintro n fr st ⟨i,hi,hal,hnd,rfl,hh⟩
 obtain ⟨fr,rfl⟩:=hh.split
 clear hh
 conv=>whnf
 by_cases hlt:i < rules.length
 · rw [ltB_t (by omega)]
   conv=>whnf
   have hg:=hgr i hlt
   have hxi:=hx rules[i] (List.getElem_mem _)
   have hat:=all_take (p:=ruleB rules) hlt
   have hano:=all_no (p:=ruleB rules) hlt
   have hk1:=hkt i hlt
   have hk2:=hkn i hlt
   have hrd:ruleB rules rules[i]=(nameL rules[i].kind&&decide (rules[i].kind≠textW)&&decide (rules[i].kids.length≤4)&&rules[i].kids.all (itemB rules)):=rfl
   generalize rules[i]=x at *
   obtain ⟨kind,text,kids⟩:=x
   obtain ⟨g1,g2,g3⟩:=hxi
   simp only [Ru.cells] at hg hat hano hk1 hk2 hrd g1 g2 g3
   have f2:=f2 kids (by omega)
   have f4:=f1t i kind
   generalize rws It.cells kids=krows at *
   refine ⟨by omega,rows,_,3,rfl,hg,rfl,rfl,?_⟩
   conv=>whnf
   refine ⟨_,.inl (nameOk_pure kind (by omega)),?_⟩
   cases hN:nameL kind with
   | false =>
     conv=>whnf
     rw [hO,hano (by rw [hrd,hN]; rfl),Bool.and_false,Bool.false_and]
     exact ⟨_,rfl⟩
   | true =>
     conv=>whnf
     by_cases hT:kind=[116,101,120,116]
     · rw [eqS_t hT]
       conv=>whnf
       rw [hO,hano (by rw [hrd,hN,decide_eq_false (by simp [textW,hT])]; rfl),Bool.and_false,Bool.false_and]
       exact ⟨_,rfl⟩
     rw [eqS_f hT]
     rw [hN,decide_eq_true (show kind≠textW from hT),Bool.true_and,Bool.true_and] at hrd
     conv=>whnf
     refine ⟨hwid,?_⟩
     conv=>whnf
     refine ⟨by omega,by omega,?_⟩
     conv=>whnf
     refine ⟨rfl,?_⟩
     conv=>whnf
     refine ⟨_,.inl f4,?_⟩
     generalize hasR (rules.take i) kind=hb at *
     cases hb with
     | true =>
       conv=>whnf
       rw [hO,decide_eq_false (hk2 rfl),Bool.and_false]
       exact ⟨_,rfl⟩
     | false =>
       conv=>whnf
       refine .inl (f2.mono ?_)
       intro r hr
       generalize hbb:(decide (kids.length≤4)&&kids.all (itemB rules))=bb at *
       cases bb with
       | true =>
         obtain rfl:r=nilErr:=hr
         conv=>whnf
         refine ⟨n - 1,by omega,some [0],i+1,by omega,by rw [hat,hal,hrd]; rfl,hk1.2 ⟨hnd,rfl⟩,rfl,rfl,rfl,rfl,?_,trivial⟩
         show V.int .i64 (IntKind.i64.wrap (i+1))=_
         rw [wrap64 (by omega) (by omega)]; simp
       | false =>
         obtain ⟨a,rfl⟩:isErr r:=hr
         conv=>whnf
         rw [hO,hano (by rw [hrd]),Bool.and_false,Bool.false_and]
         exact ⟨_,rfl⟩
 · rw [ltB_f (by omega)]
   rw [List.take_of_length_le (by omega)] at hal hnd
   rw [hal,decide_eq_true hnd,Bool.and_true,Bool.and_true] at hO
   have f1:=f1 root
   generalize hasR rules root=hb at *
   subst hO
   conv=>whnf
   refine .inl (f1.mono ?_)
   rintro r rfl
   cases res with
   | false =>
     conv=>whnf
     exact ⟨_,rfl⟩
   | true =>
     conv=>whnf
theorem implSchemaOk_pure (s:Sc) (hs:s.Sm):Pure Tryd.prog 30 [.agg s.cells] (·=.bool (okS s)):=by
 have f1:=schemaFault_pure s hs
 generalize okS s=res at *
 obtain ⟨root,rules⟩:=s
 simp only [Sc.cells] at f1 ⊢
 generalize rws Ru.cells rules=rows at *
 refine pure_of_awp good Tryd.func30 rfl (by kernel_rfl) (by decide) ?_
 conv=>whnf
 refine .inl (f1.mono ?_)
 intro r hr
 cases res with
 | true =>
   obtain rfl:r=nilErr:=hr
   conv=>whnf
 | false =>
   obtain ⟨a,rfl⟩:isErr r:=hr
   conv=>whnf
end Go.Cod
set_option linter.all false
namespace Go.Cod
variable [Adr]
open Go Go.Proofs
set_option maxRecDepth 10000
abbrev Ks:=List (List UInt8)
def takesB (k:List UInt8) (ks:Ks):Bool:=match ks with
 | []=>false
 | y::_=>decide (y=k)
def manyP (k:List UInt8) (p:Ks→Bool):Ks→Bool
 | []=>p []
 | y::ys=>p (y::ys)||(decide (y=k)&&manyP k p ys)
def itemP (x:It) (p:Ks→Bool) (ks:Ks):Bool:=match x.many with
 | true=>manyP x.kind p ks
 | false=>match x.may with
   | true=>p ks||(takesB x.kind ks&&p ks.tail)
   | false=>takesB x.kind ks&&p ks.tail
def matchP:List It→Ks→Bool
 | []=>fun ks=>decide (ks.length=0)
 | x::xs=>itemP x (matchP xs)
theorem rws_tail {α:Type} (c:α→List V) (ys:List α):((rws c ys).take (rws c ys).length).drop 1=rws c ys.tail:=by
 rw [List.take_of_length_le (Nat.le_refl _)]
 cases ys <;> rfl
theorem match_cons (x:It) (xs:List It) (ks:Ks):matchP (x::xs) ks=(((x.many||x.may)&&matchP xs ks)||(takesB x.kind ks&&(if x.many=true then matchP (x::xs) ks.tail else matchP xs ks.tail))):=by
 obtain ⟨kind,many,may⟩:=x
 show itemP _ _ _=_
 cases many with
 | true =>
   show manyP kind (matchP xs) ks=_
   cases ks with
   | nil=>simp [manyP,takesB]
   | cons y ys=>simp [manyP,takesB,matchP,itemP]
 | false=>cases may <;> simp [itemP]
set_option maxHeartbeats 8000000 in
theorem l3Match_pure:∀ (n:Nat) (xs:List It) (ks:Ks),xs.length+ks.length < n→Pure Tryd.prog 35 [.sl (rws It.cells xs),.sl (rws sCells ks)] (·=.bool (matchP xs ks))
 | 0,_,_,h=>by omega
 | n+1,[],ks,h=>by
   have hlk:=rws_len sCells ks
   have hM:matchP [] ks=decide (ks.length=0):=rfl
   generalize matchP [] ks=res at *
   generalize rws sCells ks=krows at *
   refine pure_of_awp good Tryd.func35 rfl (by kernel_rfl) (by decide) ?_
   conv=>whnf
   rw [eqB_t (show (((rws It.cells []).length:Nat):Int)=0 from rfl)]
   conv=>whnf
   rw [hlk,hM,eqB_def]
   congr 1
   exact decide_eq_decide.2 (by omega)
 | n+1,x::xs,ks,h=>by
   have i1:=l3Match_pure n xs ks (by simp at h; omega)
   have i2:=fun (_:0 < ks.length)=>l3Match_pure n (x::xs) ks.tail (by simp at h ⊢; omega)
   have i3:=l3Match_pure n xs ks.tail (by simp at h ⊢; omega)
   have hM:=match_cons x xs ks
   have hlx:(rws It.cells (x::xs)).length=xs.length+1:=by rw [rws_len]; rfl
   have hg:(rws It.cells (x::xs))[0]? = some x.cells:=rfl
   have ht:((rws It.cells (x::xs)).take (rws It.cells (x::xs)).length).drop 1=rws It.cells xs:=rws_tail It.cells (x::xs)
   have hw:=rws_wid It.cells It.len (x::xs)
   have hwk:=rws_wid sCells (k:=1) (fun _=>rfl) ks
   rw [← ht] at i1 i3
   have htk:=rws_tail sCells ks
   rw [← htk] at i2 i3
   have hlk:=rws_len sCells ks
   have hgk:=rws_get sCells ks
   generalize matchP (x::xs) ks.tail=q at *
   generalize matchP (x::xs) ks=res at *
   generalize matchP xs ks.tail=pt at *
   generalize matchP xs ks=p at *
   generalize rws It.cells (x::xs)=rows at *
   generalize rws sCells ks=krows at *
   obtain ⟨kind,many,may⟩:=x
   simp only [It.cells] at hg hM
   refine pure_of_awp good Tryd.func35 rfl (by kernel_rfl) (by decide) ?_
   conv=>whnf
   rw [hlx,eqB_f (by omega)]
   conv=>whnf
   refine ⟨by omega,rows,_,3,rfl,hg,rfl,rfl,?_⟩
   cases many with
   | false =>
     cases may with
     | false =>
       conv=>whnf
       cases ks with
       | nil =>
         rw [hlk,eqB_t (show (([]:Ks).length:Int)=0 from rfl)]
         conv=>whnf
         rw [hM]; rfl
       | cons y ys =>
         have hgy:=hgk 0 (by simp)
         simp only [List.getElem_cons_zero] at hgy
         rw [hlk,eqB_f (by simp; omega)]
         conv=>whnf
         refine ⟨by omega,krows,_,1,rfl,hgy,rfl,rfl,?_⟩
         conv=>whnf
         have hl0:0 < (y::ys).length:=by simp
         by_cases hy:y=kind
         · rw [eqS_t hy]
           have hM:res=pt:=by rw [hM]; simp [takesB,hy]
           conv=>whnf
           refine ⟨hw,?_⟩
           conv=>whnf
           refine ⟨by omega,by omega,rfl,?_⟩
           conv=>whnf
           refine ⟨hwk,?_⟩
           conv=>whnf
           refine ⟨by omega,by omega,rfl,?_⟩
           conv=>whnf
           refine ⟨_,.inl i3,?_⟩
           conv=>whnf
           rw [hM]
         · rw [eqS_f hy]
           conv=>whnf
           rw [hM]; simp [takesB,hy]
     | true =>
       conv=>whnf
       refine ⟨hw,?_⟩
       conv=>whnf
       refine ⟨by omega,by omega,?_⟩
       conv=>whnf
       refine .inl (i1.mono ?_)
       rintro r rfl
       cases p with
       | true =>
         conv=>whnf
         rw [hM]; rfl
       | false =>
         conv=>whnf
         cases ks with
         | nil =>
           rw [hlk,eqB_t (show (([]:Ks).length:Int)=0 from rfl)]
           conv=>whnf
           rw [hM]; rfl
         | cons y ys =>
           have hgy:=hgk 0 (by simp)
           simp only [List.getElem_cons_zero] at hgy
           rw [hlk,eqB_f (by simp; omega)]
           conv=>whnf
           refine ⟨by omega,krows,_,1,rfl,hgy,rfl,rfl,?_⟩
           conv=>whnf
           have hl0:0 < (y::ys).length:=by simp
           by_cases hy:y=kind
           · rw [eqS_t hy]
             have hM:res=pt:=by rw [hM]; simp [takesB,hy]
             conv=>whnf
             refine ⟨hw,?_⟩
             conv=>whnf
             refine ⟨by omega,by omega,rfl,?_⟩
             conv=>whnf
             refine ⟨hwk,?_⟩
             conv=>whnf
             refine ⟨by omega,by omega,rfl,?_⟩
             conv=>whnf
             refine ⟨_,.inl i3,?_⟩
             conv=>whnf
             rw [hM]
           · rw [eqS_f hy]
             conv=>whnf
             rw [hM]; simp [takesB,hy]
   | true =>
     cases may with
     | false =>
       conv=>whnf
       refine ⟨hw,?_⟩
       conv=>whnf
       refine ⟨by omega,by omega,?_⟩
       conv=>whnf
       refine .inl (i1.mono ?_)
       rintro r rfl
       cases p with
       | true =>
         conv=>whnf
         rw [hM]; rfl
       | false =>
         conv=>whnf
         cases ks with
         | nil =>
           rw [hlk,eqB_t (show (([]:Ks).length:Int)=0 from rfl)]
           conv=>whnf
           rw [hM]; rfl
         | cons y ys =>
           have hgy:=hgk 0 (by simp)
           simp only [List.getElem_cons_zero] at hgy
           rw [hlk,eqB_f (by simp; omega)]
           conv=>whnf
           refine ⟨by omega,krows,_,1,rfl,hgy,rfl,rfl,?_⟩
           conv=>whnf
           have hl0:0 < (y::ys).length:=by simp
           by_cases hy:y=kind
           · rw [eqS_t hy]
             have hM:res=q:=by rw [hM]; simp [takesB,hy]
             conv=>whnf
             refine ⟨hwk,?_⟩
             conv=>whnf
             refine ⟨by omega,by omega,?_⟩
             conv=>whnf
             refine .inl ((i2 hl0).mono ?_)
             rintro r rfl
             conv=>whnf
             rw [hM]
           · rw [eqS_f hy]
             conv=>whnf
             rw [hM]; simp [takesB,hy]
     | true =>
       conv=>whnf
       refine ⟨hw,?_⟩
       conv=>whnf
       refine ⟨by omega,by omega,?_⟩
       conv=>whnf
       refine .inl (i1.mono ?_)
       rintro r rfl
       cases p with
       | true =>
         conv=>whnf
         rw [hM]; rfl
       | false =>
         conv=>whnf
         cases ks with
         | nil =>
           rw [hlk,eqB_t (show (([]:Ks).length:Int)=0 from rfl)]
           conv=>whnf
           rw [hM]; rfl
         | cons y ys =>
           have hgy:=hgk 0 (by simp)
           simp only [List.getElem_cons_zero] at hgy
           rw [hlk,eqB_f (by simp; omega)]
           conv=>whnf
           refine ⟨by omega,krows,_,1,rfl,hgy,rfl,rfl,?_⟩
           conv=>whnf
           have hl0:0 < (y::ys).length:=by simp
           by_cases hy:y=kind
           · rw [eqS_t hy]
             have hM:res=q:=by rw [hM]; simp [takesB,hy]
             conv=>whnf
             refine ⟨hwk,?_⟩
             conv=>whnf
             refine ⟨by omega,by omega,?_⟩
             conv=>whnf
             refine .inl ((i2 hl0).mono ?_)
             rintro r rfl
             conv=>whnf
             rw [hM]
           · rw [eqS_f hy]
             conv=>whnf
             rw [hM]; simp [takesB,hy]
end Go.Cod
set_option linter.all false
namespace Go.Cod
variable [Adr]
open Go Go.Proofs
set_option maxRecDepth 10000
def capOk (cap:List V):Prop:=cap=[]∨∃ a b,cap=[.rptr a,.rptr b]∧V.clean.cleanL 0 a=true∧V.clean.cleanL 0 b=true
def Good (v:V) (p:Ks→Bool):Prop:=∃ (f:FuncId) (cap:List V),v=.fn f cap∧capOk cap∧∀ ks:Ks,Pure Tryd.prog f (.sl (rws sCells ks)::cap) (·=.bool (p ks))
theorem capOk.clean {cap:List V} (h:capOk cap):V.clean.cleanL 0 cap=true:=by
 rcases h with rfl | ⟨a,b,rfl,ha,hb⟩
 · rfl
 · simp only [V.clean.cleanL,V.clean,ha,hb,Bool.and_self]
theorem capOk.share {cap:List V} (h:capOk cap) (st:St):share.go st cap=cap:=by
 rcases h with rfl | ⟨a,b,rfl,ha,hb⟩ <;> rfl
theorem clean_cap {cap:List V} (h:capOk cap) (rows:List (List V)):V.clean.cleanL 0 ([.sl rows]++cap)=true:=by
 show (true&&V.clean.cleanL 0 cap)=true
 rw [h.clean]; rfl
theorem share_cap {cap:List V} (h:capOk cap) (st:St) (rows:List (List V)):share.go st ([.sl rows]++cap)=.sl rows::cap:=by
 show V.sl rows::share.go st cap=_
 rw [h.share]
theorem machine1_pure (ks:Ks):Pure Tryd.prog 87 [.sl (rws sCells ks)] (·=.bool (matchP [] ks)):=by
 have hlk:=rws_len sCells ks
 have hM:matchP [] ks=decide (ks.length=0):=rfl
 generalize matchP [] ks=res at *
 generalize rws sCells ks=krows at *
 refine pure_of_awp good Tryd.func87 rfl (by kernel_rfl) (by decide) ?_
 conv=>whnf
 rw [hlk,hM,eqB_def]
 congr 1
 exact decide_eq_decide.2 (by omega)
theorem takes_pure (x:It) (ks:Ks):Pure Tryd.prog 100 [.sl (rws sCells ks),.rptr x.cells] (·=.bool (takesB x.kind ks)):=by
 have hlk:=rws_len sCells ks
 have hgk:=rws_get sCells ks
 obtain ⟨kind,many,may⟩:=x
 simp only [It.cells]
 cases ks with
 | nil =>
   generalize rws sCells []=krows at *
   refine pure_of_awp good Tryd.func100 rfl (by kernel_rfl) (by decide) ?_
   conv=>whnf
   rw [hlk,ltB_f (by simp)]
   conv=>whnf
   rfl
 | cons y ys =>
   have hgy:=hgk 0 (by simp)
   simp only [List.getElem_cons_zero] at hgy
   generalize rws sCells (y::ys)=krows at *
   refine pure_of_awp good Tryd.func100 rfl (by kernel_rfl) (by decide) ?_
   conv=>whnf
   rw [hlk,ltB_t (by have:0 < (y::ys).length:=(by simp); omega)]
   conv=>whnf
   refine ⟨by omega,krows,_,1,rfl,hgy,rfl,rfl,?_⟩
   conv=>whnf
   rw [eqS_def]
   rfl
theorem takes_pos {k:List UInt8} {ks:Ks} (h:takesB k ks=true):1≤ks.length:=by
 cases ks with
 | nil=>cases h
 | cons y ys=>simp
theorem manyP_step (k:List UInt8) (p:Ks→Bool) (ks:Ks):manyP k p ks=(p ks||(takesB k ks&&manyP k p ks.tail)):=by
 cases ks with
 | nil=>simp [manyP,takesB]
 | cons y ys=>rfl
set_option maxHeartbeats 4000000 in
theorem many_pure (x:It) (v:V) (p:Ks→Bool) (hv:Good v p) (ks:Ks):Pure Tryd.prog 101 [.sl (rws sCells ks),.rptr [.fn 100 [.rptr x.cells]],.rptr [v]] (·=.bool (manyP x.kind p ks)):=by
 obtain ⟨f,cap,rfl,hcl,hp⟩:=hv
 have ht:=takes_pure x
 have hs:=manyP_step x.kind p
 have hpos:=fun ks=>takes_pos (k:=x.kind) (ks:=ks)
 obtain ⟨kind,many,may⟩:=x
 simp only [It.cells] at ht hs hpos ⊢
 refine pure_of_awp good Tryd.func101 rfl (by kernel_rfl) (by decide) ?_
 conv=>whnf
 refine loop_intro (fun n fr st=>st=[]∧∃ js:Ks,js.length=n∧manyP kind p ks=manyP kind p js∧Holds fr [(0,.sl (rws sCells js)),(1,.rptr [.fn 100 [.rptr [.str kind,.bool many,.bool may]]]),(2,.rptr [.fn f cap])]) ks.length ⟨rfl,ks,rfl,rfl,rfl,rfl,rfl,trivial⟩ ?_
 rintro n fr st ⟨rfl,js,hj,hm,hh⟩
 obtain ⟨fr,rfl⟩:=hh.split
 clear hh
 have ht:=ht js
 have hp0:=hp js
 have hs:=hs js
 have hpos:=hpos js
 have htl:=rws_tail sCells js
 have hwk:=rws_wid sCells (k:=1) (fun _=>rfl) js
 have hlj:=rws_len sCells js
 generalize hjr:rws sCells js=jrows at *
 have hc:=clean_cap hcl jrows
 have hp1:Pure Tryd.prog f (share.go [] ([.sl jrows]++cap)) (·=.bool (p js)):=by rw [share_cap hcl]; exact hp0
 conv=>whnf
 refine .inl (ht.mono ?_)
 rintro r rfl
 cases hT:takesB kind js with
 | false =>
   rw [hT,Bool.false_and,Bool.or_false] at hs
   conv=>whnf
   refine match_true hc ?_
   refine .inl (hp1.mono ?_)
   rintro r rfl
   conv=>whnf
   rw [hm,hs]
 | true =>
   rw [hT,Bool.true_and] at hs
   conv=>whnf
   refine match_true hc ?_
   refine .inl (hp1.mono ?_)
   rintro r rfl
   cases hP:p js with
   | true =>
     rw [hP] at hs hp1
     conv=>whnf
     refine match_true hc ?_
     refine .inl (hp1.mono ?_)
     rintro r rfl
     conv=>whnf
     rw [hm,hs]; rfl
   | false =>
     rw [hP,Bool.false_or] at hs
     conv=>whnf
     refine ⟨hwk,?_⟩
     conv=>whnf
     have:=hpos hT
     refine ⟨by omega,by omega,?_⟩
     conv=>whnf
     refine ⟨n - 1,by omega,rfl,js.tail,by simp; omega,by rw [hm,hs],?_,rfl,rfl,trivial⟩
     show V.sl _=V.sl _
     rw [← htl]; rfl
set_option maxHeartbeats 4000000 in
theorem may_pure (x:It) (v:V) (p:Ks→Bool) (hv:Good v p) (ks:Ks):Pure Tryd.prog 102 [.sl (rws sCells ks),.rptr [v],.rptr [.fn 100 [.rptr x.cells]]] (·=.bool (p ks||(takesB x.kind ks&&p ks.tail))):=by
 obtain ⟨f,cap,rfl,hcl,hp⟩:=hv
 have ht:=takes_pure x ks
 have hpos:=takes_pos (k:=x.kind) (ks:=ks)
 have hp0:=hp ks
 have hp2:=hp ks.tail
 have htl:=rws_tail sCells ks
 have hwk:=rws_wid sCells (k:=1) (fun _=>rfl) ks
 have hlj:=rws_len sCells ks
 rw [← htl] at hp2
 obtain ⟨kind,many,may⟩:=x
 simp only [It.cells] at ht hpos ⊢
 generalize rws sCells ks=jrows at *
 have hc:=clean_cap hcl jrows
 have hc2:=clean_cap hcl ((jrows.take jrows.length).drop 1)
 have hp1:Pure Tryd.prog f (share.go [] ([.sl jrows]++cap)) (·=.bool (p ks)):=by rw [share_cap hcl]; exact hp0
 have hp3:Pure Tryd.prog f (share.go [] ([.sl ((jrows.take jrows.length).drop 1)]++cap)) (·=.bool (p ks.tail)):=by rw [share_cap hcl]; exact hp2
 generalize p ks=b1 at *
 generalize p ks.tail=b2 at *
 refine pure_of_awp good Tryd.func102 rfl (by kernel_rfl) (by decide) ?_
 conv=>whnf
 refine Chk_mk hc ⟨_,.inl hp1,?_⟩
 cases b1 with
 | true =>
   conv=>whnf
   rfl
 | false =>
   conv=>whnf
   refine ⟨_,.inl ht,?_⟩
   cases hT:takesB kind ks with
   | false =>
     conv=>whnf
     rfl
   | true =>
     have:=hpos hT
     conv=>whnf
     refine ⟨hwk,?_⟩
     conv=>whnf
     refine ⟨by omega,by omega,rfl,?_⟩
     conv=>whnf
     refine Chk_mk hc2 ⟨_,.inl hp3,?_⟩
     conv=>whnf
     rfl
set_option maxHeartbeats 4000000 in
theorem one_pure (x:It) (v:V) (p:Ks→Bool) (hv:Good v p) (ks:Ks):Pure Tryd.prog 103 [.sl (rws sCells ks),.rptr [.fn 100 [.rptr x.cells]],.rptr [v]] (·=.bool (takesB x.kind ks&&p ks.tail)):=by
 obtain ⟨f,cap,rfl,hcl,hp⟩:=hv
 have ht:=takes_pure x ks
 have hpos:=takes_pos (k:=x.kind) (ks:=ks)
 have hp2:=hp ks.tail
 have htl:=rws_tail sCells ks
 have hwk:=rws_wid sCells (k:=1) (fun _=>rfl) ks
 have hlj:=rws_len sCells ks
 rw [← htl] at hp2
 obtain ⟨kind,many,may⟩:=x
 simp only [It.cells] at ht hpos ⊢
 generalize rws sCells ks=jrows at *
 have hc2:=clean_cap hcl ((jrows.take jrows.length).drop 1)
 have hp3:Pure Tryd.prog f (share.go [] ([.sl ((jrows.take jrows.length).drop 1)]++cap)) (·=.bool (p ks.tail)):=by rw [share_cap hcl]; exact hp2
 generalize p ks.tail=b2 at *
 refine pure_of_awp good Tryd.func103 rfl (by kernel_rfl) (by decide) ?_
 conv=>whnf
 refine ⟨_,.inl ht,?_⟩
 cases hT:takesB kind ks with
 | false =>
   conv=>whnf
   rfl
 | true =>
   have:=hpos hT
   conv=>whnf
   refine ⟨hwk,?_⟩
   conv=>whnf
   refine ⟨by omega,by omega,rfl,?_⟩
   conv=>whnf
   refine Chk_mk hc2 ⟨_,.inl hp3,?_⟩
   conv=>whnf
   rfl
theorem rptr_leaf {xs:List V} (h:xs.all V.leaf=true):∀ x∈xs,x.leaf=true:=fun x hx=>List.all_eq_true.1 h x hx
set_option maxHeartbeats 4000000 in
theorem itemState_pure (x:It) (v:V) (p:Ks→Bool) (hv:Good v p):Pure Tryd.prog 88 [.agg x.cells,v] (fun r=>Good r (itemP x p)):=by
 have h2:=many_pure x v p hv
 have h3:=may_pure x v p hv
 have h4:=one_pure x v p hv
 have hI:itemP x p=fun ks=>itemP x p ks:=rfl
 obtain ⟨f,cap,rfl,hcl,hp⟩:=hv
 have hren:∀ sel,renV.go sel cap=cap:=fun sel=>renL_clean sel cap hcl.clean
 have hshr:∀ σ kn st,shr.go σ kn st cap=cap:=fun σ kn st=>by rcases hcl with rfl | ⟨a,b,rfl,_,_⟩ <;> rfl
 have hcc:V.clean.cleanL 0 [.fn f cap]=true:=by
  show (V.clean.cleanL 0 cap&&true)=true
  rw [hcl.clean]; rfl
 obtain ⟨kind,many,may⟩:=x
 simp only [It.cells] at h2 h3 h4 ⊢
 refine Full.freezeB (R:=fun o st'=>∃ r,o=.ret r∧st'=[⟨[[.str kind,.bool many,.bool may]],3,true,true,true,.cell⟩,⟨[[.fn f cap]],1,true,true,true,.cell⟩,⟨[[.fn 100 [.ptr 0 0 0]]],1,true,true,true,.cell⟩] ∧
   r=(match many with | true=>.fn 101 [.ptr 2 0 0,.ptr 1 0 0] | false=>match may with | true=>.fn 102 [.ptr 1 0 0,.ptr 2 0 0] | false=>.fn 103 [.ptr 2 0 0,.ptr 1 0 0])) ?_ ?_
 · refine full_of_awp good Tryd.func88 rfl (by kernel_rfl) (by decide) ?_
   cases many <;> cases may
   all_goals
    conv=>whnf
    refine ⟨[0,1,2],false,?_⟩
    conv=>whnf
    refine ⟨_,rfl,?_,rfl⟩
    show [(⟨_,_,_,_,_,_⟩:O),⟨[[.fn f (renV.go _ cap)]],_,_,_,_,_⟩,⟨_,_,_,_,_,_⟩]=_
    rw [hren]
    rfl
 · rintro o st' ⟨r,rfl,rfl,rfl⟩
   refine ⟨_,match many with | true=>.fn 101 [.rptr [.fn 100 [.rptr [.str kind,.bool many,.bool may]]],.rptr [.fn f cap]] | false=>match may with | true=>.fn 102 [.rptr [.fn f cap],.rptr [.fn 100 [.rptr [.str kind,.bool many,.bool may]]]] | false=>.fn 103 [.rptr [.fn 100 [.rptr [.str kind,.bool many,.bool may]]],.rptr [.fn f cap]],rfl,?_,?_,?_⟩
   · intro k o hk
     match k,hk with
     | 0,hk=>simp at hk; subst hk; exact ⟨rfl,rfl⟩
     | 1,hk=>simp at hk; subst hk; exact ⟨rfl,rfl⟩
     | 2,hk=>simp at hk; subst hk; exact ⟨rfl,rfl⟩
     | k+3,hk=>simp at hk
   · generalize hst:([⟨[[.str kind,.bool many,.bool may]],3,true,true,true,.cell⟩,⟨[[.fn f cap]],1,true,true,true,.cell⟩,⟨[[.fn 100 [.ptr 0 0 0]]],1,true,true,true,.cell⟩]:St)=st
     have b0:FV st (.ptr 0 0 0) (.rptr [.str kind,.bool many,.bool may]):=by
      refine FV.box (o:=⟨[[.str kind,.bool many,.bool may]],3,true,true,true,.cell⟩) (row:=[.str kind,.bool many,.bool may]) (by rw [← hst]; rfl) rfl (rptr_leaf rfl) (.cons (.same _ rfl) (.cons (.same _ rfl) (.cons (.same _ rfl) .nil)))
     have b1:FV st (.ptr 1 0 0) (.rptr [.fn f cap]):=by
      refine FV.box (o:=⟨[[.fn f cap]],1,true,true,true,.cell⟩) (row:=[.fn f cap]) (by rw [← hst]; rfl) rfl (rptr_leaf rfl) (.cons (.same _ (by show V.clean.cleanL 0 cap=true; exact hcl.clean)) .nil)
     have b2:FV st (.ptr 2 0 0) (.rptr [.fn 100 [.rptr [.str kind,.bool many,.bool may]]]):=by
      refine FV.box (o:=⟨[[.fn 100 [.ptr 0 0 0]]],1,true,true,true,.cell⟩) (row:=[.fn 100 [.ptr 0 0 0]]) (by rw [← hst]; rfl) rfl (rptr_leaf rfl) (.cons (.fn' (.cons b0 .nil)) .nil)
     cases many <;> cases may
     · exact .fn' (.cons b2 (.cons b1 .nil))
     · exact .fn' (.cons b1 (.cons b2 .nil))
     · exact .fn' (.cons b2 (.cons b1 .nil))
     · exact .fn' (.cons b2 (.cons b1 .nil))
   · cases many <;> cases may
     · exact ⟨_,_,rfl,.inr ⟨_,_,rfl,rfl,hcc⟩,h4⟩
     · exact ⟨_,_,rfl,.inr ⟨_,_,rfl,hcc,rfl⟩,h3⟩
     · exact ⟨_,_,rfl,.inr ⟨_,_,rfl,rfl,hcc⟩,h2⟩
     · exact ⟨_,_,rfl,.inr ⟨_,_,rfl,rfl,hcc⟩,h2⟩
end Go.Cod
set_option linter.all false
namespace Go.Cod
variable [Adr]
open Go Go.Proofs
set_option maxRecDepth 10000
theorem good_nil:Good (.fn 87 []) (matchP []):=⟨_,[],rfl,.inl rfl,fun ks=>machine1_pure ks⟩
set_option maxHeartbeats 4000000 in
theorem schemaMachine_pure (xs:List It) (hn:xs.length≤1048576):Pure Tryd.prog 66 [.sl (rws It.cells xs)] (fun r=>Good r (matchP xs)):=by
 have hlx:=rws_len It.cells xs
 have hgx:=rws_get It.cells xs
 have hI:=itemState_pure
 generalize rws It.cells xs=rows at *
 refine pure_of_awp good Tryd.func66 rfl (by kernel_rfl) (by decide) ?_
 conv=>whnf
 refine loop_intro (fun n fr st=>st=[]∧n≤xs.length∧∃ v,Good v (matchP (xs.drop n))∧Holds fr [(0,.sl rows),(3,v),(4,.int .i64 ((n:Int) - 1))]) xs.length ⟨rfl,Nat.le_refl _,.fn 87 [],by rw [List.drop_of_length_le (Nat.le_refl _)]; exact good_nil,rfl,rfl,?_,trivial⟩ ?_
 · show V.int .i64 (IntKind.i64.wrap _)=_
   rw [hlx,wrap64 (by omega) (by omega)]
 rintro n fr st ⟨rfl,hle,v,hv,hh⟩
 have hv1:=hv
 obtain ⟨f,cap,rfl,hcl,hp⟩:=hv1
 obtain ⟨fr,rfl⟩:=hh.split
 clear hh
 conv=>whnf
 cases n with
 | zero =>
   rw [leB_f (by omega)]
   conv=>whnf
   refine match_true (by show V.clean.cleanL 0 (share.go [] cap)=true; rw [hcl.share]; exact hcl.clean) ?_
   show Good (.fn f (share.go [] cap)) _
   rw [hcl.share]
   exact hv
 | succ n =>
   rw [leB_t (by omega)]
   have hnx:n < xs.length:=by omega
   have hg:=hgx n hnx
   have hm:matchP (xs.drop n)=itemP xs[n] (matchP (xs.drop (n+1))):=by rw [List.drop_eq_getElem_cons hnx]; rfl
   have hI:=hI xs[n] _ _ hv
   rw [← hm] at hI
   generalize xs[n]=x at *
   obtain ⟨kind,many,may⟩:=x
   simp only [It.cells] at hg hI
   have hw:(((n+1:Nat):Int) - 1)=n:=by omega
   rw [hw]
   have hcc:V.clean.cleanL 0 [.agg [.str kind,.bool many,.bool may],.fn f cap]=true:=by
    show (true&&(V.clean.cleanL 0 cap&&true))=true
    rw [hcl.clean]; rfl
   have hsc:share.go [] [V.agg [.str kind,.bool many,.bool may],.fn f cap]=[V.agg [.str kind,.bool many,.bool may],.fn f cap]:=by
    show [_,V.fn f (share.go [] cap)]=_
    rw [hcl.share]; rfl
   rw [← hsc] at hI
   conv=>whnf
   refine ⟨by omega,rows,_,3,rfl,hg,rfl,rfl,?_⟩
   conv=>whnf
   refine match_true hcc ?_
   refine .inl (hI.mono ?_)
   rintro r ⟨f2,cap2,rfl,hc2,hp2⟩
   conv=>whnf
   refine ⟨n,by omega,rfl,by omega,.fn f2 cap2,⟨f2,cap2,rfl,hc2,hp2⟩,rfl,rfl,?_,trivial⟩
   show V.int .i64 (IntKind.i64.wrap _)=_
   rw [wrap64 (by omega) (by omega)]
set_option maxHeartbeats 4000000 in
theorem ruleTakes_pure (r:Ru) (hr:r.Sm) (ks:Ks):Pure Tryd.prog 33 [.agg r.cells,.sl (rws sCells ks)] (·=.bool (decide (ks.length≤20)&&matchP r.kids ks)):=by
 have hM:=schemaMachine_pure r.kids hr.2.1
 have hlk:=rws_len sCells ks
 obtain ⟨kind,text,kids⟩:=r
 simp only [Ru.cells] at hM ⊢
 generalize rws It.cells kids=rows at *
 generalize hjr:rws sCells ks=jrows at *
 generalize matchP kids=p at *
 refine pure_of_awp good Tryd.func33 rfl (by kernel_rfl) (by decide) ?_
 conv=>whnf
 rw [hlk]
 by_cases h:(ks.length:Int)≤20
 · rw [leB_t h]
   conv=>whnf
   refine .inl (hM.mono ?_)
   rintro r ⟨f,cap,rfl,hcl,hp⟩
   have hp:=hp ks
   rw [hjr] at hp
   have hp1:Pure Tryd.prog f (share.go [⟨[[.str kind,.bool text,.sl rows]],3,true,true,true,.cell⟩] ([.sl jrows]++cap)) (·=.bool (p ks)):=by rw [share_cap hcl]; exact hp
   conv=>whnf
   refine match_true (clean_cap hcl jrows) ?_
   refine .inl (hp1.mono ?_)
   rintro r rfl
   conv=>whnf
   rw [decide_eq_true (by omega)]; rfl
 · rw [leB_f (by omega)]
   conv=>whnf
   rw [decide_eq_false (by omega)]; rfl
def kidsS (s:Sc) (k:List UInt8) (ks:Ks):Bool:=okS s&&(match s.rules.find? fun r=>decide (r.kind=k) with
 | some r=>decide (ks.length≤20)&&matchP r.kids ks
 | none=>false)
theorem find_at (k:List UInt8):∀ (rs:List Ru) (n:Int),0≤n→hasR rs k=true→∃ (i:Nat) (h:i < rs.length),idxR k rs n=n+i∧rs.find? (fun r=>decide (r.kind=k))=some rs[i]
 | [],n,_,h=>by simp [hasR] at h
 | r::rs,n,hn,h=>by
   have he:hasR (r::rs) k=(decide (r.kind=k)||hasR rs k):=rfl
   rw [he] at h
   by_cases hk:r.kind=k
   · exact ⟨0,by simp,by simp [idxR,hk],by simp [hk]⟩
   · simp only [hk,decide_false,Bool.false_or] at h
     obtain ⟨i,hi,h1,h2⟩:=find_at k rs (n+1) (by omega) h
     refine ⟨i+1,by simpa using hi,?_,?_⟩
     · simp only [idxR,if_neg hk,h1]; omega
     · simp [hk,h2]
theorem find_none {rs:List Ru} {k:List UInt8} (h:hasR rs k=false):rs.find? (fun r=>decide (r.kind=k))=none:=by
 rw [List.find?_eq_none]
 intro r hr hd
 have:hasR rs k=true:=by
  unfold hasR
  rw [List.any_eq_true]
  exact ⟨r,hr,hd⟩
 rw [h] at this; cases this
set_option maxHeartbeats 4000000 in
theorem specSchemaKids_pure (s:Sc) (hs:s.Sm) (k:List UInt8) (ks:Ks):Pure Tryd.prog 9 [.agg s.cells,.str k,.sl (rws sCells ks)] (·=.bool (kidsS s k ks)):=by
 have f1:=l3Rule_pure s k hs.2.1
 have f2:=specSchemaOk_pure s hs
 have f3:=fun xs=>l3Match_pure (xs.length+ks.length+1) xs ks (by omega)
 have hK:kidsS s k ks=(okS s&&(match s.rules.find? fun r=>decide (r.kind=k) with
  | some r=>decide (ks.length≤20)&&matchP r.kids ks
  | none=>false)):=rfl
 generalize kidsS s k ks=res at *
 generalize okS s=ok at *
 obtain ⟨root,rules⟩:=s
 simp only [Sc.cells] at f1 f2 hK ⊢
 have hlk:=rws_len sCells ks
 have hgr:=rws_get Ru.cells rules
 generalize rws sCells ks=krows at *
 generalize hrr:rws Ru.cells rules=rows at *
 refine pure_of_awp good Tryd.func9 rfl (by kernel_rfl) (by decide) ?_
 conv=>whnf
 refine .inl (f1.mono ?_)
 rintro r rfl
 have hneg:=idxR_neg k rules
 have hat:=find_at k rules 0 (by omega)
 generalize idxR k rules 0=v at *
 conv=>whnf
 refine .inl (f2.mono ?_)
 rintro r rfl
 cases ok with
 | false =>
   conv=>whnf
   rw [hK]; rfl
 | true =>
   conv=>whnf
   cases hh:hasR rules k with
   | false =>
     have:=hneg.2 hh
     rw [leB_f (by omega)]
     rw [find_none hh] at hK
     conv=>whnf
     rw [hK]; rfl
   | true =>
     obtain ⟨i,hi,h1,h2⟩:=hat hh
     rw [h2] at hK
     obtain rfl:v=(i:Int):=by omega
     rw [leB_t (by omega)]
     have hg:=hgr i hi
     have f3:=f3 rules[i].kids
     generalize rules[i]=x at *
     obtain ⟨kind,text,kids⟩:=x
     simp only [Ru.cells] at hg hK f3
     generalize rws It.cells kids=irows at *
     conv=>whnf
     rw [hlk]
     by_cases h:(ks.length:Int)≤20
     · rw [leB_t h]
       conv=>whnf
       refine ⟨by omega,rows,_,3,rfl,hg,rfl,rfl,?_⟩
       conv=>whnf
       refine .inl (f3.mono ?_)
       rintro r rfl
       conv=>whnf
       rw [hK,decide_eq_true (by omega)]; rfl
     · rw [leB_f (by omega)]
       conv=>whnf
       rw [hK,decide_eq_false (by omega)]; rfl
set_option maxHeartbeats 4000000 in
theorem implSchemaKids_pure (s:Sc) (hs:s.Sm) (k:List UInt8) (ks:Ks):Pure Tryd.prog 8 [.agg s.cells,.str k,.sl (rws sCells ks)] (·=.bool (kidsS s k ks)):=by
 have f1:=schemaRule_pure s.rules k hs.2.1
 have f2:=implSchemaOk_pure s hs
 have f3:=fun r hr=>ruleTakes_pure r hr ks
 have hx:=hs.2.2
 have hK:kidsS s k ks=(okS s&&(match s.rules.find? fun r=>decide (r.kind=k) with
  | some r=>decide (ks.length≤20)&&matchP r.kids ks
  | none=>false)):=rfl
 generalize kidsS s k ks=res at *
 generalize okS s=ok at *
 obtain ⟨root,rules⟩:=s
 simp only [Sc.cells] at f1 f2 hK hx ⊢
 generalize rws sCells ks=krows at *
 generalize hrr:rws Ru.cells rules=rows at *
 refine pure_of_awp good Tryd.func8 rfl (by kernel_rfl) (by decide) ?_
 conv=>whnf
 refine .inl (f2.mono ?_)
 rintro r rfl
 cases ok with
 | false =>
   conv=>whnf
   rw [hK]; rfl
 | true =>
   conv=>whnf
   have he:ruleErr rules k=if hasR rules k=true then nilErr else errV 0:=rfl
   cases hh:hasR rules k with
   | false =>
     rw [find_none hh] at hK
     rw [hh] at he
     obtain ⟨r0,hr0⟩:=ruleOf_cells rules k
     rw [hr0,he] at f1
     obtain ⟨a,b,c⟩:=r0
     simp only [Ru.cells] at f1
     refine .inl (f1.mono ?_)
     rintro r rfl
     conv=>whnf
     refine .inl ((errorsIs_same 0).mono ?_)
     rintro r rfl
     conv=>whnf
     rw [hK]; rfl
   | true =>
     obtain ⟨i,hi,h1,h2⟩:=find_at k rules 0 (by omega) hh
     have hr0:ruleOf rules k=rules[i].cells:=by unfold ruleOf; rw [h2]
     have f3:=f3 rules[i] (hx _ (List.getElem_mem _))
     rw [h2] at hK
     rw [hh] at he
     rw [hr0,he] at f1
     generalize rules[i]=x at *
     obtain ⟨kind,text,kids⟩:=x
     simp only [Ru.cells] at f1 f3 hK
     generalize rws It.cells kids=irows at *
     refine .inl (f1.mono ?_)
     rintro r rfl
     conv=>whnf
     refine .inl ((errorsIs_nil 0).mono ?_)
     rintro r rfl
     conv=>whnf
     refine .inl (f3.mono ?_)
     rintro r rfl
     conv=>whnf
     rw [hK]; rfl
end Go.Cod
set_option linter.all false
namespace Go.Cod
variable [Adr]
open Go Go.Proofs
set_option linter.all false
set_option maxRecDepth 10000
theorem lab_entL (b c sz:Nat) (r:List (List V)):labOf (ent b c sz r)=b:=rfl
def ApartH (h k:Option (Nat × Nat)):Prop:=∀ b c b' c',h=some (b,c)→k=some (b',c')→b≠b'
theorem ApartH.symm {h k:Option (Nat × Nat)} (a:ApartH h k):ApartH k h:=fun b c b' c' p q e=>a b' c' b c q p e.symm
theorem ApartH.none (k:Option (Nat × Nat)):ApartH none k:=fun _ _ _ _ h=>by cases h
structure LR where
 kind:List UInt8
 text:Bool
 items:List It
 hd:Option (Nat × Nat)
def LR.cells (L:LR):List V:=[.str L.kind,.bool L.text,hdV L.hd L.items.length]
def LR.ru (L:LR):Ru:=⟨L.kind,L.text,L.items⟩
def PlIn (es:List (List V)) (sz:Nat) (h:Option (Nat × Nat)) (rows:List (List V)):Prop:=match h with
 | none=>rows=[]
 | some (b,c)=>ent b c sz rows∈es
theorem PlIn.put {es:List (List V)} {sz b c:Nat} {k:Option (Nat × Nat)} {L:List (List V)} (h:PlIn es sz k L) (ha:ApartH (some (b,c)) k) (r:List (List V)):PlIn (putEnt b r es) sz k L:=by
 rcases k with _ | ⟨b',c'⟩
 · exact h
 · exact putEnt_other h (by rw [lab_entL]; exact fun e=>ha b c b' c' rfl rfl e.symm)
theorem PlIn.more {es:List (List V)} {sz:Nat} {k:Option (Nat × Nat)} {L:List (List V)} (h:PlIn es sz k L) (es':List (List V)):PlIn (es++es') sz k L:=by
 rcases k with _ | ⟨b',c'⟩
 · exact h
 · exact List.mem_append_left _ h
theorem PlIn.fresh {es:List (List V)} {sz:Nat} {k:Option (Nat × Nat)} {L:List (List V)} (h:PlIn es sz k L) {b c:Nat} (hb:∀ e∈es,labOf e≠b):ApartH (some (b,c)) k:=by
 intro x y b' c' e1 e2
 cases e1
 subst e2
 exact fun e=>hb _ h (by rw [lab_entL]; exact e.symm)
structure ScIn (es:List (List V)) (h:Option (Nat × Nat)) (Ls:List LR):Prop where
 top:PlIn es 3 h (Ls.map LR.cells)
 kids:∀ L∈Ls,PlIn es 3 L.hd (rws It.cells L.items)
 ap:∀ L∈Ls,ApartH h L.hd
 pw:Ls.Pairwise fun L M=>ApartH L.hd M.hd
theorem ScIn.nil (es:List (List V)):ScIn es none []:=⟨rfl,(fun _ h=>by cases h),(fun _ h=>by cases h),.nil⟩
theorem ScIn.more {es h Ls} (H:ScIn es h Ls) (es':List (List V)):ScIn (es++es') h Ls:=⟨H.top.more _,fun L hL=>(H.kids L hL).more _,H.ap,H.pw⟩
theorem pw_snoc {α:Type} {R:α→α→Prop}:∀ {l:List α} {x:α},l.Pairwise R→(∀ y∈l,R y x)→(l++[x]).Pairwise R
 | [],x,_,_=>by simp
 | y::l,x,h,hx=>by
   obtain ⟨h1,h2⟩:=List.pairwise_cons.1 h
   rw [List.cons_append,List.pairwise_cons]
   refine ⟨fun z hz=>?_,pw_snoc h2 fun z hz=>hx z (List.mem_cons_of_mem _ hz)⟩
   rcases List.mem_append.1 hz with hz | hz
   · exact h1 z hz
   · rw [List.mem_singleton.1 hz]; exact hx y List.mem_cons_self
theorem ScIn.snoc_in {es b c Ls} (H:ScIn es (some (b,c)) Ls) {L:LR} (hL:PlIn es 3 L.hd (rws It.cells L.items)) (h1:ApartH (some (b,c)) L.hd) (h2:∀ M∈Ls,ApartH M.hd L.hd):ScIn (putEnt b ((Ls++[L]).map LR.cells) es) (some (b,c)) (Ls++[L]):=by
 refine ⟨putEnt_mem H.top,fun M hM=>?_,fun M hM=>?_,pw_snoc H.pw h2⟩
 · rcases List.mem_append.1 hM with hM | hM
   · exact (H.kids M hM).put (H.ap M hM) _
   · rw [List.mem_singleton.1 hM]; exact hL.put h1 _
 · rcases List.mem_append.1 hM with hM | hM
   · exact H.ap M hM
   · rw [List.mem_singleton.1 hM]; exact h1
theorem ScIn.snoc_new {es h Ls} (H:ScIn es h Ls) {L:LR} (hL:PlIn es 3 L.hd (rws It.cells L.items)) (h2:∀ M∈Ls,ApartH M.hd L.hd) {b c:Nat} (hb:∀ e∈es,labOf e≠b):ScIn (es++[ent b c 3 ((Ls++[L]).map LR.cells)]) (some (b,c)) (Ls++[L]):=by
 refine ⟨List.mem_append_right _ (by simp),fun M hM=>?_,fun M hM=>?_,pw_snoc H.pw h2⟩
 · rcases List.mem_append.1 hM with hM | hM
   · exact (H.kids M hM).more _
   · rw [List.mem_singleton.1 hM]; exact hL.more _
 · rcases List.mem_append.1 hM with hM | hM
   · exact (H.kids M hM).fresh hb
   · rw [List.mem_singleton.1 hM]; exact hL.fresh hb
theorem pw_get {α:Type} {R:α→α→Prop} (hs:∀ x y,R x y→R y x) {l:List α} (h:l.Pairwise R) {i j:Nat} (hi:i < l.length) (hj:j < l.length) (hne:i≠j):R l[i] l[j]:=by
 rcases Nat.lt_or_gt_of_ne hne with h1 | h1
 · exact List.pairwise_iff_getElem.1 h i j hi hj h1
 · exact hs _ _ (List.pairwise_iff_getElem.1 h j i hj hi h1)
theorem ScIn.set {es es2 b c Ls} (H:ScIn es (some (b,c)) Ls) {k:Nat} (hk:k < Ls.length) {L:LR} (hL:PlIn es2 3 L.hd (rws It.cells L.items)) (ht:PlIn es2 3 (some (b,c)) (Ls.map LR.cells)) (h1:ApartH (some (b,c)) L.hd)
  (ho:∀ i (hi:i < Ls.length),i≠k→PlIn es2 3 Ls[i].hd (rws It.cells Ls[i].items)∧ApartH Ls[i].hd L.hd):ScIn (putEnt b ((Ls.set k L).map LR.cells) es2) (some (b,c)) (Ls.set k L):=by
 refine ⟨putEnt_mem ht,fun M hM=>?_,fun M hM=>?_,?_⟩
 · obtain ⟨i,hi,rfl⟩:=List.getElem_of_mem hM
   rw [List.length_set] at hi
   rw [List.getElem_set]
   by_cases e:k=i
   · rw [if_pos e]; exact hL.put h1 _
   · rw [if_neg e]; exact (ho i hi fun z=>e z.symm).1.put (H.ap _ (List.getElem_mem hi)) _
 · obtain ⟨i,hi,rfl⟩:=List.getElem_of_mem hM
   rw [List.length_set] at hi
   rw [List.getElem_set]
   by_cases e:k=i
   · rw [if_pos e]; exact h1
   · rw [if_neg e]; exact H.ap _ (List.getElem_mem hi)
 · rw [List.pairwise_iff_getElem]
   intro i j hi hj hij
   rw [List.length_set] at hi hj
   rw [List.getElem_set,List.getElem_set]
   by_cases e:k=i
   · rw [if_pos e,if_neg (by omega)]; exact (ho j hj (by omega)).2.symm
   · rw [if_neg e]
     by_cases e2:k=j
     · rw [if_pos e2]; exact (ho i hi fun z=>e z.symm).2
     · rw [if_neg e2]; exact List.pairwise_iff_getElem.1 H.pw i j hi hj hij
theorem plain_view {es:List (List V)} {sz:Nat} {h:Option (Nat × Nat)} {α:Type} {c:α→List V} {l:List α} (H:PlIn es sz h (rws c l)) (hcl:V.clean.cleanLL 0 (rws c l)=true) (hlf:∀ e∈rws c l,∀ x∈e,x.leaf=true):View es (hdV h l.length) (.sl (rws c l)):=by
 rcases h with _ | ⟨b,cc⟩
 · have:rws c l=[]:=H
   rw [this]; exact .nils
 · refine .dref H (by simp [rws]) rfl hcl hlf (fun i r r' p q=>?_) (fun i r r' j x y p q u v=>?_)
   · rw [p] at q; cases q; rfl
   · rw [p] at q; cases q; rw [u] at v; cases v; exact .same _
theorem items_clean:∀ l:List It,V.clean.cleanLL 0 (rws It.cells l)=true
 | []=>rfl
 | x::l=>by
   show (V.clean.cleanL 0 x.cells&&V.clean.cleanLL 0 (rws It.cells l))=true
   rw [items_clean l]; rfl
theorem items_leaf (l:List It):∀ e∈rws It.cells l,∀ x∈e,x.leaf=true:=by
 intro e he x hx
 obtain ⟨a,_,rfl⟩:=List.mem_map.1 he
 simp only [It.cells,List.mem_cons,List.not_mem_nil,or_false] at hx
 rcases hx with rfl | rfl | rfl <;> rfl
theorem rules_clean:∀ l:List Ru,V.clean.cleanLL 0 (rws Ru.cells l)=true
 | []=>rfl
 | x::l=>by
   show (V.clean.cleanL 0 x.cells&&V.clean.cleanLL 0 (rws Ru.cells l))=true
   rw [rules_clean l]; rfl
theorem rules_leaf (l:List Ru):∀ e∈rws Ru.cells l,∀ x∈e,x.leaf=true:=by
 intro e he x hx
 obtain ⟨a,_,rfl⟩:=List.mem_map.1 he
 simp only [Ru.cells,List.mem_cons,List.not_mem_nil,or_false] at hx
 rcases hx with rfl | rfl | rfl <;> rfl
theorem ScIn.view {es h Ls} (H:ScIn es h Ls):View es (hdV h Ls.length) (.sl (rws Ru.cells (Ls.map LR.ru))):=by
 rcases h with _ | ⟨b,c⟩
 · have:Ls.map LR.cells=[]:=H.top
   have:Ls=[]:=List.map_eq_nil_iff.1 this
   subst this; exact .nils
 · have ht:ent b c 3 (Ls.map LR.cells)∈es:=H.top
   refine .dref ht (by simp) (by simp [rws]) (rules_clean _) (rules_leaf _) (fun i r r' p q=>?_) (fun i r r' j x y p q u v=>?_)
   · rw [List.getElem?_map] at p
     obtain ⟨L,_,rfl⟩:=Option.map_eq_some_iff.1 p
     obtain ⟨e1,e2⟩:=List.getElem?_eq_some_iff.1 q
     subst e2
     simp [rws,LR.cells,Ru.cells]
   · rw [List.getElem?_map] at p
     obtain ⟨L,hL,rfl⟩:=Option.map_eq_some_iff.1 p
     unfold rws at q
     rw [List.getElem?_map,List.getElem?_map,hL] at q
     cases q
     have hm:=List.mem_of_getElem? hL
     match j,u,v with
     | 0,u,v=>cases u; cases v; exact .same _
     | 1,u,v=>cases u; cases v; exact .same _
     | 2,u,v =>
       cases u; cases v
       exact plain_view (H.kids L hm) (items_clean _) (items_leaf _)
     | n+3,u,v=>simp [LR.cells] at u
end Go.Cod
set_option linter.all false
namespace Go.Cod
variable [Adr]
open Go Go.Proofs
set_option linter.all false
set_option maxRecDepth 10000
theorem semMore {o:Oper} {sl x:Operand} {t u e:TypeId} {ti:TI} (ho:o.op=.call { callee:=.builtin .append,args:=#[sl,x],argTypes:=#[t,u] }) (hk:kindOf (tauOf tauL) t=some (.slice e)) (hti:tauOf tauL e=some ti) (hu:notInt (kindOf (tauOf tauL) u)=true)
  (hz:ti.zero.cells.length=ti.size) {sz by_:Nat} (hsz:ti.size=sz) (hby:ti.bytes=by_) (hb0:0 < by_∧by_≤1000) {α:Type} {c:α→List V} (hc:∀ a,(c a).length=sz) {vs:List V} {vx:V} {k:Nat} {h:Option (Nat × Nat)} {L M:List α} {es:List (List V)} {st:St} {K:V→St→Prop} (hvs:vs=[hdV h L.length,vx]) (hpe:st[k]? = some (poolO es)) (hin:PlIn es sz h (L.map c))
  (hsrc:PSrc st vx (M.map c)) (hl:L.length+M.length≤10000000) (h0:h=none→M=[]→K .nils st)
  (hr:∀ b cc,h=some (b,cc)→K (.dref b (L++M).length cc) (st.set k (poolO (putEnt b ((L++M).map c) es))))
  (hn:∀ b cc,(∀ e∈es,labOf e≠b)→K (.dref b (L++M).length cc) (st.set k (poolO (es++[ent b cc sz ((L++M).map c)])))):SemOp Tryd.prog o vs st K:=by
 have hpe':poolEs st k=es:=by simp only [poolEs,hpe]; rfl
 have hw:∀ m∈M.map c,m.length=ti.size:=by
  rw [hsz]
  intro m hm
  obtain ⟨a,_,rfl⟩:=List.mem_map.1 hm
  exact hc a
 have hfit:∀ n:Nat,n≤10000000→n*ti.bytes≤140737488355328:=fun n h=>by
  rw [hby]
  have:=Nat.mul_le_mul h hb0.2
  omega
 rcases h with _ | ⟨b,cc⟩
 · have hL:L=[]:=List.map_eq_nil_iff.1 hin
   subst hL
   by_cases hM:M=[]
   · subst hM
     exact semAppendNil0 good ho hk hti hu hvs hsrc (h0 rfl rfl)
   · have hpos:0 < M.length:=List.length_pos_iff.2 hM
     refine semAppendNil (m:=M.length) good ho hk hti hu hz (by rw [hby]; exact hb0.1) hvs hpe hsrc hw (by simp) hpos (hfit _ (by simpa using hl)) fun b c' _ hf=>?_
     rw [hsz]
     exact hn b c' hf
 · have hm:ent b cc ti.size (L.map c)∈es:=by rw [hsz]; exact hin
   have hlaid:laidRows (L.map c) (M.map c) L.length=(L++M).map c:=by
    unfold laidRows
    rw [List.take_of_length_le (by simp),List.drop_of_length_le (by simp),List.map_append]
    simp
   refine semAppendE (m:=M.length) (rows:=L.map c) (es1:=putEnt b ((L++M).map c) es) good ho hk hti hu hz (by rw [hby]; exact hb0.1) hvs hpe' hm hsrc hw (by simp) (by simp) (hfit _ hl) (by rw [hlaid]) (fun _=>?_) fun _ b' c' _ hf=>?_
   · rw [← List.length_append]; exact hr b cc rfl
   · rw [List.take_of_length_le (by simp),← List.map_append,hsz,← List.length_append]
     exact hn b' c' hf
def scBox (root:List UInt8) (v:V):O:=⟨[[.str root,v]],2,true,true,true,.cell⟩
def L10R (root:List UInt8) (rs:List Ru) (o:Out) (st':St):Prop:=∃ (Ls:List LR) (h:Option (Nat × Nat)) (es:List (List V)),ScIn es h Ls∧Ls.map LR.ru=rs∧o=.ret (.agg [.str root,hdV h Ls.length])∧st'=[poolO es]
set_option maxHeartbeats 8000000 in
theorem l10Schema_full (s:Sc) (hs:s.Sm):Full Tryd.prog noY 62 [.agg s.cells] [poolO []] (L10R s.root s.rules):=by
 obtain ⟨root,rs⟩:=s
 obtain ⟨s1,s2,s3⟩:=hs
 simp only at s1 s2 s3
 show Full Tryd.prog noY 62 [.agg [.str root,.sl (rws Ru.cells rs)]] [poolO []] (L10R root rs)
 have hlr:=rws_len Ru.cells rs
 have hlg:=fun i h=>rws_get Ru.cells rs i h
 obtain ⟨rows,hrows⟩:∃ rows,rows=rws Ru.cells rs:=⟨_,rfl⟩
 rw [← hrows] at hlr ⊢
 simp only [← hrows] at hlg
 clear hrows
 refine full_of_draw good Tryd.func62 rfl (by kernel_rfl) (by decide) fun X hX=>?_
 conv=>whnf
 refine loop_drop (fun n fr st=>∃ (i:Nat) (Ls:List LR) (h:Option (Nat × Nat)) (es:List (List V)),n+i=rs.length∧ScIn es h Ls∧Ls.map LR.ru=rs.take i ∧
   Holds fr [(1,.ptr 1 0 0),(2,.ptr 2 0 0),(3,.ptr 3 0 0),(4,.int .i64 i)]∧st=[poolO es,scBox root (.sl rows),scBox [] .nils,scBox root (hdV h Ls.length)]) rs.length none ?_ ?_
 · exact ⟨0,[],none,[],rfl,.nil _,by simp,⟨rfl,rfl,rfl,rfl,trivial⟩,rfl⟩
 rintro n fr st ⟨i,Ls,h,es,hi,hS,hru,hh,rfl⟩
 obtain ⟨fr,rfl⟩:=hh.split
 clear hh
 have hLl:Ls.length=i∨rs.length < i:=by
  have:=congrArg List.length hru
  rw [List.length_map,List.length_take] at this
  omega
 conv=>whnf
 rw [hlr]
 by_cases hlt:i < rs.length
 · rw [ltB_t (by omega)]
   conv=>whnf
   have hg:=hlg i hlt
   have htk:rs.take (i+1)=rs.take i++[rs[i]]:=List.take_succ_eq_append_getElem hlt
   have hsm:=s3 _ (List.getElem_mem hlt)
   generalize rs[i]=q at *
   obtain ⟨qk,qt,qs⟩:=q
   have hwk:V.int .i64 (IntKind.i64.wrap ((i:Int)+1))=.int .i64 ((i+1:Nat):Int):=by rw [wrap64 (by omega) (by omega)]; simp
   refine ⟨by omega,rows,_,3,rfl,hg,rfl,rfl,?_⟩
   conv=>whnf
   have hE:∀ g,(Ls++[(⟨qk,qt,qs,g⟩:LR)]).map LR.ru=rs.take (i+1):=fun g=>by rw [List.map_append,hru,htk]; rfl
   refine semMore (k:=0) (sz:=3) (by_:=24) (c:=It.cells) (h:=none) (L:=[]) (M:=qs) (es:=es) rfl rfl rfl rfl rfl rfl rfl ⟨by omega,by omega⟩ (fun _=>rfl) rfl rfl rfl (.inl rfl) (by have:=hsm.2.1; simp only at this; rw [List.length_nil]; omega) (fun _ hq0=>?_) (fun _ _ h=>by cases h) fun b0 c0 hf0=>?_
   · subst hq0
     have H1:=hS
     have H2:PlIn es 3 (LR.mk qk qt [] none).hd (rws It.cells (LR.mk qk qt [] none).items):=rfl
     have H3:ApartH h (LR.mk qk qt [] none).hd:=fun _ _ _ _ _ h=>by cases h
     have H4:∀ M∈Ls,ApartH M.hd (LR.mk qk qt [] none).hd:=fun _ _ _ _ _ _ _ h=>by cases h
     rcases h with _ | ⟨b1,c1⟩
     · skip
       conv=>whnf
       refine semMore (k:=0) (sz:=3) (by_:=48) (c:=LR.cells) (h:=none) (L:=Ls) (M:=[⟨qk,qt,[],none⟩]) (es:=es) rfl rfl rfl rfl rfl rfl rfl ⟨by omega,by omega⟩ (fun _=>rfl) rfl rfl H1.top (.inl rfl) (by rw [List.length_singleton]; omega) (fun _ h=>by cases h) (fun b cc hb=>?_) fun b cc hf=>?_
       · cases hb
       · have HS:=H1.snoc_new (c:=cc) H2 H4 hf
         conv=>whnf
         refine ⟨n - 1,by omega,some [0,1,2,3],?_⟩
         conv=>whnf
         exact ⟨i+1,_,some (b,cc),_,by omega,HS,hE _,⟨rfl,rfl,rfl,hwk,trivial⟩,rfl⟩
     · skip
       conv=>whnf
       refine semMore (k:=0) (sz:=3) (by_:=48) (c:=LR.cells) (h:=some (b1,c1)) (L:=Ls) (M:=[⟨qk,qt,[],none⟩]) (es:=es) rfl rfl rfl rfl rfl rfl rfl ⟨by omega,by omega⟩ (fun _=>rfl) rfl rfl H1.top (.inl rfl) (by rw [List.length_singleton]; omega) (fun _ h=>by cases h) (fun b cc hb=>?_) fun b cc hf=>?_
       · cases hb
         have HS:=H1.snoc_in H2 H3 H4
         conv=>whnf
         refine ⟨n - 1,by omega,some [0,1,2,3],?_⟩
         conv=>whnf
         exact ⟨i+1,_,some (b1,c1),_,by omega,HS,hE _,⟨rfl,rfl,rfl,hwk,trivial⟩,rfl⟩
       · have HS:=H1.snoc_new (c:=cc) H2 H4 hf
         conv=>whnf
         refine ⟨n - 1,by omega,some [0,1,2,3],?_⟩
         conv=>whnf
         exact ⟨i+1,_,some (b,cc),_,by omega,HS,hE _,⟨rfl,rfl,rfl,hwk,trivial⟩,rfl⟩
   · have H1:ScIn (es++[ent b0 c0 3 (([]++qs).map It.cells)]) h Ls:=hS.more _
     have H2:PlIn (es++[ent b0 c0 3 (([]++qs).map It.cells)]) 3 (LR.mk qk qt qs (some (b0,c0))).hd (rws It.cells (LR.mk qk qt qs (some (b0,c0))).items):=List.mem_append_right _ List.mem_cons_self
     have H3:ApartH h (LR.mk qk qt qs (some (b0,c0))).hd:=(hS.top.fresh hf0).symm
     have H4:∀ M∈Ls,ApartH M.hd (LR.mk qk qt qs (some (b0,c0))).hd:=fun M hM=>((hS.kids M hM).fresh hf0).symm
     rcases h with _ | ⟨b1,c1⟩
     · skip
       conv=>whnf
       refine semMore (k:=0) (sz:=3) (by_:=48) (c:=LR.cells) (h:=none) (L:=Ls) (M:=[⟨qk,qt,qs,some (b0,c0)⟩]) (es:=_) rfl rfl rfl rfl rfl rfl rfl ⟨by omega,by omega⟩ (fun _=>rfl) rfl rfl H1.top (.inl rfl) (by rw [List.length_singleton]; omega) (fun _ h=>by cases h) (fun b cc hb=>?_) fun b cc hf=>?_
       · cases hb
       · have HS:=H1.snoc_new (c:=cc) H2 H4 hf
         conv=>whnf
         refine ⟨n - 1,by omega,some [0,1,2,3],?_⟩
         conv=>whnf
         exact ⟨i+1,_,some (b,cc),_,by omega,HS,hE _,⟨rfl,rfl,rfl,hwk,trivial⟩,rfl⟩
     · skip
       conv=>whnf
       refine semMore (k:=0) (sz:=3) (by_:=48) (c:=LR.cells) (h:=some (b1,c1)) (L:=Ls) (M:=[⟨qk,qt,qs,some (b0,c0)⟩]) (es:=_) rfl rfl rfl rfl rfl rfl rfl ⟨by omega,by omega⟩ (fun _=>rfl) rfl rfl H1.top (.inl rfl) (by rw [List.length_singleton]; omega) (fun _ h=>by cases h) (fun b cc hb=>?_) fun b cc hf=>?_
       · cases hb
         have HS:=H1.snoc_in H2 H3 H4
         conv=>whnf
         refine ⟨n - 1,by omega,some [0,1,2,3],?_⟩
         conv=>whnf
         exact ⟨i+1,_,some (b1,c1),_,by omega,HS,hE _,⟨rfl,rfl,rfl,hwk,trivial⟩,rfl⟩
       · have HS:=H1.snoc_new (c:=cc) H2 H4 hf
         conv=>whnf
         refine ⟨n - 1,by omega,some [0,1,2,3],?_⟩
         conv=>whnf
         exact ⟨i+1,_,some (b,cc),_,by omega,HS,hE _,⟨rfl,rfl,rfl,hwk,trivial⟩,rfl⟩
 · rw [ltB_f (by omega)]
   rcases h with _ | ⟨b1,c1⟩
   all_goals
    conv=>whnf
    refine ⟨[],true,?_⟩
    conv=>whnf
    exact ⟨Ls,_,es,hS,by rw [hru,List.take_of_length_le (by omega)],rfl,rfl⟩
end Go.Cod
set_option linter.all false
namespace Go.Cod
variable [Adr]
open Go Go.Proofs
set_option linter.all false
set_option maxRecDepth 10000
def sch11W:Sc:=⟨kDoc,[⟨kDoc,false,[⟨kTitle,false,true⟩,⟨kSec,true,false⟩,⟨kNote,false,true⟩]⟩,⟨kTitle,true,[]⟩,⟨kSec,true,[⟨kPar,true,false⟩,⟨kNote,false,true⟩]⟩,⟨kPar,true,[]⟩,⟨kNote,true,[⟨kPar,true,false⟩]⟩]⟩
theorem l11SchemaW_pure:Pure Tryd.prog 36 [] (·=.agg sch11W.cells):=l11Schema_pure
def ItS (x:It):Prop:=x.kind.length≤8
def RuS (r:Ru):Prop:=r.kind.length≤8∧r.kids.length≤4∧∀ x∈r.kids,ItS x
def ScS (s:Sc):Prop:=s.root.length≤8∧1≤s.rules.length∧s.rules.length≤100∧∀ r∈s.rules,RuS r
theorem ScS.sm {s:Sc} (h:ScS s):s.Sm:=⟨by have:=h.1; omega,by have:=h.2.2.1; omega,fun r hr=>by
 obtain ⟨h1,h2,h3⟩:=h.2.2.2 r hr
 exact ⟨by omega,by omega,fun x hx=>by have:=h3 x hx; unfold ItS at this; unfold It.Sm; omega⟩⟩
theorem sch11_S:ScS sch11W:=by
 refine ⟨by decide,by decide,by decide,fun r hr=>?_⟩
 simp only [sch11W,List.mem_cons,List.not_mem_nil,or_false] at hr
 rcases hr with rfl | rfl | rfl | rfl | rfl
 all_goals
  refine ⟨by decide,by decide,?_⟩
  unfold ItS
  decide
def AnyR (bs:List UInt8) (p:Int) (o:Out) (st':St):Prop:=∃ (root:List UInt8) (Ls:List LR) (h:Option (Nat × Nat)) (es:List (List V)) (p':Int),ScIn es h Ls∧ScS ⟨root,Ls.map LR.ru⟩∧p≤p'∧p'≤p+10∧o=.ret (.agg [.str root,hdV h Ls.length])∧st'=[rdO bs p',poolO es]
theorem set_S {root:List UInt8} {Ls:List LR} {k:Nat} {L:LR} (h:ScS ⟨root,Ls.map LR.ru⟩) (hL:RuS L.ru):ScS ⟨root,(Ls.set k L).map LR.ru⟩:=by
 obtain ⟨h1,h2,h3,h4⟩:=h
 simp only [List.length_map] at h2 h3
 refine ⟨h1,by simpa using h2,by simpa using h3,fun r hr=>?_⟩
 obtain ⟨M,hM,rfl⟩:=List.mem_map.1 hr
 rcases List.mem_or_eq_of_mem_set hM with hM | rfl
 · exact h4 _ (List.mem_map_of_mem hM)
 · exact hL
set_option maxHeartbeats 16000000 in
theorem l11AnySchema_full (bs:List UInt8) (hb:bs.length≤2000) (p:Int) (p0:0≤p) (p1:p≤1000000000):Full Tryd.prog noY 27 [.ptr 0 0 0] [rdO bs p,poolO []] (AnyR bs p):=by
 have hsch:=l11SchemaW_pure
 have h10:=l10Schema_full sch11W sch11_S.sm
 have hS0:=sch11_S
 unfold L10R at h10
 generalize sch11W=s0 at *
 obtain ⟨root,rs⟩:=s0
 unfold AnyR
 have hpk:=fun n q (h:p≤q∧q≤p+100)=>pick_full bs q n hb (by omega) (by omega)
 have hof:=fun q (h:p≤q∧q≤p+100)=>of_full bs q [[112,97,114],[110,111,116,101],[115,101,99]] hb (by omega) (by omega) (by simp) (by simp)
 refine full_of_draw2 good Tryd.func27 rfl (by kernel_rfl) (by decide) fun A hA X hX=>?_
 conv=>whnf
 refine box_go hA ?_
 conv=>whnf
 refine box_go hA ?_
 conv=>whnf
 refine .inl (hsch.mono ?_)
 rintro r rfl
 conv=>whnf
 refine .inr (.inl ⟨[1],true,?_⟩)
 conv=>whnf
 refine h10.mono ?_
 rintro o st' ⟨Ls,h,es,hS,hru,rfl,rfl⟩
 have hpos:1≤Ls.length:=by rw [← List.length_map (f:=LR.ru),hru]; exact hS0.2.1
 obtain ⟨b,c,rfl⟩:∃ b c,h=some (b,c):=by
  rcases h with _ | ⟨b,c⟩
  · have:Ls=[]:=List.map_eq_nil_iff.1 hS.top
    subst this; simp at hpos
  · exact ⟨b,c,rfl⟩
 have hSS:ScS ⟨root,Ls.map LR.ru⟩:=by rw [hru]; exact hS0
 clear hS0 hru h10 hsch
 conv=>whnf
 refine box_with hA [(0,.ptr 0 0 0),(2,.ptr 2 0 0),(3,.ptr 3 0 0)] ⟨rfl,rfl,rfl,trivial⟩ fun fr=>?_
 conv=>whnf
 refine ⟨[0],false,?_⟩
 conv=>whnf
 refine (hpk 3 p (by omega)).mono ?_
 rintro o st' ⟨m,m0,m1,rfl,rfl⟩
 have m1:=m1 (by omega)
 conv=>whnf
 refine loop_drop (fun n fr st=>∃ (Ls:List LR) (es:List (List V)) (b c:Nat) (p' m:Int),n=m.toNat∧m < 3∧1≤Ls.length∧ScIn es (some (b,c)) Ls∧ScS ⟨root,Ls.map LR.ru⟩∧(p≤p'∧p'+3*n≤p+7) ∧
   Holds fr [(0,.ptr 0 0 0),(2,.ptr 2 0 0),(3,.ptr 3 0 0),(4,.int .i64 m)]∧st=[rdO bs p',poolO es,scBox [] .nils,scBox root (.dref b Ls.length c)]) m.toNat none ?_ ?_
 · exact ⟨Ls,es,b,c,p+1,m,rfl,m1,hpos,hS,hSS,by omega,⟨rfl,rfl,rfl,rfl,trivial⟩,rfl⟩
 clear hS hSS hpos
 rintro n fr st ⟨Ls,es,b,c,p',m,rfl,m1,hpos,hS,hSS,hp,hh,rfl⟩
 obtain ⟨fr,rfl⟩:=hh.split
 clear hh
 conv=>whnf
 refine box_go hA ?_
 conv=>whnf
 by_cases hm:0 < m
 · rw [ltB_t hm]
   conv=>whnf
   refine box_with hA [(0,.ptr 0 0 0),(2,.ptr 2 0 0),(3,.ptr 3 0 0),(4,.int .i64 m)] ⟨rfl,rfl,rfl,rfl,trivial⟩ fun fr=>?_
   conv=>whnf
   refine ⟨[0],false,?_⟩
   conv=>whnf
   refine (hpk Ls.length p' (by omega)).mono ?_
   rintro o st' ⟨k,k0,k1,rfl,rfl⟩
   have k1:=k1 (by omega)
   obtain ⟨k,rfl⟩:∃ j:Nat,k=j:=⟨k.toNat,by omega⟩
   have hk:k < Ls.length:=by omega
   have hgL:(Ls.map LR.cells)[k]? = some Ls[k].cells:=by simp [hk]
   have hqs:Ls[k].items.length≤4∧Ls[k].kind.length≤8∧∀ x∈Ls[k].items,ItS x:=by
    obtain ⟨h1,h2,h3⟩:=hSS.2.2.2 Ls[k].ru (List.mem_map_of_mem (List.getElem_mem hk))
    exact ⟨h2,h1,h3⟩
   have hin:=hS.kids _ (List.getElem_mem hk)
   have hap:=hS.ap _ (List.getElem_mem hk)
   have hoth:∀ i (hi:i < Ls.length),i≠k→ApartH Ls[i].hd Ls[k].hd:=fun i hi hne=>pw_get (fun _ _ h=>h.symm) hS.pw hi hk hne
   generalize hq:Ls[k]=q at *
   obtain ⟨qk,qt,qs,g⟩:=q
   conv=>whnf
   refine box_with hA [(0,.ptr 0 0 0),(2,.ptr 2 0 0),(3,.ptr 3 0 0),(4,.int .i64 m),(5,.int .i64 k)] ⟨rfl,rfl,rfl,rfl,rfl,trivial⟩ fun fr=>?_
   conv=>whnf
   refine ⟨[0],false,?_⟩
   conv=>whnf
   refine (hof (p'+1) (by omega)).mono ?_
   rintro o st' ⟨kd,hkd,rfl,rfl⟩
   have hkl:kd.length≤8:=by
    simp only [List.mem_cons,List.not_mem_nil,or_false] at hkd
    rcases hkd with rfl | rfl | rfl <;> decide
   clear hkd
   conv=>whnf
   refine box_with hA [(0,.ptr 0 0 0),(2,.ptr 2 0 0),(3,.ptr 3 0 0),(4,.int .i64 m),(5,.int .i64 k),(6,.ptr 5 0 0)] ⟨rfl,rfl,rfl,rfl,rfl,rfl,trivial⟩ fun fr=>?_
   conv=>whnf
   refine ⟨[0],false,?_⟩
   conv=>whnf
   refine (hpk 3 (p'+1+1) (by omega)).mono ?_
   rintro o st' ⟨z,z0,z1,rfl,rfl⟩
   conv=>whnf
   refine box_go hA ?_
   conv=>whnf
   have hwm:V.int .i64 (IntKind.i64.wrap (m - 1))=.int .i64 (m - 1):=by rw [wrap64 (by omega) (by omega)]
   by_cases z2:z=0
   · rw [eqB_t z2]
     conv=>whnf
     refine box_with hA [(0,.ptr 0 0 0),(2,.ptr 2 0 0),(3,.ptr 3 0 0),(4,.int .i64 m),(5,.int .i64 k),(6,.ptr 5 0 0)] ⟨rfl,rfl,rfl,rfl,rfl,rfl,trivial⟩ fun fr=>?_
     conv=>whnf
     refine box_with hA [(0,.ptr 0 0 0),(2,.ptr 2 0 0),(3,.ptr 3 0 0),(4,.int .i64 m),(5,.int .i64 k),(6,.ptr 5 0 0)] ⟨rfl,rfl,rfl,rfl,rfl,rfl,trivial⟩ fun fr=>?_
     conv=>whnf
     refine ⟨by omega,by omega,?_⟩
     conv=>whnf
     refine ⟨1,c,_,_,hS.top,hgL,?_⟩
     rcases g with _ | ⟨b1,c1⟩
     · obtain rfl:qs=[]:=List.map_eq_nil_iff.1 hin
       conv=>whnf
       rw [ltB_t (by decide)]
       conv=>whnf
       refine draw_with hX [(0,.ptr 0 0 0),(2,.ptr 2 0 0),(3,.ptr 3 0 0),(4,.int .i64 m),(5,.int .i64 k),(6,.ptr 5 0 0)] ⟨rfl,rfl,rfl,rfl,rfl,rfl,trivial⟩ fun C hC fr=>?_
       show drawR _ _ _ _ _ [rdO bs (p'+1+1+1),poolO es,scBox [] .nils,scBox root (.dref b Ls.length c),⟨drows [[112,97,114],[110,111,116,101],[115,101,99]],1,true,false,false,.cell⟩,⟨[[.str kd,.bool true,.bool false]],3,true,true,true,.cell⟩] _ _
       have hJ:∀ fr es2 L' tmp,ScIn (putEnt b ((Ls.set k L').map LR.cells) es2) (some (b,c)) (Ls.set k L')→RuS L'.ru→Holds fr [(0,.ptr 0 0 0),(2,.ptr 2 0 0),(3,.ptr 3 0 0),(4,.int .i64 m)] →
         C fr [rdO bs (p'+1+1+1),poolO (putEnt b ((Ls.set k L').map LR.cells) es2),scBox [] .nils,scBox root (.dref b Ls.length c),⟨drows [[112,97,114],[110,111,116,101],[115,101,99]],1,true,false,false,.cell⟩,⟨[[.str kd,.bool true,.bool false]],3,true,true,true,.cell⟩,⟨tmp,3,true,true,false,.cell⟩]:=by
        intro fr es2 L' tmp HS HR hh
        obtain ⟨fr,rfl⟩:=hh.split
        refine hC _ _ ?_
        clear hC hh
        conv=>whnf
        refine box_with hA [(0,.ptr 0 0 0),(2,.ptr 2 0 0),(3,.ptr 3 0 0),(4,.int .i64 m)] ⟨rfl,rfl,rfl,rfl,trivial⟩ fun fr=>?_
        conv=>whnf
        refine ⟨(m - 1).toNat,by omega,some [0,1,2,3],?_⟩
        conv=>whnf
        exact ⟨Ls.set k L',_,b,c,p'+1+1+1,m - 1,rfl,by omega,by rw [List.length_set]; exact hpos,HS,set_S hSS HR,by omega,⟨rfl,rfl,rfl,hwm,trivial⟩,by rw [List.length_set]; rfl⟩
       clear hC
       conv=>whnf
       refine ⟨by omega,by omega,?_⟩
       conv=>whnf
       refine ⟨1,c,_,_,hS.top,hgL,?_⟩
       conv=>whnf
       refine semMore (k:=1) (sz:=3) (by_:=24) (c:=It.cells) (h:=none) (L:=[]) (M:=[⟨kd,true,false⟩]) (es:=es) rfl rfl rfl rfl rfl rfl rfl ⟨by omega,by omega⟩ (fun _=>rfl) rfl rfl rfl (.inl rfl) (by simp) (fun _ h=>by cases h) (fun b2 c2 hb=>by cases hb) fun b2 c2 hf=>?_
       have hT2:=hS.top.more [ent b2 c2 3 ((([]:List It)++[(⟨kd,true,false⟩:It)]).map It.cells)]
       conv=>whnf
       repeat (first
        | (refine And.intro (by (conv=>whnf); rfl) ?_
           conv=>whnf)
        | (refine And.intro (by (conv=>whnf); exact ⟨by omega,by omega,rfl⟩) ?_
           conv=>whnf)
        | (refine And.intro (by (conv=>whnf); exact ⟨1,c,_,_,hT2,hgL,rfl⟩) ?_
           conv=>whnf))
       refine ⟨by omega,by omega,?_⟩
       conv=>whnf
       have HS:=hS.set (L:=⟨qk,qt,([]:List It)++[(⟨kd,true,false⟩:It)],some (b2,c2)⟩) hk (List.mem_append_right _ List.mem_cons_self) hT2 ((hS.top.fresh hf).symm) fun i hi hne=>⟨(hS.kids _ (List.getElem_mem hi)).more _,((hS.kids _ (List.getElem_mem hi)).fresh hf).symm⟩
       have HR:RuS (LR.ru ⟨qk,qt,([]:List It)++[(⟨kd,true,false⟩:It)],some (b2,c2)⟩):=⟨hqs.2.1,by show (([]:List It)++[(⟨kd,true,false⟩:It)]).length≤4; simp only [List.length_append,List.length_cons,List.length_nil]; omega,fun x hx=>by
        rcases List.mem_append.1 hx with hx | hx
        · exact hqs.2.2 x hx
        · rw [List.mem_singleton.1 hx]; exact hkl⟩
       refine ⟨1,c,Ls.map LR.cells,_,putEnt b ((Ls.set k (LR.mk qk qt (([]:List It)++[(⟨kd,true,false⟩:It)]) (some (b2,c2)))).map LR.cells) _,hT2,hgL,by rw [List.map_set]; rfl,?_⟩
       conv=>whnf
       exact hJ _ _ _ _ HS HR ⟨rfl,rfl,rfl,rfl,trivial⟩
     · conv=>whnf
       by_cases h4:qs.length < 4
       · rw [ltB_t (show ((qs.length:Nat):Int) < 4 by omega)]
         conv=>whnf
         refine draw_with hX [(0,.ptr 0 0 0),(2,.ptr 2 0 0),(3,.ptr 3 0 0),(4,.int .i64 m),(5,.int .i64 k),(6,.ptr 5 0 0)] ⟨rfl,rfl,rfl,rfl,rfl,rfl,trivial⟩ fun C hC fr=>?_
         show drawR _ _ _ _ _ [rdO bs (p'+1+1+1),poolO es,scBox [] .nils,scBox root (.dref b Ls.length c),⟨drows [[112,97,114],[110,111,116,101],[115,101,99]],1,true,false,false,.cell⟩,⟨[[.str kd,.bool true,.bool false]],3,true,true,true,.cell⟩] _ _
         have hJ:∀ fr es2 L' tmp,ScIn (putEnt b ((Ls.set k L').map LR.cells) es2) (some (b,c)) (Ls.set k L')→RuS L'.ru→Holds fr [(0,.ptr 0 0 0),(2,.ptr 2 0 0),(3,.ptr 3 0 0),(4,.int .i64 m)] →
           C fr [rdO bs (p'+1+1+1),poolO (putEnt b ((Ls.set k L').map LR.cells) es2),scBox [] .nils,scBox root (.dref b Ls.length c),⟨drows [[112,97,114],[110,111,116,101],[115,101,99]],1,true,false,false,.cell⟩,⟨[[.str kd,.bool true,.bool false]],3,true,true,true,.cell⟩,⟨tmp,3,true,true,false,.cell⟩]:=by
          intro fr es2 L' tmp HS HR hh
          obtain ⟨fr,rfl⟩:=hh.split
          refine hC _ _ ?_
          clear hC hh
          conv=>whnf
          refine box_with hA [(0,.ptr 0 0 0),(2,.ptr 2 0 0),(3,.ptr 3 0 0),(4,.int .i64 m)] ⟨rfl,rfl,rfl,rfl,trivial⟩ fun fr=>?_
          conv=>whnf
          refine ⟨(m - 1).toNat,by omega,some [0,1,2,3],?_⟩
          conv=>whnf
          exact ⟨Ls.set k L',_,b,c,p'+1+1+1,m - 1,rfl,by omega,by rw [List.length_set]; exact hpos,HS,set_S hSS HR,by omega,⟨rfl,rfl,rfl,hwm,trivial⟩,by rw [List.length_set]; rfl⟩
         clear hC
         conv=>whnf
         refine ⟨by omega,by omega,?_⟩
         conv=>whnf
         refine ⟨1,c,_,_,hS.top,hgL,?_⟩
         conv=>whnf
         refine semMore (k:=1) (sz:=3) (by_:=24) (c:=It.cells) (h:=some (b1,c1)) (L:=qs) (M:=[⟨kd,true,false⟩]) (es:=es) rfl rfl rfl rfl rfl rfl rfl ⟨by omega,by omega⟩ (fun _=>rfl) rfl rfl hin (.inl rfl) (by rw [List.length_singleton]; omega) (fun h _=>by cases h) (fun b2 c2 hb=>?_) fun b2 c2 hf=>?_
         · cases hb
           have hT2:=hS.top.put hap.symm ((qs++[(⟨kd,true,false⟩:It)]).map It.cells)
           conv=>whnf
           repeat (first
            | (refine And.intro (by (conv=>whnf); rfl) ?_
               conv=>whnf)
            | (refine And.intro (by (conv=>whnf); exact ⟨by omega,by omega,rfl⟩) ?_
               conv=>whnf)
            | (refine And.intro (by (conv=>whnf); exact ⟨1,c,_,_,hT2,hgL,rfl⟩) ?_
               conv=>whnf))
           refine ⟨by omega,by omega,?_⟩
           conv=>whnf
           have HS:=hS.set (L:=⟨qk,qt,qs++[(⟨kd,true,false⟩:It)],some (b1,c1)⟩) hk (putEnt_mem hin) hT2 (hap) fun i hi hne=>⟨(hS.kids _ (List.getElem_mem hi)).put (hoth i hi hne).symm _,hoth i hi hne⟩
           have HR:RuS (LR.ru ⟨qk,qt,qs++[(⟨kd,true,false⟩:It)],some (b1,c1)⟩):=⟨hqs.2.1,by show (qs++[(⟨kd,true,false⟩:It)]).length≤4; simp only [List.length_append,List.length_cons,List.length_nil]; omega,fun x hx=>by
            rcases List.mem_append.1 hx with hx | hx
            · exact hqs.2.2 x hx
            · rw [List.mem_singleton.1 hx]; exact hkl⟩
           refine ⟨1,c,Ls.map LR.cells,_,putEnt b ((Ls.set k (LR.mk qk qt (qs++[(⟨kd,true,false⟩:It)]) (some (b1,c1)))).map LR.cells) _,hT2,hgL,by rw [List.map_set]; rfl,?_⟩
           conv=>whnf
           exact hJ _ _ _ _ HS HR ⟨rfl,rfl,rfl,rfl,trivial⟩
         · have hT2:=hS.top.more [ent b2 c2 3 ((qs++[(⟨kd,true,false⟩:It)]).map It.cells)]
           conv=>whnf
           repeat (first
            | (refine And.intro (by (conv=>whnf); rfl) ?_
               conv=>whnf)
            | (refine And.intro (by (conv=>whnf); exact ⟨by omega,by omega,rfl⟩) ?_
               conv=>whnf)
            | (refine And.intro (by (conv=>whnf); exact ⟨1,c,_,_,hT2,hgL,rfl⟩) ?_
               conv=>whnf))
           refine ⟨by omega,by omega,?_⟩
           conv=>whnf
           have HS:=hS.set (L:=⟨qk,qt,qs++[(⟨kd,true,false⟩:It)],some (b2,c2)⟩) hk (List.mem_append_right _ List.mem_cons_self) hT2 ((hS.top.fresh hf).symm) fun i hi hne=>⟨(hS.kids _ (List.getElem_mem hi)).more _,((hS.kids _ (List.getElem_mem hi)).fresh hf).symm⟩
           have HR:RuS (LR.ru ⟨qk,qt,qs++[(⟨kd,true,false⟩:It)],some (b2,c2)⟩):=⟨hqs.2.1,by show (qs++[(⟨kd,true,false⟩:It)]).length≤4; simp only [List.length_append,List.length_cons,List.length_nil]; omega,fun x hx=>by
            rcases List.mem_append.1 hx with hx | hx
            · exact hqs.2.2 x hx
            · rw [List.mem_singleton.1 hx]; exact hkl⟩
           refine ⟨1,c,Ls.map LR.cells,_,putEnt b ((Ls.set k (LR.mk qk qt (qs++[(⟨kd,true,false⟩:It)]) (some (b2,c2)))).map LR.cells) _,hT2,hgL,by rw [List.map_set]; rfl,?_⟩
           conv=>whnf
           exact hJ _ _ _ _ HS HR ⟨rfl,rfl,rfl,rfl,trivial⟩
       · rw [ltB_f (show (4:Int)≤((qs.length:Nat):Int) by omega)]
         conv=>whnf
         refine box_with hA [(0,.ptr 0 0 0),(2,.ptr 2 0 0),(3,.ptr 3 0 0),(4,.int .i64 m),(5,.int .i64 k),(6,.ptr 5 0 0)] ⟨rfl,rfl,rfl,rfl,rfl,rfl,trivial⟩ fun fr=>?_
         conv=>whnf
         refine ⟨(m - 1).toNat,by omega,some [0,1,2,3],?_⟩
         conv=>whnf
         exact ⟨Ls,es,b,c,p'+1+1+1,m - 1,rfl,by omega,hpos,hS,hSS,by omega,⟨rfl,rfl,rfl,hwm,trivial⟩,rfl⟩
   · rw [eqB_f z2]
     conv=>whnf
     refine box_with hA [(0,.ptr 0 0 0),(2,.ptr 2 0 0),(3,.ptr 3 0 0),(4,.int .i64 m),(5,.int .i64 k),(6,.ptr 5 0 0),(25,.int .i64 z)] ⟨rfl,rfl,rfl,rfl,rfl,rfl,rfl,trivial⟩ fun fr=>?_
     conv=>whnf
     by_cases z3:z=1
     · rw [eqB_t z3]
       conv=>whnf
       refine box_with hA [(0,.ptr 0 0 0),(2,.ptr 2 0 0),(3,.ptr 3 0 0),(4,.int .i64 m),(5,.int .i64 k),(6,.ptr 5 0 0)] ⟨rfl,rfl,rfl,rfl,rfl,rfl,trivial⟩ fun fr=>?_
       conv=>whnf
       refine box_with hA [(0,.ptr 0 0 0),(2,.ptr 2 0 0),(3,.ptr 3 0 0),(4,.int .i64 m),(5,.int .i64 k),(6,.ptr 5 0 0)] ⟨rfl,rfl,rfl,rfl,rfl,rfl,trivial⟩ fun fr=>?_
       conv=>whnf
       refine ⟨by omega,by omega,?_⟩
       conv=>whnf
       refine ⟨1,c,_,_,hS.top,hgL,?_⟩
       rcases g with _ | ⟨b1,c1⟩
       · obtain rfl:qs=[]:=List.map_eq_nil_iff.1 hin
         conv=>whnf
         rw [ltB_t (by decide)]
         conv=>whnf
         refine draw_with hX [(0,.ptr 0 0 0),(2,.ptr 2 0 0),(3,.ptr 3 0 0),(4,.int .i64 m),(5,.int .i64 k),(6,.ptr 5 0 0)] ⟨rfl,rfl,rfl,rfl,rfl,rfl,trivial⟩ fun C hC fr=>?_
         show drawR _ _ _ _ _ [rdO bs (p'+1+1+1),poolO es,scBox [] .nils,scBox root (.dref b Ls.length c),⟨drows [[112,97,114],[110,111,116,101],[115,101,99]],1,true,false,false,.cell⟩,⟨[[.str kd,.bool false,.bool true]],3,true,true,true,.cell⟩] _ _
         have hJ:∀ fr es2 L' tmp,ScIn (putEnt b ((Ls.set k L').map LR.cells) es2) (some (b,c)) (Ls.set k L')→RuS L'.ru→Holds fr [(0,.ptr 0 0 0),(2,.ptr 2 0 0),(3,.ptr 3 0 0),(4,.int .i64 m)] →
           C fr [rdO bs (p'+1+1+1),poolO (putEnt b ((Ls.set k L').map LR.cells) es2),scBox [] .nils,scBox root (.dref b Ls.length c),⟨drows [[112,97,114],[110,111,116,101],[115,101,99]],1,true,false,false,.cell⟩,⟨[[.str kd,.bool false,.bool true]],3,true,true,true,.cell⟩,⟨tmp,3,true,true,false,.cell⟩]:=by
          intro fr es2 L' tmp HS HR hh
          obtain ⟨fr,rfl⟩:=hh.split
          refine hC _ _ ?_
          clear hC hh
          conv=>whnf
          refine box_with hA [(0,.ptr 0 0 0),(2,.ptr 2 0 0),(3,.ptr 3 0 0),(4,.int .i64 m)] ⟨rfl,rfl,rfl,rfl,trivial⟩ fun fr=>?_
          conv=>whnf
          refine ⟨(m - 1).toNat,by omega,some [0,1,2,3],?_⟩
          conv=>whnf
          exact ⟨Ls.set k L',_,b,c,p'+1+1+1,m - 1,rfl,by omega,by rw [List.length_set]; exact hpos,HS,set_S hSS HR,by omega,⟨rfl,rfl,rfl,hwm,trivial⟩,by rw [List.length_set]; rfl⟩
         clear hC
         conv=>whnf
         refine ⟨by omega,by omega,?_⟩
         conv=>whnf
         refine ⟨1,c,_,_,hS.top,hgL,?_⟩
         conv=>whnf
         refine semMore (k:=1) (sz:=3) (by_:=24) (c:=It.cells) (h:=none) (L:=[]) (M:=[⟨kd,false,true⟩]) (es:=es) rfl rfl rfl rfl rfl rfl rfl ⟨by omega,by omega⟩ (fun _=>rfl) rfl rfl rfl (.inl rfl) (by simp) (fun _ h=>by cases h) (fun b2 c2 hb=>by cases hb) fun b2 c2 hf=>?_
         have hT2:=hS.top.more [ent b2 c2 3 ((([]:List It)++[(⟨kd,false,true⟩:It)]).map It.cells)]
         conv=>whnf
         repeat (first
          | (refine And.intro (by (conv=>whnf); rfl) ?_
             conv=>whnf)
          | (refine And.intro (by (conv=>whnf); exact ⟨by omega,by omega,rfl⟩) ?_
             conv=>whnf)
          | (refine And.intro (by (conv=>whnf); exact ⟨1,c,_,_,hT2,hgL,rfl⟩) ?_
             conv=>whnf))
         refine ⟨by omega,by omega,?_⟩
         conv=>whnf
         have HS:=hS.set (L:=⟨qk,qt,([]:List It)++[(⟨kd,false,true⟩:It)],some (b2,c2)⟩) hk (List.mem_append_right _ List.mem_cons_self) hT2 ((hS.top.fresh hf).symm) fun i hi hne=>⟨(hS.kids _ (List.getElem_mem hi)).more _,((hS.kids _ (List.getElem_mem hi)).fresh hf).symm⟩
         have HR:RuS (LR.ru ⟨qk,qt,([]:List It)++[(⟨kd,false,true⟩:It)],some (b2,c2)⟩):=⟨hqs.2.1,by show (([]:List It)++[(⟨kd,false,true⟩:It)]).length≤4; simp only [List.length_append,List.length_cons,List.length_nil]; omega,fun x hx=>by
          rcases List.mem_append.1 hx with hx | hx
          · exact hqs.2.2 x hx
          · rw [List.mem_singleton.1 hx]; exact hkl⟩
         refine ⟨1,c,Ls.map LR.cells,_,putEnt b ((Ls.set k (LR.mk qk qt (([]:List It)++[(⟨kd,false,true⟩:It)]) (some (b2,c2)))).map LR.cells) _,hT2,hgL,by rw [List.map_set]; rfl,?_⟩
         conv=>whnf
         exact hJ _ _ _ _ HS HR ⟨rfl,rfl,rfl,rfl,trivial⟩
       · conv=>whnf
         by_cases h4:qs.length < 4
         · rw [ltB_t (show ((qs.length:Nat):Int) < 4 by omega)]
           conv=>whnf
           refine draw_with hX [(0,.ptr 0 0 0),(2,.ptr 2 0 0),(3,.ptr 3 0 0),(4,.int .i64 m),(5,.int .i64 k),(6,.ptr 5 0 0)] ⟨rfl,rfl,rfl,rfl,rfl,rfl,trivial⟩ fun C hC fr=>?_
           show drawR _ _ _ _ _ [rdO bs (p'+1+1+1),poolO es,scBox [] .nils,scBox root (.dref b Ls.length c),⟨drows [[112,97,114],[110,111,116,101],[115,101,99]],1,true,false,false,.cell⟩,⟨[[.str kd,.bool false,.bool true]],3,true,true,true,.cell⟩] _ _
           have hJ:∀ fr es2 L' tmp,ScIn (putEnt b ((Ls.set k L').map LR.cells) es2) (some (b,c)) (Ls.set k L')→RuS L'.ru→Holds fr [(0,.ptr 0 0 0),(2,.ptr 2 0 0),(3,.ptr 3 0 0),(4,.int .i64 m)] →
             C fr [rdO bs (p'+1+1+1),poolO (putEnt b ((Ls.set k L').map LR.cells) es2),scBox [] .nils,scBox root (.dref b Ls.length c),⟨drows [[112,97,114],[110,111,116,101],[115,101,99]],1,true,false,false,.cell⟩,⟨[[.str kd,.bool false,.bool true]],3,true,true,true,.cell⟩,⟨tmp,3,true,true,false,.cell⟩]:=by
            intro fr es2 L' tmp HS HR hh
            obtain ⟨fr,rfl⟩:=hh.split
            refine hC _ _ ?_
            clear hC hh
            conv=>whnf
            refine box_with hA [(0,.ptr 0 0 0),(2,.ptr 2 0 0),(3,.ptr 3 0 0),(4,.int .i64 m)] ⟨rfl,rfl,rfl,rfl,trivial⟩ fun fr=>?_
            conv=>whnf
            refine ⟨(m - 1).toNat,by omega,some [0,1,2,3],?_⟩
            conv=>whnf
            exact ⟨Ls.set k L',_,b,c,p'+1+1+1,m - 1,rfl,by omega,by rw [List.length_set]; exact hpos,HS,set_S hSS HR,by omega,⟨rfl,rfl,rfl,hwm,trivial⟩,by rw [List.length_set]; rfl⟩
           clear hC
           conv=>whnf
           refine ⟨by omega,by omega,?_⟩
           conv=>whnf
           refine ⟨1,c,_,_,hS.top,hgL,?_⟩
           conv=>whnf
           refine semMore (k:=1) (sz:=3) (by_:=24) (c:=It.cells) (h:=some (b1,c1)) (L:=qs) (M:=[⟨kd,false,true⟩]) (es:=es) rfl rfl rfl rfl rfl rfl rfl ⟨by omega,by omega⟩ (fun _=>rfl) rfl rfl hin (.inl rfl) (by rw [List.length_singleton]; omega) (fun h _=>by cases h) (fun b2 c2 hb=>?_) fun b2 c2 hf=>?_
           · cases hb
             have hT2:=hS.top.put hap.symm ((qs++[(⟨kd,false,true⟩:It)]).map It.cells)
             conv=>whnf
             repeat (first
              | (refine And.intro (by (conv=>whnf); rfl) ?_
                 conv=>whnf)
              | (refine And.intro (by (conv=>whnf); exact ⟨by omega,by omega,rfl⟩) ?_
                 conv=>whnf)
              | (refine And.intro (by (conv=>whnf); exact ⟨1,c,_,_,hT2,hgL,rfl⟩) ?_
                 conv=>whnf))
             refine ⟨by omega,by omega,?_⟩
             conv=>whnf
             have HS:=hS.set (L:=⟨qk,qt,qs++[(⟨kd,false,true⟩:It)],some (b1,c1)⟩) hk (putEnt_mem hin) hT2 (hap) fun i hi hne=>⟨(hS.kids _ (List.getElem_mem hi)).put (hoth i hi hne).symm _,hoth i hi hne⟩
             have HR:RuS (LR.ru ⟨qk,qt,qs++[(⟨kd,false,true⟩:It)],some (b1,c1)⟩):=⟨hqs.2.1,by show (qs++[(⟨kd,false,true⟩:It)]).length≤4; simp only [List.length_append,List.length_cons,List.length_nil]; omega,fun x hx=>by
              rcases List.mem_append.1 hx with hx | hx
              · exact hqs.2.2 x hx
              · rw [List.mem_singleton.1 hx]; exact hkl⟩
             refine ⟨1,c,Ls.map LR.cells,_,putEnt b ((Ls.set k (LR.mk qk qt (qs++[(⟨kd,false,true⟩:It)]) (some (b1,c1)))).map LR.cells) _,hT2,hgL,by rw [List.map_set]; rfl,?_⟩
             conv=>whnf
             exact hJ _ _ _ _ HS HR ⟨rfl,rfl,rfl,rfl,trivial⟩
           · have hT2:=hS.top.more [ent b2 c2 3 ((qs++[(⟨kd,false,true⟩:It)]).map It.cells)]
             conv=>whnf
             repeat (first
              | (refine And.intro (by (conv=>whnf); rfl) ?_
                 conv=>whnf)
              | (refine And.intro (by (conv=>whnf); exact ⟨by omega,by omega,rfl⟩) ?_
                 conv=>whnf)
              | (refine And.intro (by (conv=>whnf); exact ⟨1,c,_,_,hT2,hgL,rfl⟩) ?_
                 conv=>whnf))
             refine ⟨by omega,by omega,?_⟩
             conv=>whnf
             have HS:=hS.set (L:=⟨qk,qt,qs++[(⟨kd,false,true⟩:It)],some (b2,c2)⟩) hk (List.mem_append_right _ List.mem_cons_self) hT2 ((hS.top.fresh hf).symm) fun i hi hne=>⟨(hS.kids _ (List.getElem_mem hi)).more _,((hS.kids _ (List.getElem_mem hi)).fresh hf).symm⟩
             have HR:RuS (LR.ru ⟨qk,qt,qs++[(⟨kd,false,true⟩:It)],some (b2,c2)⟩):=⟨hqs.2.1,by show (qs++[(⟨kd,false,true⟩:It)]).length≤4; simp only [List.length_append,List.length_cons,List.length_nil]; omega,fun x hx=>by
              rcases List.mem_append.1 hx with hx | hx
              · exact hqs.2.2 x hx
              · rw [List.mem_singleton.1 hx]; exact hkl⟩
             refine ⟨1,c,Ls.map LR.cells,_,putEnt b ((Ls.set k (LR.mk qk qt (qs++[(⟨kd,false,true⟩:It)]) (some (b2,c2)))).map LR.cells) _,hT2,hgL,by rw [List.map_set]; rfl,?_⟩
             conv=>whnf
             exact hJ _ _ _ _ HS HR ⟨rfl,rfl,rfl,rfl,trivial⟩
         · rw [ltB_f (show (4:Int)≤((qs.length:Nat):Int) by omega)]
           conv=>whnf
           refine box_with hA [(0,.ptr 0 0 0),(2,.ptr 2 0 0),(3,.ptr 3 0 0),(4,.int .i64 m),(5,.int .i64 k),(6,.ptr 5 0 0)] ⟨rfl,rfl,rfl,rfl,rfl,rfl,trivial⟩ fun fr=>?_
           conv=>whnf
           refine ⟨(m - 1).toNat,by omega,some [0,1,2,3],?_⟩
           conv=>whnf
           exact ⟨Ls,es,b,c,p'+1+1+1,m - 1,rfl,by omega,hpos,hS,hSS,by omega,⟨rfl,rfl,rfl,hwm,trivial⟩,rfl⟩
     · rw [eqB_f z3]
       conv=>whnf
       refine box_with hA [(0,.ptr 0 0 0),(2,.ptr 2 0 0),(3,.ptr 3 0 0),(4,.int .i64 m),(5,.int .i64 k),(6,.ptr 5 0 0)] ⟨rfl,rfl,rfl,rfl,rfl,rfl,trivial⟩ fun fr=>?_
       conv=>whnf
       refine ⟨by omega,by omega,?_⟩
       conv=>whnf
       refine ⟨1,c,_,_,hS.top,hgL,?_⟩
       rcases g with _ | ⟨b1,c1⟩
       · obtain rfl:qs=[]:=List.map_eq_nil_iff.1 hin
         conv=>whnf
         rw [ltB_t (by decide)]
         conv=>whnf
         refine draw_with hX [(0,.ptr 0 0 0),(2,.ptr 2 0 0),(3,.ptr 3 0 0),(4,.int .i64 m),(5,.int .i64 k),(6,.ptr 5 0 0)] ⟨rfl,rfl,rfl,rfl,rfl,rfl,trivial⟩ fun C hC fr=>?_
         show drawR _ _ _ _ _ [rdO bs (p'+1+1+1),poolO es,scBox [] .nils,scBox root (.dref b Ls.length c),⟨drows [[112,97,114],[110,111,116,101],[115,101,99]],1,true,false,false,.cell⟩,⟨[[.str kd,.bool false,.bool false]],3,true,true,true,.cell⟩] _ _
         have hJ:∀ fr es2 L' tmp,ScIn (putEnt b ((Ls.set k L').map LR.cells) es2) (some (b,c)) (Ls.set k L')→RuS L'.ru→Holds fr [(0,.ptr 0 0 0),(2,.ptr 2 0 0),(3,.ptr 3 0 0),(4,.int .i64 m)] →
           C fr [rdO bs (p'+1+1+1),poolO (putEnt b ((Ls.set k L').map LR.cells) es2),scBox [] .nils,scBox root (.dref b Ls.length c),⟨drows [[112,97,114],[110,111,116,101],[115,101,99]],1,true,false,false,.cell⟩,⟨[[.str kd,.bool false,.bool false]],3,true,true,true,.cell⟩,⟨tmp,3,true,true,false,.cell⟩]:=by
          intro fr es2 L' tmp HS HR hh
          obtain ⟨fr,rfl⟩:=hh.split
          refine hC _ _ ?_
          clear hC hh
          conv=>whnf
          refine box_with hA [(0,.ptr 0 0 0),(2,.ptr 2 0 0),(3,.ptr 3 0 0),(4,.int .i64 m)] ⟨rfl,rfl,rfl,rfl,trivial⟩ fun fr=>?_
          conv=>whnf
          refine ⟨(m - 1).toNat,by omega,some [0,1,2,3],?_⟩
          conv=>whnf
          exact ⟨Ls.set k L',_,b,c,p'+1+1+1,m - 1,rfl,by omega,by rw [List.length_set]; exact hpos,HS,set_S hSS HR,by omega,⟨rfl,rfl,rfl,hwm,trivial⟩,by rw [List.length_set]; rfl⟩
         clear hC
         conv=>whnf
         refine ⟨by omega,by omega,?_⟩
         conv=>whnf
         refine ⟨1,c,_,_,hS.top,hgL,?_⟩
         conv=>whnf
         refine semMore (k:=1) (sz:=3) (by_:=24) (c:=It.cells) (h:=none) (L:=[]) (M:=[⟨kd,false,false⟩]) (es:=es) rfl rfl rfl rfl rfl rfl rfl ⟨by omega,by omega⟩ (fun _=>rfl) rfl rfl rfl (.inl rfl) (by simp) (fun _ h=>by cases h) (fun b2 c2 hb=>by cases hb) fun b2 c2 hf=>?_
         have hT2:=hS.top.more [ent b2 c2 3 ((([]:List It)++[(⟨kd,false,false⟩:It)]).map It.cells)]
         conv=>whnf
         repeat (first
          | (refine And.intro (by (conv=>whnf); rfl) ?_
             conv=>whnf)
          | (refine And.intro (by (conv=>whnf); exact ⟨by omega,by omega,rfl⟩) ?_
             conv=>whnf)
          | (refine And.intro (by (conv=>whnf); exact ⟨1,c,_,_,hT2,hgL,rfl⟩) ?_
             conv=>whnf))
         refine ⟨by omega,by omega,?_⟩
         conv=>whnf
         have HS:=hS.set (L:=⟨qk,qt,([]:List It)++[(⟨kd,false,false⟩:It)],some (b2,c2)⟩) hk (List.mem_append_right _ List.mem_cons_self) hT2 ((hS.top.fresh hf).symm) fun i hi hne=>⟨(hS.kids _ (List.getElem_mem hi)).more _,((hS.kids _ (List.getElem_mem hi)).fresh hf).symm⟩
         have HR:RuS (LR.ru ⟨qk,qt,([]:List It)++[(⟨kd,false,false⟩:It)],some (b2,c2)⟩):=⟨hqs.2.1,by show (([]:List It)++[(⟨kd,false,false⟩:It)]).length≤4; simp only [List.length_append,List.length_cons,List.length_nil]; omega,fun x hx=>by
          rcases List.mem_append.1 hx with hx | hx
          · exact hqs.2.2 x hx
          · rw [List.mem_singleton.1 hx]; exact hkl⟩
         refine ⟨1,c,Ls.map LR.cells,_,putEnt b ((Ls.set k (LR.mk qk qt (([]:List It)++[(⟨kd,false,false⟩:It)]) (some (b2,c2)))).map LR.cells) _,hT2,hgL,by rw [List.map_set]; rfl,?_⟩
         conv=>whnf
         exact hJ _ _ _ _ HS HR ⟨rfl,rfl,rfl,rfl,trivial⟩
       · conv=>whnf
         by_cases h4:qs.length < 4
         · rw [ltB_t (show ((qs.length:Nat):Int) < 4 by omega)]
           conv=>whnf
           refine draw_with hX [(0,.ptr 0 0 0),(2,.ptr 2 0 0),(3,.ptr 3 0 0),(4,.int .i64 m),(5,.int .i64 k),(6,.ptr 5 0 0)] ⟨rfl,rfl,rfl,rfl,rfl,rfl,trivial⟩ fun C hC fr=>?_
           show drawR _ _ _ _ _ [rdO bs (p'+1+1+1),poolO es,scBox [] .nils,scBox root (.dref b Ls.length c),⟨drows [[112,97,114],[110,111,116,101],[115,101,99]],1,true,false,false,.cell⟩,⟨[[.str kd,.bool false,.bool false]],3,true,true,true,.cell⟩] _ _
           have hJ:∀ fr es2 L' tmp,ScIn (putEnt b ((Ls.set k L').map LR.cells) es2) (some (b,c)) (Ls.set k L')→RuS L'.ru→Holds fr [(0,.ptr 0 0 0),(2,.ptr 2 0 0),(3,.ptr 3 0 0),(4,.int .i64 m)] →
             C fr [rdO bs (p'+1+1+1),poolO (putEnt b ((Ls.set k L').map LR.cells) es2),scBox [] .nils,scBox root (.dref b Ls.length c),⟨drows [[112,97,114],[110,111,116,101],[115,101,99]],1,true,false,false,.cell⟩,⟨[[.str kd,.bool false,.bool false]],3,true,true,true,.cell⟩,⟨tmp,3,true,true,false,.cell⟩]:=by
            intro fr es2 L' tmp HS HR hh
            obtain ⟨fr,rfl⟩:=hh.split
            refine hC _ _ ?_
            clear hC hh
            conv=>whnf
            refine box_with hA [(0,.ptr 0 0 0),(2,.ptr 2 0 0),(3,.ptr 3 0 0),(4,.int .i64 m)] ⟨rfl,rfl,rfl,rfl,trivial⟩ fun fr=>?_
            conv=>whnf
            refine ⟨(m - 1).toNat,by omega,some [0,1,2,3],?_⟩
            conv=>whnf
            exact ⟨Ls.set k L',_,b,c,p'+1+1+1,m - 1,rfl,by omega,by rw [List.length_set]; exact hpos,HS,set_S hSS HR,by omega,⟨rfl,rfl,rfl,hwm,trivial⟩,by rw [List.length_set]; rfl⟩
           clear hC
           conv=>whnf
           refine ⟨by omega,by omega,?_⟩
           conv=>whnf
           refine ⟨1,c,_,_,hS.top,hgL,?_⟩
           conv=>whnf
           refine semMore (k:=1) (sz:=3) (by_:=24) (c:=It.cells) (h:=some (b1,c1)) (L:=qs) (M:=[⟨kd,false,false⟩]) (es:=es) rfl rfl rfl rfl rfl rfl rfl ⟨by omega,by omega⟩ (fun _=>rfl) rfl rfl hin (.inl rfl) (by rw [List.length_singleton]; omega) (fun h _=>by cases h) (fun b2 c2 hb=>?_) fun b2 c2 hf=>?_
           · cases hb
             have hT2:=hS.top.put hap.symm ((qs++[(⟨kd,false,false⟩:It)]).map It.cells)
             conv=>whnf
             repeat (first
              | (refine And.intro (by (conv=>whnf); rfl) ?_
                 conv=>whnf)
              | (refine And.intro (by (conv=>whnf); exact ⟨by omega,by omega,rfl⟩) ?_
                 conv=>whnf)
              | (refine And.intro (by (conv=>whnf); exact ⟨1,c,_,_,hT2,hgL,rfl⟩) ?_
                 conv=>whnf))
             refine ⟨by omega,by omega,?_⟩
             conv=>whnf
             have HS:=hS.set (L:=⟨qk,qt,qs++[(⟨kd,false,false⟩:It)],some (b1,c1)⟩) hk (putEnt_mem hin) hT2 (hap) fun i hi hne=>⟨(hS.kids _ (List.getElem_mem hi)).put (hoth i hi hne).symm _,hoth i hi hne⟩
             have HR:RuS (LR.ru ⟨qk,qt,qs++[(⟨kd,false,false⟩:It)],some (b1,c1)⟩):=⟨hqs.2.1,by show (qs++[(⟨kd,false,false⟩:It)]).length≤4; simp only [List.length_append,List.length_cons,List.length_nil]; omega,fun x hx=>by
              rcases List.mem_append.1 hx with hx | hx
              · exact hqs.2.2 x hx
              · rw [List.mem_singleton.1 hx]; exact hkl⟩
             refine ⟨1,c,Ls.map LR.cells,_,putEnt b ((Ls.set k (LR.mk qk qt (qs++[(⟨kd,false,false⟩:It)]) (some (b1,c1)))).map LR.cells) _,hT2,hgL,by rw [List.map_set]; rfl,?_⟩
             conv=>whnf
             exact hJ _ _ _ _ HS HR ⟨rfl,rfl,rfl,rfl,trivial⟩
           · have hT2:=hS.top.more [ent b2 c2 3 ((qs++[(⟨kd,false,false⟩:It)]).map It.cells)]
             conv=>whnf
             repeat (first
              | (refine And.intro (by (conv=>whnf); rfl) ?_
                 conv=>whnf)
              | (refine And.intro (by (conv=>whnf); exact ⟨by omega,by omega,rfl⟩) ?_
                 conv=>whnf)
              | (refine And.intro (by (conv=>whnf); exact ⟨1,c,_,_,hT2,hgL,rfl⟩) ?_
                 conv=>whnf))
             refine ⟨by omega,by omega,?_⟩
             conv=>whnf
             have HS:=hS.set (L:=⟨qk,qt,qs++[(⟨kd,false,false⟩:It)],some (b2,c2)⟩) hk (List.mem_append_right _ List.mem_cons_self) hT2 ((hS.top.fresh hf).symm) fun i hi hne=>⟨(hS.kids _ (List.getElem_mem hi)).more _,((hS.kids _ (List.getElem_mem hi)).fresh hf).symm⟩
             have HR:RuS (LR.ru ⟨qk,qt,qs++[(⟨kd,false,false⟩:It)],some (b2,c2)⟩):=⟨hqs.2.1,by show (qs++[(⟨kd,false,false⟩:It)]).length≤4; simp only [List.length_append,List.length_cons,List.length_nil]; omega,fun x hx=>by
              rcases List.mem_append.1 hx with hx | hx
              · exact hqs.2.2 x hx
              · rw [List.mem_singleton.1 hx]; exact hkl⟩
             refine ⟨1,c,Ls.map LR.cells,_,putEnt b ((Ls.set k (LR.mk qk qt (qs++[(⟨kd,false,false⟩:It)]) (some (b2,c2)))).map LR.cells) _,hT2,hgL,by rw [List.map_set]; rfl,?_⟩
             conv=>whnf
             exact hJ _ _ _ _ HS HR ⟨rfl,rfl,rfl,rfl,trivial⟩
         · rw [ltB_f (show (4:Int)≤((qs.length:Nat):Int) by omega)]
           conv=>whnf
           refine box_with hA [(0,.ptr 0 0 0),(2,.ptr 2 0 0),(3,.ptr 3 0 0),(4,.int .i64 m),(5,.int .i64 k),(6,.ptr 5 0 0)] ⟨rfl,rfl,rfl,rfl,rfl,rfl,trivial⟩ fun fr=>?_
           conv=>whnf
           refine ⟨(m - 1).toNat,by omega,some [0,1,2,3],?_⟩
           conv=>whnf
           exact ⟨Ls,es,b,c,p'+1+1+1,m - 1,rfl,by omega,hpos,hS,hSS,by omega,⟨rfl,rfl,rfl,hwm,trivial⟩,rfl⟩
 · rw [ltB_f (by omega)]
   conv=>whnf
   refine box_with hA [(2,.ptr 2 0 0),(3,.ptr 3 0 0)] ⟨rfl,rfl,trivial⟩ fun fr=>?_
   conv=>whnf
   refine ⟨[],true,?_⟩
   conv=>whnf
   exact ⟨root,Ls,_,es,p',hS,hSS,by omega,by omega,rfl,rfl⟩
end Go.Cod
set_option linter.all false
namespace Go.Cod
variable [Adr]
open Go Go.Proofs Go.ChangeShapes Go.WideShapes Go.ChangeAt Go.RowKit
set_option maxRecDepth 10000
omit [Adr] in
theorem ownK:ownKnob Tryd.prog.godebug=none:=by kernel_rfl
def byteOf:List V→UInt8
 | [.int _ i]=>UInt8.ofNat i.toNat
 | _=>0
theorem argBytes {H:Type} {enc:TypeId × Value→H} {W:World}:ReadsA enc Tryd.prog W 22 fun x=>∃ bs:List UInt8,x=.sl (brows bs):=by
 intro base v d p hv h
 obtain ⟨x,⟨es,hx,_,hr⟩,hrep⟩:=readsA_slice (S:=fun vs=>∃ es,vs=[.sl es]∧es.length≤maxLen∧∀ r∈es,(∃ i,r=[.int .u8 i]∧IntKind.u8.min≤i∧i≤IntKind.u8.max)∧r.length=Tryd.prog.cellsOf 5∧(∀ v∈r,v.leaf=true)∧V.clean.cleanL 0 r=true)
  Tryd.underlying22 (fun n=>reads_slice Tryd.underlying22 (by decide +kernel) fun m _=>reads_int Tryd.underlying5) base v d p hv h
 cases hx
 refine ⟨_,⟨es.map byteOf,?_⟩,hrep⟩
 congr 1
 rw [brows,List.map_map]
 refine (List.map_id es).symm.trans (List.map_congr_left fun r hr'=>?_)
 obtain ⟨⟨i,rfl,h1,h2⟩,_⟩:=hr r hr'
 have h1:0≤i:=h1
 have h2:i≤255:=h2
 simp only [id_eq,Function.comp,byteOf,cellB]
 congr 2
 simp only [UInt8.toNat_ofNat']
 omega
end Go.Cod
set_option linter.all false
namespace Go.Cod
variable [Adr]
open Go Go.Proofs
set_option linter.all false
set_option maxRecDepth 10000
structure KsIn (es:List (List V)) (h:Option (Nat × Nat)) (Ls:List LR) (g:Option (Nat × Nat)) (ks:Ks):Prop where
 sc:ScIn es h Ls
 ks:PlIn es 1 g (rws sCells ks)
 a0:ApartH g h
 a1:∀ L∈Ls,ApartH g L.hd
theorem KsIn.start {es h Ls} (H:ScIn es h Ls):KsIn es h Ls none []:=⟨H,rfl,.none _,fun _ _=>.none _⟩
theorem KsIn.put {es h Ls b c ks} (H:KsIn es h Ls (some (b,c)) ks) (ks':Ks):KsIn (putEnt b (rws sCells ks') es) h Ls (some (b,c)) ks':=by
 refine ⟨⟨H.sc.top.put H.a0 _,fun L hL=>(H.sc.kids L hL).put (H.a1 L hL) _,H.sc.ap,H.sc.pw⟩,putEnt_mem H.ks,H.a0,H.a1⟩
theorem KsIn.new {es h Ls g ks} (H:KsIn es h Ls g ks) (ks':Ks) {b c:Nat} (hb:∀ e∈es,labOf e≠b):KsIn (es++[ent b c 1 (rws sCells ks')]) h Ls (some (b,c)) ks':=by
 refine ⟨H.sc.more _,List.mem_append_right _ List.mem_cons_self,H.sc.top.fresh hb,fun L hL=>(H.sc.kids L hL).fresh hb⟩
def KsS (ks:Ks):Prop:=∀ k∈ks,k.length≤8
theorem snoc_S {ks:Ks} {k:List UInt8} (h:KsS ks) (hk:k.length≤8):KsS (ks++[k]):=fun x hx=>by
 rcases List.mem_append.1 hx with hx | hx
 · exact h x hx
 · rw [List.mem_singleton.1 hx]; exact hk
def DrawSK (r:V):Prop:=∃ (s:Sc) (k:List UInt8) (ks:Ks),ScS s∧k.length≤8∧ks.length≤10000∧KsS ks∧r=.tup [.agg s.cells,.str k,.sl (rws sCells ks)]
def SKR (o:Out) (st':St):Prop:=∃ (root:List UInt8) (Ls:List LR) (h g:Option (Nat × Nat)) (k:List UInt8) (ks:Ks) (es:List (List V)),KsIn es h Ls g ks∧ScS ⟨root,Ls.map LR.ru⟩∧k.length≤8∧ks.length≤10000∧KsS ks ∧
 o=.ret (.tup [.agg [.str root,hdV h Ls.length],.str k,hdV g ks.length])∧st'=[poolO es]
set_option maxHeartbeats 16000000 in
theorem drawSchemaKids_full (bs:List UInt8) (hb:bs.length≤1048576):Full Tryd.prog noY 7 [.sl (brows bs)] [poolO []] SKR:=by
 have ho:=l1Open_full bs hb
 unfold SKR
 refine full_of_draw2 good Tryd.func7 rfl (by kernel_rfl) (by decide) fun A hA X hX=>?_
 conv=>whnf
 refine box_go hA ?_
 conv=>whnf
 refine box_go hA ?_
 conv=>whnf
 refine .inr (.inl ⟨[],false,?_⟩)
 conv=>whnf
 refine ho.mono ?_
 rintro o st' ⟨rfl,bs',hb',rfl⟩
 conv=>whnf
 refine box_with hA [(2,.ptr 1 0 0),(5,.ptr 2 0 0)] ⟨rfl,rfl,trivial⟩ fun fr=>?_
 conv=>whnf
 have hsc:=l11AnySchema_full bs' hb' 0 (by omega) (by omega)
 unfold AnyR at hsc
 refine ⟨[2,0],true,?_⟩
 conv=>whnf
 refine hsc.mono ?_
 rintro o st' ⟨root,Ls,h,es,p,hS,hSS,p0,p1,rfl,rfl⟩
 obtain ⟨b,c,rfl⟩:∃ b c,h=some (b,c):=by
  have hpos:=hSS.2.1
  rcases h with _ | ⟨b,c⟩
  · have:Ls=[]:=List.map_eq_nil_iff.1 hS.top
    subst this; simp at hpos
  · exact ⟨b,c,rfl⟩
 have hpk:=fun n q (h:0≤q∧q≤100000000)=>pick_full bs' q n hb' (by omega) (by omega)
 have hof:=fun q ss (h:0≤q∧q≤100000000) (h1:1≤ss.length) (h2:ss.length≤100)=>of_full bs' q ss hb' (by omega) (by omega) h1 (by omega)
 clear hsc ho hb
 have hK:=KsIn.start hS
 clear hS
 conv=>whnf
 refine box_with hA [(2,.ptr 1 0 0),(5,.ptr 2 0 0),(6,.ptr 3 0 0)] ⟨rfl,rfl,rfl,trivial⟩ fun fr=>?_
 conv=>whnf
 refine box_with hA [(2,.ptr 1 0 0),(5,.ptr 2 0 0),(6,.ptr 3 0 0),(7,.nils)] ⟨rfl,rfl,rfl,rfl,trivial⟩ fun fr=>?_
 conv=>whnf
 refine ⟨[2],false,?_⟩
 conv=>whnf
 refine (hpk 3 p (by omega)).mono ?_
 rintro o st' ⟨z,z0,z1,rfl,rfl⟩
 conv=>whnf
 by_cases z2:z=0
 · rw [eqB_t z2]
   conv=>whnf
   refine box_with hA [(2,.ptr 1 0 0),(5,.ptr 2 0 0),(6,.ptr 3 0 0),(7,.nils)] ⟨rfl,rfl,rfl,rfl,trivial⟩ fun fr=>?_
   conv=>whnf
   refine ⟨[2],false,?_⟩
   conv=>whnf
   refine (hpk 5 (p+1) (by omega)).mono ?_
   rintro o st' ⟨m,m0,m1,rfl,rfl⟩
   have m1:=m1 (by omega)
   conv=>whnf
   refine loop_drop (fun n fr st=>∃ (ks:Ks) (g:Option (Nat × Nat)) (es:List (List V)) (p m:Int),n=m.toNat∧(0≤m∧m < 5)∧KsIn es (some (b,c)) Ls g ks∧ks.length+m≤5∧KsS ks∧(0≤p∧p+m≤50) ∧
     Holds fr [(2,.ptr 1 0 0),(5,.ptr 2 0 0),(6,.ptr 3 0 0),(7,hdV g ks.length),(8,.int .i64 m)]∧st=[poolO es,scBox [] .nils,rdO bs' p,scBox root (.dref b Ls.length c)]) m.toNat none ?_ ?_
   · exact ⟨[],none,es,p+1+1,m,rfl,⟨m0,m1⟩,hK,by simp; omega,(fun _ h=>by cases h),by omega,⟨rfl,rfl,rfl,rfl,rfl,trivial⟩,rfl⟩
   clear hK p0 p1
   rintro n fr st ⟨ks,g,es,p,m,rfl,m1,hK,hkn,hks,hp,hh,rfl⟩
   obtain ⟨fr,rfl⟩:=hh.split
   clear hh
   have hwm:V.int .i64 (IntKind.i64.wrap (m - 1))=.int .i64 (m - 1)∨m≤0:=by
    by_cases h:0 < m
    · rw [wrap64 (by omega) (by omega)]; exact .inl rfl
    · exact .inr (by omega)
   rcases g with _ | ⟨b1,c1⟩
   · conv=>whnf
     refine box_go hA ?_
     conv=>whnf
     by_cases hm:0 < m
     · rw [ltB_t hm]
       have hwm:=hwm.resolve_right (by omega)
       conv=>whnf
       refine box_with hA [(2,.ptr 1 0 0),(5,.ptr 2 0 0),(6,.ptr 3 0 0),(7,.nils),(8,.int .i64 m)] ⟨rfl,rfl,rfl,rfl,rfl,trivial⟩ fun fr=>?_
       conv=>whnf
       refine ⟨[2],false,?_⟩
       conv=>whnf
       refine (hof p [[112,97,114],[110,111,116,101],[115,101,99],[116,105,116,108,101]] (by omega) (by simp) (by simp)).mono ?_
       rintro o st' ⟨kd,hkd,rfl,rfl⟩
       have hkl:kd.length≤8:=by
        simp only [List.mem_cons,List.not_mem_nil,or_false] at hkd
        rcases hkd with rfl | rfl | rfl | rfl <;> decide
       clear hkd
       conv=>whnf
       refine semMore (k:=0) (sz:=1) (by_:=16) (c:=sCells) (h:=none) (L:=ks) (M:=[kd]) (es:=es) rfl rfl rfl rfl rfl rfl rfl ⟨by omega,by omega⟩ (fun _=>rfl) (by first | rfl | (obtain rfl:ks=[]:=List.map_eq_nil_iff.1 hK.ks; rfl)) rfl hK.ks (.inl rfl) (by rw [List.length_singleton]; omega) (fun _ h=>by cases h) (fun b2 c2 hb=>?_) fun b2 c2 hf=>?_
       · cases hb
       · have hK2:=hK.new (c:=c2) (ks++[kd]) hf
         conv=>whnf
         refine box_with hA [(2,.ptr 1 0 0),(5,.ptr 2 0 0),(6,.ptr 3 0 0),(7,.dref b2 (ks++[kd]).length c2),(8,.int .i64 m)] ⟨rfl,rfl,rfl,rfl,rfl,trivial⟩ fun fr=>?_
         conv=>whnf
         refine ⟨(m - 1).toNat,by omega,some [0,1,2,3],?_⟩
         conv=>whnf
         exact ⟨ks++[kd],some (b2,c2),_,p+1,m - 1,rfl,⟨by omega,by omega⟩,hK2,by rw [List.length_append,List.length_singleton]; omega,snoc_S hks hkl,by omega,⟨rfl,rfl,rfl,rfl,hwm,trivial⟩,rfl⟩
     · rw [ltB_f (by omega)]
       conv=>whnf
       have hof2:=hof p [[100,111,99],[115,101,99],[110,111,116,101],[120]] (by omega) (by simp) (by simp)
       refine draw_with hX [(2,.ptr 1 0 0),(5,.ptr 2 0 0),(6,.ptr 3 0 0),(7,.nils)] ⟨rfl,rfl,rfl,rfl,trivial⟩ fun C hC fr=>?_
       conv=>whnf
       refine ⟨[2],false,?_⟩
       conv=>whnf
       refine hof2.mono ?_
       rintro o st' ⟨kd,hkd,rfl,rfl⟩
       have hkl:kd.length≤8:=by
        simp only [List.mem_cons,List.not_mem_nil,or_false] at hkd
        rcases hkd with rfl | rfl | rfl | rfl <;> decide
       conv=>whnf
       repeat' (first
        | (refine And.intro (by (conv=>whnf); rfl) ?_
           conv=>whnf)
        | (refine And.intro ?_ ?_ <;> (conv=>whnf)))
       all_goals
        refine hC _ _ ?_
        conv=>whnf
        refine ⟨[],true,?_⟩
        conv=>whnf
        exact ⟨root,Ls,_,none,kd,ks,es,hK,hSS,hkl,by omega,hks,rfl,rfl⟩
   · conv=>whnf
     refine box_go hA ?_
     conv=>whnf
     by_cases hm:0 < m
     · rw [ltB_t hm]
       have hwm:=hwm.resolve_right (by omega)
       conv=>whnf
       refine box_with hA [(2,.ptr 1 0 0),(5,.ptr 2 0 0),(6,.ptr 3 0 0),(7,.dref b1 ks.length c1),(8,.int .i64 m)] ⟨rfl,rfl,rfl,rfl,rfl,trivial⟩ fun fr=>?_
       conv=>whnf
       refine ⟨[2],false,?_⟩
       conv=>whnf
       refine (hof p [[112,97,114],[110,111,116,101],[115,101,99],[116,105,116,108,101]] (by omega) (by simp) (by simp)).mono ?_
       rintro o st' ⟨kd,hkd,rfl,rfl⟩
       have hkl:kd.length≤8:=by
        simp only [List.mem_cons,List.not_mem_nil,or_false] at hkd
        rcases hkd with rfl | rfl | rfl | rfl <;> decide
       clear hkd
       conv=>whnf
       refine semMore (k:=0) (sz:=1) (by_:=16) (c:=sCells) (h:=some (b1,c1)) (L:=ks) (M:=[kd]) (es:=es) rfl rfl rfl rfl rfl rfl rfl ⟨by omega,by omega⟩ (fun _=>rfl) (by first | rfl | (obtain rfl:ks=[]:=List.map_eq_nil_iff.1 hK.ks; rfl)) rfl hK.ks (.inl rfl) (by rw [List.length_singleton]; omega) (fun _ h=>by cases h) (fun b2 c2 hb=>?_) fun b2 c2 hf=>?_
       · cases hb
         have hK2:=hK.put (ks++[kd])
         conv=>whnf
         refine box_with hA [(2,.ptr 1 0 0),(5,.ptr 2 0 0),(6,.ptr 3 0 0),(7,.dref b1 (ks++[kd]).length c1),(8,.int .i64 m)] ⟨rfl,rfl,rfl,rfl,rfl,trivial⟩ fun fr=>?_
         conv=>whnf
         refine ⟨(m - 1).toNat,by omega,some [0,1,2,3],?_⟩
         conv=>whnf
         exact ⟨ks++[kd],some (b1,c1),_,p+1,m - 1,rfl,⟨by omega,by omega⟩,hK2,by rw [List.length_append,List.length_singleton]; omega,snoc_S hks hkl,by omega,⟨rfl,rfl,rfl,rfl,hwm,trivial⟩,rfl⟩
       · have hK2:=hK.new (c:=c2) (ks++[kd]) hf
         conv=>whnf
         refine box_with hA [(2,.ptr 1 0 0),(5,.ptr 2 0 0),(6,.ptr 3 0 0),(7,.dref b2 (ks++[kd]).length c2),(8,.int .i64 m)] ⟨rfl,rfl,rfl,rfl,rfl,trivial⟩ fun fr=>?_
         conv=>whnf
         refine ⟨(m - 1).toNat,by omega,some [0,1,2,3],?_⟩
         conv=>whnf
         exact ⟨ks++[kd],some (b2,c2),_,p+1,m - 1,rfl,⟨by omega,by omega⟩,hK2,by rw [List.length_append,List.length_singleton]; omega,snoc_S hks hkl,by omega,⟨rfl,rfl,rfl,rfl,hwm,trivial⟩,rfl⟩
     · rw [ltB_f (by omega)]
       conv=>whnf
       have hof2:=hof p [[100,111,99],[115,101,99],[110,111,116,101],[120]] (by omega) (by simp) (by simp)
       refine draw_with hX [(2,.ptr 1 0 0),(5,.ptr 2 0 0),(6,.ptr 3 0 0),(7,.dref b1 ks.length c1)] ⟨rfl,rfl,rfl,rfl,trivial⟩ fun C hC fr=>?_
       conv=>whnf
       refine ⟨[2],false,?_⟩
       conv=>whnf
       refine hof2.mono ?_
       rintro o st' ⟨kd,hkd,rfl,rfl⟩
       have hkl:kd.length≤8:=by
        simp only [List.mem_cons,List.not_mem_nil,or_false] at hkd
        rcases hkd with rfl | rfl | rfl | rfl <;> decide
       conv=>whnf
       repeat' (first
        | (refine And.intro (by (conv=>whnf); rfl) ?_
           conv=>whnf)
        | (refine And.intro ?_ ?_ <;> (conv=>whnf)))
       all_goals
        refine hC _ _ ?_
        conv=>whnf
        refine ⟨[],true,?_⟩
        conv=>whnf
        exact ⟨root,Ls,_,some (b1,c1),kd,ks,es,hK,hSS,hkl,by omega,hks,rfl,rfl⟩
 · rw [eqB_f z2]
   conv=>whnf
   have hpos:=hSS.2.1
   rw [show (Sc.mk root (Ls.map LR.ru)).rules.length=Ls.length from List.length_map ..] at hpos
   refine draw_with hX [(2,.ptr 1 0 0),(5,.ptr 2 0 0),(6,.ptr 3 0 0),(7,.nils)] ⟨rfl,rfl,rfl,rfl,trivial⟩ fun C hC fr=>?_
   have hC2:∀ fr (L:LR) p',L∈Ls→(0≤p'∧p'≤100)→Holds fr [(2,.ptr 1 0 0),(5,.ptr 2 0 0),(6,.ptr 3 0 0),(7,.nils),(9,.ptr 4 0 0)]→C fr [poolO es,scBox [] .nils,rdO bs' p',scBox root (.dref b Ls.length c),⟨[L.cells],3,true,true,true,.cell⟩]:=by
    intro fr L p' hL hp' hh
    obtain ⟨fr,rfl⟩:=hh.split
    refine hC _ _ ?_
    clear hC hh
    obtain ⟨qk,qt,qs,gi⟩:=L
    have hqq:qs.length≤4∧∀ x∈qs,x.kind.length≤8:=by
     obtain ⟨h1,h2,h3⟩:=hSS.2.2.2 _ (List.mem_map_of_mem (f:=LR.ru) hL)
     exact ⟨h2,h3⟩
    have hqk:qk.length≤8:=(hSS.2.2.2 _ (List.mem_map_of_mem (f:=LR.ru) hL)).1
    have hqs:=hqq
    conv=>whnf
    refine box_with hA [(2,.ptr 1 0 0),(5,.ptr 2 0 0),(6,.ptr 3 0 0),(7,.nils),(9,.ptr 4 0 0)] ⟨rfl,rfl,rfl,rfl,rfl,trivial⟩ fun fr=>?_
    conv=>whnf
    rcases gi with _ | ⟨bi,ci⟩
    · have hq0:qs=[]:=List.map_eq_nil_iff.1 (hK.sc.kids _ hL)
      subst hq0
      refine loop_drop (fun n fr st=>∃ (i:Nat) (ks:Ks) (g:Option (Nat × Nat)) (es:List (List V)) (p:Int),n+i=([]:List It).length∧KsIn es (some (b,c)) Ls g ks∧ks.length≤4*i∧KsS ks∧(0≤p∧p≤200+10*i) ∧
        Holds fr [(2,.ptr 1 0 0),(5,.ptr 2 0 0),(6,.ptr 3 0 0),(7,hdV g ks.length),(9,.ptr 4 0 0),(10,.int .i64 i)]∧st=[poolO es,scBox [] .nils,rdO bs' p,scBox root (.dref b Ls.length c),⟨[[.str qk,.bool qt,.nils]],3,true,true,true,.cell⟩]) ([]:List It).length none ?_ ?_
      · exact ⟨0,[],none,es,p',rfl,hK,by simp,(fun _ h=>by cases h),by omega,⟨rfl,rfl,rfl,rfl,rfl,rfl,trivial⟩,rfl⟩
      clear hK hp'
      rintro n fr st ⟨i,ks,g,es,p,hi,hK,hkn,hks,hp,hh,rfl⟩
      obtain ⟨fr,rfl⟩:=hh.split
      clear hh
      conv=>whnf
      refine box_go hA ?_
      conv=>whnf
      rw [ltB_f (by simp)]
      rcases g with _ | ⟨b1,c1⟩
      · obtain rfl:ks=[]:=List.map_eq_nil_iff.1 hK.ks
        conv=>whnf
        refine box_with hA [(2,.ptr 1 0 0),(5,.ptr 2 0 0),(6,.ptr 3 0 0),(7,.nils),(9,.ptr 4 0 0)] ⟨rfl,rfl,rfl,rfl,rfl,trivial⟩ fun fr=>?_
        conv=>whnf
        refine ⟨[2],false,?_⟩
        conv=>whnf
        refine (hpk 4 p (by omega)).mono ?_
        rintro o st' ⟨z,z0,z1,rfl,rfl⟩
        conv=>whnf
        by_cases hz:z=0
        · rw [eqB_t hz]
          conv=>whnf
          rw [ltB_f (by decide)]
          conv=>whnf
          refine draw_with hX [(2,.ptr 1 0 0),(5,.ptr 2 0 0),(6,.ptr 3 0 0),(7,.nils),(9,.ptr 4 0 0)] ⟨rfl,rfl,rfl,rfl,rfl,trivial⟩ fun C hC fr=>?_
          conv=>whnf
          repeat' (first
           | (refine And.intro (by (conv=>whnf); rfl) ?_
              conv=>whnf)
           | (refine And.intro ?_ ?_ <;> (conv=>whnf)))
          all_goals
           refine hC _ _ ?_
           conv=>whnf
           refine ⟨[],true,?_⟩
           conv=>whnf
           exact ⟨root,Ls,_,none,qk,[],es,hK,hSS,hqk,by simp,hks,rfl,rfl⟩
        · rw [eqB_f hz]
          conv=>whnf
          refine draw_with hX [(2,.ptr 1 0 0),(5,.ptr 2 0 0),(6,.ptr 3 0 0),(7,.nils),(9,.ptr 4 0 0)] ⟨rfl,rfl,rfl,rfl,rfl,trivial⟩ fun C hC fr=>?_
          conv=>whnf
          repeat' (first
           | (refine And.intro (by (conv=>whnf); rfl) ?_
              conv=>whnf)
           | (refine And.intro ?_ ?_ <;> (conv=>whnf)))
          all_goals
           refine hC _ _ ?_
           conv=>whnf
           refine ⟨[],true,?_⟩
           conv=>whnf
           exact ⟨root,Ls,_,none,qk,[],es,hK,hSS,hqk,by simp,hks,rfl,rfl⟩
      · conv=>whnf
        refine box_with hA [(2,.ptr 1 0 0),(5,.ptr 2 0 0),(6,.ptr 3 0 0),(7,.dref b1 ks.length c1),(9,.ptr 4 0 0)] ⟨rfl,rfl,rfl,rfl,rfl,trivial⟩ fun fr=>?_
        conv=>whnf
        refine ⟨[2],false,?_⟩
        conv=>whnf
        refine (hpk 4 p (by omega)).mono ?_
        rintro o st' ⟨z,z0,z1,rfl,rfl⟩
        conv=>whnf
        by_cases hz:z=0
        · rw [eqB_t hz]
          conv=>whnf
          by_cases hl0:0 < ks.length
          · rw [ltB_t (by omega)]
            conv=>whnf
            refine box_with hA [(2,.ptr 1 0 0),(5,.ptr 2 0 0),(6,.ptr 3 0 0),(7,.dref b1 ks.length c1),(9,.ptr 4 0 0)] ⟨rfl,rfl,rfl,rfl,rfl,trivial⟩ fun fr=>?_
            conv=>whnf
            refine ⟨[2],false,?_⟩
            conv=>whnf
            refine (hpk ks.length (p+1) (by omega)).mono ?_
            rintro o st' ⟨y,y0,y1,rfl,rfl⟩
            have y1:=y1 (by omega)
            obtain ⟨y,rfl⟩:∃ j:Nat,y=j:=⟨y.toNat,by omega⟩
            have hy:y < ks.length:=by omega
            have hyg:(rws sCells ks)[y]? = some (sCells ks[y]):=by simp [rws,hy]
            conv=>whnf
            refine ⟨by omega,by omega,?_⟩
            conv=>whnf
            refine ⟨0,c1,_,_,putEnt b1 (rws sCells (ks.set y [112,97,114])) es,hK.ks,hyg,by rw [rws,List.map_set]; rfl,?_⟩
            conv=>whnf
            have hK3:=hK.put (ks.set y [112,97,114])
            have hks3:KsS (ks.set y [112,97,114]):=fun x hx=>by
             rcases List.mem_or_eq_of_mem_set hx with hx | rfl
             · exact hks x hx
             · decide
            refine draw_with hX [(2,.ptr 1 0 0),(5,.ptr 2 0 0),(6,.ptr 3 0 0),(7,.dref b1 ks.length c1),(9,.ptr 4 0 0)] ⟨rfl,rfl,rfl,rfl,rfl,trivial⟩ fun C hC fr=>?_
            conv=>whnf
            repeat' (first
             | (refine And.intro (by (conv=>whnf); rfl) ?_
                conv=>whnf)
             | (refine And.intro ?_ ?_ <;> (conv=>whnf)))
            all_goals
             refine hC _ _ ?_
             conv=>whnf
             refine ⟨[],true,?_⟩
             conv=>whnf
             rw [← (List.length_set ..:(ks.set y [112,97,114]).length=ks.length)]
             exact ⟨root,Ls,_,some (b1,c1),qk,ks.set y [112,97,114],_,hK3,hSS,hqk,by rw [List.length_set]; omega,hks3,rfl,rfl⟩
          · rw [ltB_f (by omega)]
            conv=>whnf
            refine draw_with hX [(2,.ptr 1 0 0),(5,.ptr 2 0 0),(6,.ptr 3 0 0),(7,.dref b1 ks.length c1),(9,.ptr 4 0 0)] ⟨rfl,rfl,rfl,rfl,rfl,trivial⟩ fun C hC fr=>?_
            conv=>whnf
            repeat' (first
             | (refine And.intro (by (conv=>whnf); rfl) ?_
                conv=>whnf)
             | (refine And.intro ?_ ?_ <;> (conv=>whnf)))
            all_goals
             refine hC _ _ ?_
             conv=>whnf
             refine ⟨[],true,?_⟩
             conv=>whnf
             exact ⟨root,Ls,_,some (b1,c1),qk,ks,es,hK,hSS,hqk,by omega,hks,rfl,rfl⟩
        · rw [eqB_f hz]
          conv=>whnf
          refine draw_with hX [(2,.ptr 1 0 0),(5,.ptr 2 0 0),(6,.ptr 3 0 0),(7,.dref b1 ks.length c1),(9,.ptr 4 0 0)] ⟨rfl,rfl,rfl,rfl,rfl,trivial⟩ fun C hC fr=>?_
          conv=>whnf
          repeat' (first
           | (refine And.intro (by (conv=>whnf); rfl) ?_
              conv=>whnf)
           | (refine And.intro ?_ ?_ <;> (conv=>whnf)))
          all_goals
           refine hC _ _ ?_
           conv=>whnf
           refine ⟨[],true,?_⟩
           conv=>whnf
           exact ⟨root,Ls,_,some (b1,c1),qk,ks,es,hK,hSS,hqk,by omega,hks,rfl,rfl⟩
    · skip
      refine loop_drop (fun n fr st=>∃ (i:Nat) (ks:Ks) (g:Option (Nat × Nat)) (es:List (List V)) (p:Int),n+i=qs.length∧KsIn es (some (b,c)) Ls g ks∧ks.length≤4*i∧KsS ks∧(0≤p∧p≤200+10*i) ∧
        Holds fr [(2,.ptr 1 0 0),(5,.ptr 2 0 0),(6,.ptr 3 0 0),(7,hdV g ks.length),(9,.ptr 4 0 0),(10,.int .i64 i)]∧st=[poolO es,scBox [] .nils,rdO bs' p,scBox root (.dref b Ls.length c),⟨[[.str qk,.bool qt,.dref bi qs.length ci]],3,true,true,true,.cell⟩]) qs.length none ?_ ?_
      · exact ⟨0,[],none,es,p',rfl,hK,by simp,(fun _ h=>by cases h),by omega,⟨rfl,rfl,rfl,rfl,rfl,rfl,trivial⟩,rfl⟩
      clear hK hp'
      rintro n fr st ⟨i,ks,g,es,p,hi,hK,hkn,hks,hp,hh,rfl⟩
      obtain ⟨fr,rfl⟩:=hh.split
      clear hh
      conv=>whnf
      refine box_go hA ?_
      conv=>whnf
      by_cases hlt:i < qs.length
      · rw [ltB_t (by omega)]
        conv=>whnf
        have hin:ent bi ci 3 (rws It.cells qs)∈es:=hK.sc.kids _ hL
        have hgI:=rws_get It.cells qs i hlt
        have hik:qs[i].kind.length≤8:=hqs.2 _ (List.getElem_mem hlt)
        have hwi:V.int .i64 (IntKind.i64.wrap ((i:Int)+1))=.int .i64 ((i+1:Nat):Int):=by rw [wrap64 (by omega) (by omega)]; simp
        generalize qs[i]=it at hgI hik
        obtain ⟨ik,imany,imay⟩:=it
        refine box_with hA [(2,.ptr 1 0 0),(5,.ptr 2 0 0),(6,.ptr 3 0 0),(7,hdV g ks.length),(9,.ptr 4 0 0),(10,.int .i64 i)] ⟨rfl,rfl,rfl,rfl,rfl,rfl,trivial⟩ fun fr=>?_
        conv=>whnf
        refine box_with hA [(2,.ptr 1 0 0),(5,.ptr 2 0 0),(6,.ptr 3 0 0),(7,hdV g ks.length),(9,.ptr 4 0 0),(10,.int .i64 i),(11,.int .i64 1)] ⟨rfl,rfl,rfl,rfl,rfl,rfl,rfl,trivial⟩ fun fr=>?_
        conv=>whnf
        refine ⟨by omega,by omega,?_⟩
        conv=>whnf
        refine ⟨0,ci,_,_,hin,hgI,?_⟩
        conv=>whnf
        cases imay
        · conv=>whnf
          refine box_with hA [(2,.ptr 1 0 0),(5,.ptr 2 0 0),(6,.ptr 3 0 0),(7,hdV g ks.length),(9,.ptr 4 0 0),(10,.int .i64 i),(11,.int .i64 1)] ⟨rfl,rfl,rfl,rfl,rfl,rfl,rfl,trivial⟩ fun fr=>?_
          conv=>whnf
          refine ⟨by omega,by omega,?_⟩
          conv=>whnf
          refine ⟨0,ci,_,_,hin,hgI,?_⟩
          conv=>whnf
          cases imany
          · conv=>whnf
            refine loop_drop (fun n3 fr st=>∃ (ks:Ks) (g:Option (Nat × Nat)) (es:List (List V)) (p m:Int),n3=m.toNat∧(0≤m∧m≤3)∧KsIn es (some (b,c)) Ls g ks∧ks.length+m≤4*i+3∧KsS ks∧(0≤p∧p≤200+10*i+2) ∧
              Holds fr [(2,.ptr 1 0 0),(5,.ptr 2 0 0),(6,.ptr 3 0 0),(7,hdV g ks.length),(9,.ptr 4 0 0),(10,.int .i64 i),(11,.int .i64 m)]∧st=[poolO es,scBox [] .nils,rdO bs' p,scBox root (.dref b Ls.length c),⟨[[.str qk,.bool qt,.dref bi qs.length ci]],3,true,true,true,.cell⟩]) (1:Int).toNat none ?_ ?_
            · exact ⟨ks,g,es,p,1,rfl,⟨by omega,by omega⟩,hK,by omega,hks,by omega,⟨rfl,rfl,rfl,rfl,rfl,rfl,rfl,trivial⟩,rfl⟩
            clear hK hp hkn hks
            rintro n3 fr st ⟨ks,g,es,p,m,rfl,m1,hK,hkn,hks,hp,hh,rfl⟩
            obtain ⟨fr,rfl⟩:=hh.split
            clear hh
            have hwm:V.int .i64 (IntKind.i64.wrap (m - 1))=.int .i64 (m - 1)∨m≤0:=by
             by_cases h:0 < m
             · rw [wrap64 (by omega) (by omega)]; exact .inl rfl
             · exact .inr (by omega)
            rcases g with _ | ⟨b1,c1⟩
            · conv=>whnf
              refine box_go hA ?_
              conv=>whnf
              by_cases hm:0 < m
              · rw [ltB_t hm]
                have hwm:=hwm.resolve_right (by omega)
                have hin:ent bi ci 3 (rws It.cells qs)∈es:=hK.sc.kids _ hL
                conv=>whnf
                refine box_with hA [(2,.ptr 1 0 0),(5,.ptr 2 0 0),(6,.ptr 3 0 0),(7,.nils),(9,.ptr 4 0 0),(10,.int .i64 i),(11,.int .i64 m)] ⟨rfl,rfl,rfl,rfl,rfl,rfl,rfl,trivial⟩ fun fr=>?_
                conv=>whnf
                refine ⟨by omega,by omega,?_⟩
                conv=>whnf
                refine ⟨0,ci,_,_,hin,hgI,?_⟩
                conv=>whnf
                refine semMore (k:=0) (sz:=1) (by_:=16) (c:=sCells) (h:=none) (L:=ks) (M:=[ik]) (es:=es) rfl rfl rfl rfl rfl rfl rfl ⟨by omega,by omega⟩ (fun _=>rfl) (by first | rfl | (obtain rfl:ks=[]:=List.map_eq_nil_iff.1 hK.ks; rfl)) rfl hK.ks (.inl rfl) (by rw [List.length_singleton]; omega) (fun _ h=>by cases h) (fun b2 c2 hb=>?_) fun b2 c2 hf=>?_
                · cases hb
                · have hK2:=hK.new (c:=c2) (ks++[ik]) hf
                  conv=>whnf
                  refine box_with hA [(2,.ptr 1 0 0),(5,.ptr 2 0 0),(6,.ptr 3 0 0),(7,.dref b2 (ks++[ik]).length c2),(9,.ptr 4 0 0),(10,.int .i64 i),(11,.int .i64 m)] ⟨rfl,rfl,rfl,rfl,rfl,rfl,rfl,trivial⟩ fun fr=>?_
                  conv=>whnf
                  refine ⟨(m - 1).toNat,by omega,some [0,1,2,3,4],?_⟩
                  conv=>whnf
                  exact ⟨ks++[ik],some (b2,c2),_,p,m - 1,rfl,⟨by omega,by omega⟩,hK2,by rw [List.length_append,List.length_singleton]; omega,snoc_S hks hik,by omega,⟨rfl,rfl,rfl,rfl,rfl,rfl,hwm,trivial⟩,rfl⟩
              · rw [ltB_f (by omega)]
                conv=>whnf
                refine box_with hA [(2,.ptr 1 0 0),(5,.ptr 2 0 0),(6,.ptr 3 0 0),(7,.nils),(9,.ptr 4 0 0),(10,.int .i64 i)] ⟨rfl,rfl,rfl,rfl,rfl,rfl,trivial⟩ fun fr=>?_
                conv=>whnf
                refine ⟨n - 1,by omega,some [0,1,2,3,4],?_⟩
                conv=>whnf
                exact ⟨i+1,ks,none,es,p,by omega,hK,by omega,hks,by omega,⟨rfl,rfl,rfl,rfl,rfl,hwi,trivial⟩,rfl⟩
            · conv=>whnf
              refine box_go hA ?_
              conv=>whnf
              by_cases hm:0 < m
              · rw [ltB_t hm]
                have hwm:=hwm.resolve_right (by omega)
                have hin:ent bi ci 3 (rws It.cells qs)∈es:=hK.sc.kids _ hL
                conv=>whnf
                refine box_with hA [(2,.ptr 1 0 0),(5,.ptr 2 0 0),(6,.ptr 3 0 0),(7,.dref b1 ks.length c1),(9,.ptr 4 0 0),(10,.int .i64 i),(11,.int .i64 m)] ⟨rfl,rfl,rfl,rfl,rfl,rfl,rfl,trivial⟩ fun fr=>?_
                conv=>whnf
                refine ⟨by omega,by omega,?_⟩
                conv=>whnf
                refine ⟨0,ci,_,_,hin,hgI,?_⟩
                conv=>whnf
                refine semMore (k:=0) (sz:=1) (by_:=16) (c:=sCells) (h:=some (b1,c1)) (L:=ks) (M:=[ik]) (es:=es) rfl rfl rfl rfl rfl rfl rfl ⟨by omega,by omega⟩ (fun _=>rfl) (by first | rfl | (obtain rfl:ks=[]:=List.map_eq_nil_iff.1 hK.ks; rfl)) rfl hK.ks (.inl rfl) (by rw [List.length_singleton]; omega) (fun _ h=>by cases h) (fun b2 c2 hb=>?_) fun b2 c2 hf=>?_
                · cases hb
                  have hK2:=hK.put (ks++[ik])
                  conv=>whnf
                  refine box_with hA [(2,.ptr 1 0 0),(5,.ptr 2 0 0),(6,.ptr 3 0 0),(7,.dref b1 (ks++[ik]).length c1),(9,.ptr 4 0 0),(10,.int .i64 i),(11,.int .i64 m)] ⟨rfl,rfl,rfl,rfl,rfl,rfl,rfl,trivial⟩ fun fr=>?_
                  conv=>whnf
                  refine ⟨(m - 1).toNat,by omega,some [0,1,2,3,4],?_⟩
                  conv=>whnf
                  exact ⟨ks++[ik],some (b1,c1),_,p,m - 1,rfl,⟨by omega,by omega⟩,hK2,by rw [List.length_append,List.length_singleton]; omega,snoc_S hks hik,by omega,⟨rfl,rfl,rfl,rfl,rfl,rfl,hwm,trivial⟩,rfl⟩
                · have hK2:=hK.new (c:=c2) (ks++[ik]) hf
                  conv=>whnf
                  refine box_with hA [(2,.ptr 1 0 0),(5,.ptr 2 0 0),(6,.ptr 3 0 0),(7,.dref b2 (ks++[ik]).length c2),(9,.ptr 4 0 0),(10,.int .i64 i),(11,.int .i64 m)] ⟨rfl,rfl,rfl,rfl,rfl,rfl,rfl,trivial⟩ fun fr=>?_
                  conv=>whnf
                  refine ⟨(m - 1).toNat,by omega,some [0,1,2,3,4],?_⟩
                  conv=>whnf
                  exact ⟨ks++[ik],some (b2,c2),_,p,m - 1,rfl,⟨by omega,by omega⟩,hK2,by rw [List.length_append,List.length_singleton]; omega,snoc_S hks hik,by omega,⟨rfl,rfl,rfl,rfl,rfl,rfl,hwm,trivial⟩,rfl⟩
              · rw [ltB_f (by omega)]
                conv=>whnf
                refine box_with hA [(2,.ptr 1 0 0),(5,.ptr 2 0 0),(6,.ptr 3 0 0),(7,.dref b1 ks.length c1),(9,.ptr 4 0 0),(10,.int .i64 i)] ⟨rfl,rfl,rfl,rfl,rfl,rfl,trivial⟩ fun fr=>?_
                conv=>whnf
                refine ⟨n - 1,by omega,some [0,1,2,3,4],?_⟩
                conv=>whnf
                exact ⟨i+1,ks,some (b1,c1),es,p,by omega,hK,by omega,hks,by omega,⟨rfl,rfl,rfl,rfl,rfl,hwi,trivial⟩,rfl⟩
          · conv=>whnf
            refine box_with hA [(2,.ptr 1 0 0),(5,.ptr 2 0 0),(6,.ptr 3 0 0),(7,hdV g ks.length),(9,.ptr 4 0 0),(10,.int .i64 i),(11,.int .i64 1)] ⟨rfl,rfl,rfl,rfl,rfl,rfl,rfl,trivial⟩ fun fr=>?_
            conv=>whnf
            refine ⟨[2],false,?_⟩
            conv=>whnf
            refine (hpk 4 (p) (by omega)).mono ?_
            rintro o st' ⟨m,m0,m1,rfl,rfl⟩
            have m1:=m1 (by omega)
            conv=>whnf
            refine loop_drop (fun n3 fr st=>∃ (ks:Ks) (g:Option (Nat × Nat)) (es:List (List V)) (p m:Int),n3=m.toNat∧(0≤m∧m≤3)∧KsIn es (some (b,c)) Ls g ks∧ks.length+m≤4*i+3∧KsS ks∧(0≤p∧p≤200+10*i+2) ∧
              Holds fr [(2,.ptr 1 0 0),(5,.ptr 2 0 0),(6,.ptr 3 0 0),(7,hdV g ks.length),(9,.ptr 4 0 0),(10,.int .i64 i),(11,.int .i64 m)]∧st=[poolO es,scBox [] .nils,rdO bs' p,scBox root (.dref b Ls.length c),⟨[[.str qk,.bool qt,.dref bi qs.length ci]],3,true,true,true,.cell⟩]) m.toNat none ?_ ?_
            · exact ⟨ks,g,es,p+1,m,rfl,⟨by omega,by omega⟩,hK,by omega,hks,by omega,⟨rfl,rfl,rfl,rfl,rfl,rfl,rfl,trivial⟩,rfl⟩
            clear hK hp hkn hks
            rintro n3 fr st ⟨ks,g,es,p,m,rfl,m1,hK,hkn,hks,hp,hh,rfl⟩
            obtain ⟨fr,rfl⟩:=hh.split
            clear hh
            have hwm:V.int .i64 (IntKind.i64.wrap (m - 1))=.int .i64 (m - 1)∨m≤0:=by
             by_cases h:0 < m
             · rw [wrap64 (by omega) (by omega)]; exact .inl rfl
             · exact .inr (by omega)
            rcases g with _ | ⟨b1,c1⟩
            · conv=>whnf
              refine box_go hA ?_
              conv=>whnf
              by_cases hm:0 < m
              · rw [ltB_t hm]
                have hwm:=hwm.resolve_right (by omega)
                have hin:ent bi ci 3 (rws It.cells qs)∈es:=hK.sc.kids _ hL
                conv=>whnf
                refine box_with hA [(2,.ptr 1 0 0),(5,.ptr 2 0 0),(6,.ptr 3 0 0),(7,.nils),(9,.ptr 4 0 0),(10,.int .i64 i),(11,.int .i64 m)] ⟨rfl,rfl,rfl,rfl,rfl,rfl,rfl,trivial⟩ fun fr=>?_
                conv=>whnf
                refine ⟨by omega,by omega,?_⟩
                conv=>whnf
                refine ⟨0,ci,_,_,hin,hgI,?_⟩
                conv=>whnf
                refine semMore (k:=0) (sz:=1) (by_:=16) (c:=sCells) (h:=none) (L:=ks) (M:=[ik]) (es:=es) rfl rfl rfl rfl rfl rfl rfl ⟨by omega,by omega⟩ (fun _=>rfl) (by first | rfl | (obtain rfl:ks=[]:=List.map_eq_nil_iff.1 hK.ks; rfl)) rfl hK.ks (.inl rfl) (by rw [List.length_singleton]; omega) (fun _ h=>by cases h) (fun b2 c2 hb=>?_) fun b2 c2 hf=>?_
                · cases hb
                · have hK2:=hK.new (c:=c2) (ks++[ik]) hf
                  conv=>whnf
                  refine box_with hA [(2,.ptr 1 0 0),(5,.ptr 2 0 0),(6,.ptr 3 0 0),(7,.dref b2 (ks++[ik]).length c2),(9,.ptr 4 0 0),(10,.int .i64 i),(11,.int .i64 m)] ⟨rfl,rfl,rfl,rfl,rfl,rfl,rfl,trivial⟩ fun fr=>?_
                  conv=>whnf
                  refine ⟨(m - 1).toNat,by omega,some [0,1,2,3,4],?_⟩
                  conv=>whnf
                  exact ⟨ks++[ik],some (b2,c2),_,p,m - 1,rfl,⟨by omega,by omega⟩,hK2,by rw [List.length_append,List.length_singleton]; omega,snoc_S hks hik,by omega,⟨rfl,rfl,rfl,rfl,rfl,rfl,hwm,trivial⟩,rfl⟩
              · rw [ltB_f (by omega)]
                conv=>whnf
                refine box_with hA [(2,.ptr 1 0 0),(5,.ptr 2 0 0),(6,.ptr 3 0 0),(7,.nils),(9,.ptr 4 0 0),(10,.int .i64 i)] ⟨rfl,rfl,rfl,rfl,rfl,rfl,trivial⟩ fun fr=>?_
                conv=>whnf
                refine ⟨n - 1,by omega,some [0,1,2,3,4],?_⟩
                conv=>whnf
                exact ⟨i+1,ks,none,es,p,by omega,hK,by omega,hks,by omega,⟨rfl,rfl,rfl,rfl,rfl,hwi,trivial⟩,rfl⟩
            · conv=>whnf
              refine box_go hA ?_
              conv=>whnf
              by_cases hm:0 < m
              · rw [ltB_t hm]
                have hwm:=hwm.resolve_right (by omega)
                have hin:ent bi ci 3 (rws It.cells qs)∈es:=hK.sc.kids _ hL
                conv=>whnf
                refine box_with hA [(2,.ptr 1 0 0),(5,.ptr 2 0 0),(6,.ptr 3 0 0),(7,.dref b1 ks.length c1),(9,.ptr 4 0 0),(10,.int .i64 i),(11,.int .i64 m)] ⟨rfl,rfl,rfl,rfl,rfl,rfl,rfl,trivial⟩ fun fr=>?_
                conv=>whnf
                refine ⟨by omega,by omega,?_⟩
                conv=>whnf
                refine ⟨0,ci,_,_,hin,hgI,?_⟩
                conv=>whnf
                refine semMore (k:=0) (sz:=1) (by_:=16) (c:=sCells) (h:=some (b1,c1)) (L:=ks) (M:=[ik]) (es:=es) rfl rfl rfl rfl rfl rfl rfl ⟨by omega,by omega⟩ (fun _=>rfl) (by first | rfl | (obtain rfl:ks=[]:=List.map_eq_nil_iff.1 hK.ks; rfl)) rfl hK.ks (.inl rfl) (by rw [List.length_singleton]; omega) (fun _ h=>by cases h) (fun b2 c2 hb=>?_) fun b2 c2 hf=>?_
                · cases hb
                  have hK2:=hK.put (ks++[ik])
                  conv=>whnf
                  refine box_with hA [(2,.ptr 1 0 0),(5,.ptr 2 0 0),(6,.ptr 3 0 0),(7,.dref b1 (ks++[ik]).length c1),(9,.ptr 4 0 0),(10,.int .i64 i),(11,.int .i64 m)] ⟨rfl,rfl,rfl,rfl,rfl,rfl,rfl,trivial⟩ fun fr=>?_
                  conv=>whnf
                  refine ⟨(m - 1).toNat,by omega,some [0,1,2,3,4],?_⟩
                  conv=>whnf
                  exact ⟨ks++[ik],some (b1,c1),_,p,m - 1,rfl,⟨by omega,by omega⟩,hK2,by rw [List.length_append,List.length_singleton]; omega,snoc_S hks hik,by omega,⟨rfl,rfl,rfl,rfl,rfl,rfl,hwm,trivial⟩,rfl⟩
                · have hK2:=hK.new (c:=c2) (ks++[ik]) hf
                  conv=>whnf
                  refine box_with hA [(2,.ptr 1 0 0),(5,.ptr 2 0 0),(6,.ptr 3 0 0),(7,.dref b2 (ks++[ik]).length c2),(9,.ptr 4 0 0),(10,.int .i64 i),(11,.int .i64 m)] ⟨rfl,rfl,rfl,rfl,rfl,rfl,rfl,trivial⟩ fun fr=>?_
                  conv=>whnf
                  refine ⟨(m - 1).toNat,by omega,some [0,1,2,3,4],?_⟩
                  conv=>whnf
                  exact ⟨ks++[ik],some (b2,c2),_,p,m - 1,rfl,⟨by omega,by omega⟩,hK2,by rw [List.length_append,List.length_singleton]; omega,snoc_S hks hik,by omega,⟨rfl,rfl,rfl,rfl,rfl,rfl,hwm,trivial⟩,rfl⟩
              · rw [ltB_f (by omega)]
                conv=>whnf
                refine box_with hA [(2,.ptr 1 0 0),(5,.ptr 2 0 0),(6,.ptr 3 0 0),(7,.dref b1 ks.length c1),(9,.ptr 4 0 0),(10,.int .i64 i)] ⟨rfl,rfl,rfl,rfl,rfl,rfl,trivial⟩ fun fr=>?_
                conv=>whnf
                refine ⟨n - 1,by omega,some [0,1,2,3,4],?_⟩
                conv=>whnf
                exact ⟨i+1,ks,some (b1,c1),es,p,by omega,hK,by omega,hks,by omega,⟨rfl,rfl,rfl,rfl,rfl,hwi,trivial⟩,rfl⟩
        · conv=>whnf
          refine box_with hA [(2,.ptr 1 0 0),(5,.ptr 2 0 0),(6,.ptr 3 0 0),(7,hdV g ks.length),(9,.ptr 4 0 0),(10,.int .i64 i),(11,.int .i64 1)] ⟨rfl,rfl,rfl,rfl,rfl,rfl,rfl,trivial⟩ fun fr=>?_
          conv=>whnf
          refine ⟨[2],false,?_⟩
          conv=>whnf
          refine (hpk 2 (p) (by omega)).mono ?_
          rintro o st' ⟨m,m0,m1,rfl,rfl⟩
          have m1:=m1 (by omega)
          conv=>whnf
          refine box_with hA [(2,.ptr 1 0 0),(5,.ptr 2 0 0),(6,.ptr 3 0 0),(7,hdV g ks.length),(9,.ptr 4 0 0),(10,.int .i64 i),(11,.int .i64 m)] ⟨rfl,rfl,rfl,rfl,rfl,rfl,rfl,trivial⟩ fun fr=>?_
          conv=>whnf
          refine ⟨by omega,by omega,?_⟩
          conv=>whnf
          refine ⟨0,ci,_,_,hin,hgI,?_⟩
          conv=>whnf
          cases imany
          · conv=>whnf
            refine loop_drop (fun n3 fr st=>∃ (ks:Ks) (g:Option (Nat × Nat)) (es:List (List V)) (p m:Int),n3=m.toNat∧(0≤m∧m≤3)∧KsIn es (some (b,c)) Ls g ks∧ks.length+m≤4*i+3∧KsS ks∧(0≤p∧p≤200+10*i+2) ∧
              Holds fr [(2,.ptr 1 0 0),(5,.ptr 2 0 0),(6,.ptr 3 0 0),(7,hdV g ks.length),(9,.ptr 4 0 0),(10,.int .i64 i),(11,.int .i64 m)]∧st=[poolO es,scBox [] .nils,rdO bs' p,scBox root (.dref b Ls.length c),⟨[[.str qk,.bool qt,.dref bi qs.length ci]],3,true,true,true,.cell⟩]) m.toNat none ?_ ?_
            · exact ⟨ks,g,es,p+1,m,rfl,⟨by omega,by omega⟩,hK,by omega,hks,by omega,⟨rfl,rfl,rfl,rfl,rfl,rfl,rfl,trivial⟩,rfl⟩
            clear hK hp hkn hks
            rintro n3 fr st ⟨ks,g,es,p,m,rfl,m1,hK,hkn,hks,hp,hh,rfl⟩
            obtain ⟨fr,rfl⟩:=hh.split
            clear hh
            have hwm:V.int .i64 (IntKind.i64.wrap (m - 1))=.int .i64 (m - 1)∨m≤0:=by
             by_cases h:0 < m
             · rw [wrap64 (by omega) (by omega)]; exact .inl rfl
             · exact .inr (by omega)
            rcases g with _ | ⟨b1,c1⟩
            · conv=>whnf
              refine box_go hA ?_
              conv=>whnf
              by_cases hm:0 < m
              · rw [ltB_t hm]
                have hwm:=hwm.resolve_right (by omega)
                have hin:ent bi ci 3 (rws It.cells qs)∈es:=hK.sc.kids _ hL
                conv=>whnf
                refine box_with hA [(2,.ptr 1 0 0),(5,.ptr 2 0 0),(6,.ptr 3 0 0),(7,.nils),(9,.ptr 4 0 0),(10,.int .i64 i),(11,.int .i64 m)] ⟨rfl,rfl,rfl,rfl,rfl,rfl,rfl,trivial⟩ fun fr=>?_
                conv=>whnf
                refine ⟨by omega,by omega,?_⟩
                conv=>whnf
                refine ⟨0,ci,_,_,hin,hgI,?_⟩
                conv=>whnf
                refine semMore (k:=0) (sz:=1) (by_:=16) (c:=sCells) (h:=none) (L:=ks) (M:=[ik]) (es:=es) rfl rfl rfl rfl rfl rfl rfl ⟨by omega,by omega⟩ (fun _=>rfl) (by first | rfl | (obtain rfl:ks=[]:=List.map_eq_nil_iff.1 hK.ks; rfl)) rfl hK.ks (.inl rfl) (by rw [List.length_singleton]; omega) (fun _ h=>by cases h) (fun b2 c2 hb=>?_) fun b2 c2 hf=>?_
                · cases hb
                · have hK2:=hK.new (c:=c2) (ks++[ik]) hf
                  conv=>whnf
                  refine box_with hA [(2,.ptr 1 0 0),(5,.ptr 2 0 0),(6,.ptr 3 0 0),(7,.dref b2 (ks++[ik]).length c2),(9,.ptr 4 0 0),(10,.int .i64 i),(11,.int .i64 m)] ⟨rfl,rfl,rfl,rfl,rfl,rfl,rfl,trivial⟩ fun fr=>?_
                  conv=>whnf
                  refine ⟨(m - 1).toNat,by omega,some [0,1,2,3,4],?_⟩
                  conv=>whnf
                  exact ⟨ks++[ik],some (b2,c2),_,p,m - 1,rfl,⟨by omega,by omega⟩,hK2,by rw [List.length_append,List.length_singleton]; omega,snoc_S hks hik,by omega,⟨rfl,rfl,rfl,rfl,rfl,rfl,hwm,trivial⟩,rfl⟩
              · rw [ltB_f (by omega)]
                conv=>whnf
                refine box_with hA [(2,.ptr 1 0 0),(5,.ptr 2 0 0),(6,.ptr 3 0 0),(7,.nils),(9,.ptr 4 0 0),(10,.int .i64 i)] ⟨rfl,rfl,rfl,rfl,rfl,rfl,trivial⟩ fun fr=>?_
                conv=>whnf
                refine ⟨n - 1,by omega,some [0,1,2,3,4],?_⟩
                conv=>whnf
                exact ⟨i+1,ks,none,es,p,by omega,hK,by omega,hks,by omega,⟨rfl,rfl,rfl,rfl,rfl,hwi,trivial⟩,rfl⟩
            · conv=>whnf
              refine box_go hA ?_
              conv=>whnf
              by_cases hm:0 < m
              · rw [ltB_t hm]
                have hwm:=hwm.resolve_right (by omega)
                have hin:ent bi ci 3 (rws It.cells qs)∈es:=hK.sc.kids _ hL
                conv=>whnf
                refine box_with hA [(2,.ptr 1 0 0),(5,.ptr 2 0 0),(6,.ptr 3 0 0),(7,.dref b1 ks.length c1),(9,.ptr 4 0 0),(10,.int .i64 i),(11,.int .i64 m)] ⟨rfl,rfl,rfl,rfl,rfl,rfl,rfl,trivial⟩ fun fr=>?_
                conv=>whnf
                refine ⟨by omega,by omega,?_⟩
                conv=>whnf
                refine ⟨0,ci,_,_,hin,hgI,?_⟩
                conv=>whnf
                refine semMore (k:=0) (sz:=1) (by_:=16) (c:=sCells) (h:=some (b1,c1)) (L:=ks) (M:=[ik]) (es:=es) rfl rfl rfl rfl rfl rfl rfl ⟨by omega,by omega⟩ (fun _=>rfl) (by first | rfl | (obtain rfl:ks=[]:=List.map_eq_nil_iff.1 hK.ks; rfl)) rfl hK.ks (.inl rfl) (by rw [List.length_singleton]; omega) (fun _ h=>by cases h) (fun b2 c2 hb=>?_) fun b2 c2 hf=>?_
                · cases hb
                  have hK2:=hK.put (ks++[ik])
                  conv=>whnf
                  refine box_with hA [(2,.ptr 1 0 0),(5,.ptr 2 0 0),(6,.ptr 3 0 0),(7,.dref b1 (ks++[ik]).length c1),(9,.ptr 4 0 0),(10,.int .i64 i),(11,.int .i64 m)] ⟨rfl,rfl,rfl,rfl,rfl,rfl,rfl,trivial⟩ fun fr=>?_
                  conv=>whnf
                  refine ⟨(m - 1).toNat,by omega,some [0,1,2,3,4],?_⟩
                  conv=>whnf
                  exact ⟨ks++[ik],some (b1,c1),_,p,m - 1,rfl,⟨by omega,by omega⟩,hK2,by rw [List.length_append,List.length_singleton]; omega,snoc_S hks hik,by omega,⟨rfl,rfl,rfl,rfl,rfl,rfl,hwm,trivial⟩,rfl⟩
                · have hK2:=hK.new (c:=c2) (ks++[ik]) hf
                  conv=>whnf
                  refine box_with hA [(2,.ptr 1 0 0),(5,.ptr 2 0 0),(6,.ptr 3 0 0),(7,.dref b2 (ks++[ik]).length c2),(9,.ptr 4 0 0),(10,.int .i64 i),(11,.int .i64 m)] ⟨rfl,rfl,rfl,rfl,rfl,rfl,rfl,trivial⟩ fun fr=>?_
                  conv=>whnf
                  refine ⟨(m - 1).toNat,by omega,some [0,1,2,3,4],?_⟩
                  conv=>whnf
                  exact ⟨ks++[ik],some (b2,c2),_,p,m - 1,rfl,⟨by omega,by omega⟩,hK2,by rw [List.length_append,List.length_singleton]; omega,snoc_S hks hik,by omega,⟨rfl,rfl,rfl,rfl,rfl,rfl,hwm,trivial⟩,rfl⟩
              · rw [ltB_f (by omega)]
                conv=>whnf
                refine box_with hA [(2,.ptr 1 0 0),(5,.ptr 2 0 0),(6,.ptr 3 0 0),(7,.dref b1 ks.length c1),(9,.ptr 4 0 0),(10,.int .i64 i)] ⟨rfl,rfl,rfl,rfl,rfl,rfl,trivial⟩ fun fr=>?_
                conv=>whnf
                refine ⟨n - 1,by omega,some [0,1,2,3,4],?_⟩
                conv=>whnf
                exact ⟨i+1,ks,some (b1,c1),es,p,by omega,hK,by omega,hks,by omega,⟨rfl,rfl,rfl,rfl,rfl,hwi,trivial⟩,rfl⟩
          · conv=>whnf
            refine box_with hA [(2,.ptr 1 0 0),(5,.ptr 2 0 0),(6,.ptr 3 0 0),(7,hdV g ks.length),(9,.ptr 4 0 0),(10,.int .i64 i),(11,.int .i64 m)] ⟨rfl,rfl,rfl,rfl,rfl,rfl,rfl,trivial⟩ fun fr=>?_
            conv=>whnf
            refine ⟨[2],false,?_⟩
            conv=>whnf
            refine (hpk 4 (p+1) (by omega)).mono ?_
            rintro o st' ⟨m,m0,m1,rfl,rfl⟩
            have m1:=m1 (by omega)
            conv=>whnf
            refine loop_drop (fun n3 fr st=>∃ (ks:Ks) (g:Option (Nat × Nat)) (es:List (List V)) (p m:Int),n3=m.toNat∧(0≤m∧m≤3)∧KsIn es (some (b,c)) Ls g ks∧ks.length+m≤4*i+3∧KsS ks∧(0≤p∧p≤200+10*i+2) ∧
              Holds fr [(2,.ptr 1 0 0),(5,.ptr 2 0 0),(6,.ptr 3 0 0),(7,hdV g ks.length),(9,.ptr 4 0 0),(10,.int .i64 i),(11,.int .i64 m)]∧st=[poolO es,scBox [] .nils,rdO bs' p,scBox root (.dref b Ls.length c),⟨[[.str qk,.bool qt,.dref bi qs.length ci]],3,true,true,true,.cell⟩]) m.toNat none ?_ ?_
            · exact ⟨ks,g,es,p+1+1,m,rfl,⟨by omega,by omega⟩,hK,by omega,hks,by omega,⟨rfl,rfl,rfl,rfl,rfl,rfl,rfl,trivial⟩,rfl⟩
            clear hK hp hkn hks
            rintro n3 fr st ⟨ks,g,es,p,m,rfl,m1,hK,hkn,hks,hp,hh,rfl⟩
            obtain ⟨fr,rfl⟩:=hh.split
            clear hh
            have hwm:V.int .i64 (IntKind.i64.wrap (m - 1))=.int .i64 (m - 1)∨m≤0:=by
             by_cases h:0 < m
             · rw [wrap64 (by omega) (by omega)]; exact .inl rfl
             · exact .inr (by omega)
            rcases g with _ | ⟨b1,c1⟩
            · conv=>whnf
              refine box_go hA ?_
              conv=>whnf
              by_cases hm:0 < m
              · rw [ltB_t hm]
                have hwm:=hwm.resolve_right (by omega)
                have hin:ent bi ci 3 (rws It.cells qs)∈es:=hK.sc.kids _ hL
                conv=>whnf
                refine box_with hA [(2,.ptr 1 0 0),(5,.ptr 2 0 0),(6,.ptr 3 0 0),(7,.nils),(9,.ptr 4 0 0),(10,.int .i64 i),(11,.int .i64 m)] ⟨rfl,rfl,rfl,rfl,rfl,rfl,rfl,trivial⟩ fun fr=>?_
                conv=>whnf
                refine ⟨by omega,by omega,?_⟩
                conv=>whnf
                refine ⟨0,ci,_,_,hin,hgI,?_⟩
                conv=>whnf
                refine semMore (k:=0) (sz:=1) (by_:=16) (c:=sCells) (h:=none) (L:=ks) (M:=[ik]) (es:=es) rfl rfl rfl rfl rfl rfl rfl ⟨by omega,by omega⟩ (fun _=>rfl) (by first | rfl | (obtain rfl:ks=[]:=List.map_eq_nil_iff.1 hK.ks; rfl)) rfl hK.ks (.inl rfl) (by rw [List.length_singleton]; omega) (fun _ h=>by cases h) (fun b2 c2 hb=>?_) fun b2 c2 hf=>?_
                · cases hb
                · have hK2:=hK.new (c:=c2) (ks++[ik]) hf
                  conv=>whnf
                  refine box_with hA [(2,.ptr 1 0 0),(5,.ptr 2 0 0),(6,.ptr 3 0 0),(7,.dref b2 (ks++[ik]).length c2),(9,.ptr 4 0 0),(10,.int .i64 i),(11,.int .i64 m)] ⟨rfl,rfl,rfl,rfl,rfl,rfl,rfl,trivial⟩ fun fr=>?_
                  conv=>whnf
                  refine ⟨(m - 1).toNat,by omega,some [0,1,2,3,4],?_⟩
                  conv=>whnf
                  exact ⟨ks++[ik],some (b2,c2),_,p,m - 1,rfl,⟨by omega,by omega⟩,hK2,by rw [List.length_append,List.length_singleton]; omega,snoc_S hks hik,by omega,⟨rfl,rfl,rfl,rfl,rfl,rfl,hwm,trivial⟩,rfl⟩
              · rw [ltB_f (by omega)]
                conv=>whnf
                refine box_with hA [(2,.ptr 1 0 0),(5,.ptr 2 0 0),(6,.ptr 3 0 0),(7,.nils),(9,.ptr 4 0 0),(10,.int .i64 i)] ⟨rfl,rfl,rfl,rfl,rfl,rfl,trivial⟩ fun fr=>?_
                conv=>whnf
                refine ⟨n - 1,by omega,some [0,1,2,3,4],?_⟩
                conv=>whnf
                exact ⟨i+1,ks,none,es,p,by omega,hK,by omega,hks,by omega,⟨rfl,rfl,rfl,rfl,rfl,hwi,trivial⟩,rfl⟩
            · conv=>whnf
              refine box_go hA ?_
              conv=>whnf
              by_cases hm:0 < m
              · rw [ltB_t hm]
                have hwm:=hwm.resolve_right (by omega)
                have hin:ent bi ci 3 (rws It.cells qs)∈es:=hK.sc.kids _ hL
                conv=>whnf
                refine box_with hA [(2,.ptr 1 0 0),(5,.ptr 2 0 0),(6,.ptr 3 0 0),(7,.dref b1 ks.length c1),(9,.ptr 4 0 0),(10,.int .i64 i),(11,.int .i64 m)] ⟨rfl,rfl,rfl,rfl,rfl,rfl,rfl,trivial⟩ fun fr=>?_
                conv=>whnf
                refine ⟨by omega,by omega,?_⟩
                conv=>whnf
                refine ⟨0,ci,_,_,hin,hgI,?_⟩
                conv=>whnf
                refine semMore (k:=0) (sz:=1) (by_:=16) (c:=sCells) (h:=some (b1,c1)) (L:=ks) (M:=[ik]) (es:=es) rfl rfl rfl rfl rfl rfl rfl ⟨by omega,by omega⟩ (fun _=>rfl) (by first | rfl | (obtain rfl:ks=[]:=List.map_eq_nil_iff.1 hK.ks; rfl)) rfl hK.ks (.inl rfl) (by rw [List.length_singleton]; omega) (fun _ h=>by cases h) (fun b2 c2 hb=>?_) fun b2 c2 hf=>?_
                · cases hb
                  have hK2:=hK.put (ks++[ik])
                  conv=>whnf
                  refine box_with hA [(2,.ptr 1 0 0),(5,.ptr 2 0 0),(6,.ptr 3 0 0),(7,.dref b1 (ks++[ik]).length c1),(9,.ptr 4 0 0),(10,.int .i64 i),(11,.int .i64 m)] ⟨rfl,rfl,rfl,rfl,rfl,rfl,rfl,trivial⟩ fun fr=>?_
                  conv=>whnf
                  refine ⟨(m - 1).toNat,by omega,some [0,1,2,3,4],?_⟩
                  conv=>whnf
                  exact ⟨ks++[ik],some (b1,c1),_,p,m - 1,rfl,⟨by omega,by omega⟩,hK2,by rw [List.length_append,List.length_singleton]; omega,snoc_S hks hik,by omega,⟨rfl,rfl,rfl,rfl,rfl,rfl,hwm,trivial⟩,rfl⟩
                · have hK2:=hK.new (c:=c2) (ks++[ik]) hf
                  conv=>whnf
                  refine box_with hA [(2,.ptr 1 0 0),(5,.ptr 2 0 0),(6,.ptr 3 0 0),(7,.dref b2 (ks++[ik]).length c2),(9,.ptr 4 0 0),(10,.int .i64 i),(11,.int .i64 m)] ⟨rfl,rfl,rfl,rfl,rfl,rfl,rfl,trivial⟩ fun fr=>?_
                  conv=>whnf
                  refine ⟨(m - 1).toNat,by omega,some [0,1,2,3,4],?_⟩
                  conv=>whnf
                  exact ⟨ks++[ik],some (b2,c2),_,p,m - 1,rfl,⟨by omega,by omega⟩,hK2,by rw [List.length_append,List.length_singleton]; omega,snoc_S hks hik,by omega,⟨rfl,rfl,rfl,rfl,rfl,rfl,hwm,trivial⟩,rfl⟩
              · rw [ltB_f (by omega)]
                conv=>whnf
                refine box_with hA [(2,.ptr 1 0 0),(5,.ptr 2 0 0),(6,.ptr 3 0 0),(7,.dref b1 ks.length c1),(9,.ptr 4 0 0),(10,.int .i64 i)] ⟨rfl,rfl,rfl,rfl,rfl,rfl,trivial⟩ fun fr=>?_
                conv=>whnf
                refine ⟨n - 1,by omega,some [0,1,2,3,4],?_⟩
                conv=>whnf
                exact ⟨i+1,ks,some (b1,c1),es,p,by omega,hK,by omega,hks,by omega,⟨rfl,rfl,rfl,rfl,rfl,hwi,trivial⟩,rfl⟩
      · rw [ltB_f (by omega)]
        rcases g with _ | ⟨b1,c1⟩
        · obtain rfl:ks=[]:=List.map_eq_nil_iff.1 hK.ks
          conv=>whnf
          refine box_with hA [(2,.ptr 1 0 0),(5,.ptr 2 0 0),(6,.ptr 3 0 0),(7,.nils),(9,.ptr 4 0 0)] ⟨rfl,rfl,rfl,rfl,rfl,trivial⟩ fun fr=>?_
          conv=>whnf
          refine ⟨[2],false,?_⟩
          conv=>whnf
          refine (hpk 4 p (by omega)).mono ?_
          rintro o st' ⟨z,z0,z1,rfl,rfl⟩
          conv=>whnf
          by_cases hz:z=0
          · rw [eqB_t hz]
            conv=>whnf
            rw [ltB_f (by decide)]
            conv=>whnf
            refine draw_with hX [(2,.ptr 1 0 0),(5,.ptr 2 0 0),(6,.ptr 3 0 0),(7,.nils),(9,.ptr 4 0 0)] ⟨rfl,rfl,rfl,rfl,rfl,trivial⟩ fun C hC fr=>?_
            conv=>whnf
            repeat' (first
             | (refine And.intro (by (conv=>whnf); rfl) ?_
                conv=>whnf)
             | (refine And.intro ?_ ?_ <;> (conv=>whnf)))
            all_goals
             refine hC _ _ ?_
             conv=>whnf
             refine ⟨[],true,?_⟩
             conv=>whnf
             exact ⟨root,Ls,_,none,qk,[],es,hK,hSS,hqk,by simp,hks,rfl,rfl⟩
          · rw [eqB_f hz]
            conv=>whnf
            refine draw_with hX [(2,.ptr 1 0 0),(5,.ptr 2 0 0),(6,.ptr 3 0 0),(7,.nils),(9,.ptr 4 0 0)] ⟨rfl,rfl,rfl,rfl,rfl,trivial⟩ fun C hC fr=>?_
            conv=>whnf
            repeat' (first
             | (refine And.intro (by (conv=>whnf); rfl) ?_
                conv=>whnf)
             | (refine And.intro ?_ ?_ <;> (conv=>whnf)))
            all_goals
             refine hC _ _ ?_
             conv=>whnf
             refine ⟨[],true,?_⟩
             conv=>whnf
             exact ⟨root,Ls,_,none,qk,[],es,hK,hSS,hqk,by simp,hks,rfl,rfl⟩
        · conv=>whnf
          refine box_with hA [(2,.ptr 1 0 0),(5,.ptr 2 0 0),(6,.ptr 3 0 0),(7,.dref b1 ks.length c1),(9,.ptr 4 0 0)] ⟨rfl,rfl,rfl,rfl,rfl,trivial⟩ fun fr=>?_
          conv=>whnf
          refine ⟨[2],false,?_⟩
          conv=>whnf
          refine (hpk 4 p (by omega)).mono ?_
          rintro o st' ⟨z,z0,z1,rfl,rfl⟩
          conv=>whnf
          by_cases hz:z=0
          · rw [eqB_t hz]
            conv=>whnf
            by_cases hl0:0 < ks.length
            · rw [ltB_t (by omega)]
              conv=>whnf
              refine box_with hA [(2,.ptr 1 0 0),(5,.ptr 2 0 0),(6,.ptr 3 0 0),(7,.dref b1 ks.length c1),(9,.ptr 4 0 0)] ⟨rfl,rfl,rfl,rfl,rfl,trivial⟩ fun fr=>?_
              conv=>whnf
              refine ⟨[2],false,?_⟩
              conv=>whnf
              refine (hpk ks.length (p+1) (by omega)).mono ?_
              rintro o st' ⟨y,y0,y1,rfl,rfl⟩
              have y1:=y1 (by omega)
              obtain ⟨y,rfl⟩:∃ j:Nat,y=j:=⟨y.toNat,by omega⟩
              have hy:y < ks.length:=by omega
              have hyg:(rws sCells ks)[y]? = some (sCells ks[y]):=by simp [rws,hy]
              conv=>whnf
              refine ⟨by omega,by omega,?_⟩
              conv=>whnf
              refine ⟨0,c1,_,_,putEnt b1 (rws sCells (ks.set y [112,97,114])) es,hK.ks,hyg,by rw [rws,List.map_set]; rfl,?_⟩
              conv=>whnf
              have hK3:=hK.put (ks.set y [112,97,114])
              have hks3:KsS (ks.set y [112,97,114]):=fun x hx=>by
               rcases List.mem_or_eq_of_mem_set hx with hx | rfl
               · exact hks x hx
               · decide
              refine draw_with hX [(2,.ptr 1 0 0),(5,.ptr 2 0 0),(6,.ptr 3 0 0),(7,.dref b1 ks.length c1),(9,.ptr 4 0 0)] ⟨rfl,rfl,rfl,rfl,rfl,trivial⟩ fun C hC fr=>?_
              conv=>whnf
              repeat' (first
               | (refine And.intro (by (conv=>whnf); rfl) ?_
                  conv=>whnf)
               | (refine And.intro ?_ ?_ <;> (conv=>whnf)))
              all_goals
               refine hC _ _ ?_
               conv=>whnf
               refine ⟨[],true,?_⟩
               conv=>whnf
               rw [← (List.length_set ..:(ks.set y [112,97,114]).length=ks.length)]
               exact ⟨root,Ls,_,some (b1,c1),qk,ks.set y [112,97,114],_,hK3,hSS,hqk,by rw [List.length_set]; omega,hks3,rfl,rfl⟩
            · rw [ltB_f (by omega)]
              conv=>whnf
              refine draw_with hX [(2,.ptr 1 0 0),(5,.ptr 2 0 0),(6,.ptr 3 0 0),(7,.dref b1 ks.length c1),(9,.ptr 4 0 0)] ⟨rfl,rfl,rfl,rfl,rfl,trivial⟩ fun C hC fr=>?_
              conv=>whnf
              repeat' (first
               | (refine And.intro (by (conv=>whnf); rfl) ?_
                  conv=>whnf)
               | (refine And.intro ?_ ?_ <;> (conv=>whnf)))
              all_goals
               refine hC _ _ ?_
               conv=>whnf
               refine ⟨[],true,?_⟩
               conv=>whnf
               exact ⟨root,Ls,_,some (b1,c1),qk,ks,es,hK,hSS,hqk,by omega,hks,rfl,rfl⟩
          · rw [eqB_f hz]
            conv=>whnf
            refine draw_with hX [(2,.ptr 1 0 0),(5,.ptr 2 0 0),(6,.ptr 3 0 0),(7,.dref b1 ks.length c1),(9,.ptr 4 0 0)] ⟨rfl,rfl,rfl,rfl,rfl,trivial⟩ fun C hC fr=>?_
            conv=>whnf
            repeat' (first
             | (refine And.intro (by (conv=>whnf); rfl) ?_
                conv=>whnf)
             | (refine And.intro ?_ ?_ <;> (conv=>whnf)))
            all_goals
             refine hC _ _ ?_
             conv=>whnf
             refine ⟨[],true,?_⟩
             conv=>whnf
             exact ⟨root,Ls,_,some (b1,c1),qk,ks,es,hK,hSS,hqk,by omega,hks,rfl,rfl⟩
   clear hC
   conv=>whnf
   repeat' (first
    | (refine ⟨[2],false,?_⟩
       conv=>whnf
       refine (hpk Ls.length (p+1) (by omega)).mono ?_
       rintro o st' ⟨k,k0,k1,rfl,rfl⟩
       have k1:=k1 (by omega)
       obtain ⟨k,rfl⟩:∃ j:Nat,k=j:=⟨k.toNat,by omega⟩
       have hk:k < Ls.length:=by omega
       have hgL:(Ls.map LR.cells)[k]? = some Ls[k].cells:=by simp [hk]
       have hm:=List.getElem_mem hk
       generalize Ls[k]=L at hgL hm
       have hC3:=fun fr=>hC2 fr L (p+1+1) hm (by omega)
       obtain ⟨qk,qt,qs,gi⟩:=L
       rcases gi with _ | ⟨bi,ci⟩
       all_goals conv=>whnf)
    | (refine ⟨0,c,_,_,hK.sc.top,hgL,?_⟩
       conv=>whnf)
    | (refine ⟨by omega,by omega,?_⟩
       conv=>whnf)
    | (refine And.intro ?_ ?_ <;> (conv=>whnf))
    | fail)
   all_goals first
    | rfl
    | (refine hC3 _ ?_
       exact ⟨rfl,rfl,rfl,rfl,rfl,trivial⟩)
end Go.Cod
