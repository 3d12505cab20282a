import Derived.Test.YtheokahofeedjaaDoorChecked
import Derived.Test.YtheokahofeedjaaDoorRows
import Derived.WalkKit
import Derived.LaidEql
import Derived.RowKitTokens
import Derived.Stop.LaidErr
import Derived.ProofKit
import Derived.OpenShut
import Derived.JoinedOf
import Derived.Handed
import Derived.Defers
import Derived.Recover
import Derived.Laws.Pointers
import Derived.Tactics
import Derived.Tactics2
import Derived.Test.YtheokahofeedjaaDoorCodD
set_option linter.all false
namespace Go.Cod
open Go Go.Proofs
variable [Adr]
instance lam0:Lam:=⟨fun g=>match g with
 | 0=>some (sentCells 114 0)
 | 1=>some (sentCells 114 1)
 | 2=>some (sentCells 114 2)
 | 3=>some (sentCells 114 3)
 | 4=>some (sentCells 114 4)
 | _=>none,fun g=>false,fun g=>Nat.beq g 45||Nat.beq g 55||Nat.beq g 42||Nat.beq g 43||Nat.beq g 58||Nat.beq g 44||Nat.beq g 19||Nat.beq g 18,fun g=>false,fun g=>Nat.beq g 50||Nat.beq g 24⟩
def tauL:List (Nat × TI):=[
 (1,⟨.other,1,8,.raw .nilFunc,[],[],false,none⟩),
 (2,⟨.int .i64,1,8,.int .i64 0,[],[],false,none⟩),
 (3,⟨.int .i64,1,8,.int .i64 0,[],[],false,none⟩),
 (4,⟨.bool,1,1,.bool false,[],[],false,none⟩),
 (5,⟨.int .u8,1,1,.int .u8 0,[],[],false,none⟩),
 (6,⟨.int .u8,1,1,.int .u8 0,[],[],false,none⟩),
 (7,⟨.agg,4,24,.agg [.int .i64 0,.int .i64 0,.bool false,.int .u8 0],[(0,1,false),(1,1,false),(2,1,false),(3,1,false)],[],false,none⟩),
 (8,⟨.agg,4,24,.agg [.int .i64 0,.int .i64 0,.bool false,.int .u8 0],[(0,1,false),(1,1,false),(2,1,false),(3,1,false)],[],false,none⟩),
 (9,⟨.str,1,16,.str [],[],[],false,none⟩),
 (10,⟨.str,1,16,.str [],[],[],false,none⟩),
 (11,⟨.str,1,16,.str [],[],[],false,none⟩),
 (12,⟨.int .u64,1,8,.int .u64 0,[],[],false,none⟩),
 (13,⟨.agg,2,24,.agg [.str [],.int .u64 0],[(0,1,false),(1,1,false)],[],false,none⟩),
 (14,⟨.agg,2,24,.agg [.str [],.int .u64 0],[(0,1,false),(1,1,false)],[],false,none⟩),
 (15,⟨.ptr,1,8,.raw (.pointer none),[],[],false,none⟩),
 (16,⟨.ptr,1,8,.raw (.pointer none),[],[],false,none⟩),
 (17,⟨.ptr,1,8,.raw (.pointer none),[],[],false,none⟩),
 (18,⟨.agg,1,8,.agg [.raw (.pointer none)],[(0,1,false)],[],false,none⟩),
 (19,⟨.agg,1,8,.agg [.raw (.pointer none)],[(0,1,false)],[],false,none⟩),
 (20,⟨.iface,1,16,.raw .nilIface,[],[],false,none⟩),
 (21,⟨.int .i32,1,4,.int .i32 0,[],[],false,none⟩),
 (22,⟨.slice 5,1,24,.nils,[],[],false,none⟩),
 (23,⟨.other,1,8,.raw .nilFunc,[],[],false,none⟩),
 (24,⟨.slice 52,1,24,.nils,[],[],false,none⟩),
 (25,⟨.agg,2,40,.agg [.str [],.nils],[(0,1,false),(1,1,false)],[],false,none⟩),
 (26,⟨.agg,2,40,.agg [.str [],.nils],[(0,1,false),(1,1,false)],[],false,none⟩),
 (28,⟨.other,1,8,.raw .nilFunc,[],[],false,none⟩),
 (29,⟨.other,1,8,.raw .nilFunc,[],[],false,none⟩),
 (30,⟨.other,1,8,.raw .nilFunc,[],[],false,none⟩),
 (31,⟨.other,1,8,.raw .nilFunc,[],[],false,none⟩),
 (32,⟨.other,1,8,.raw .nilFunc,[],[],false,none⟩),
 (33,⟨.other,1,8,.raw .nilFunc,[],[],false,none⟩),
 (34,⟨.other,1,8,.raw .nilFunc,[],[],false,none⟩),
 (35,⟨.other,1,8,.raw .nilFunc,[],[],false,none⟩),
 (36, ⟨.ptr, 1, 8, .raw (.pointer none), [], [("loop.example/codicil/spec.of", 19), ("loop.example/codicil/spec.pick", 18)], false, none⟩),
 (37,⟨.other,1,8,.raw .nilFunc,[],[],false,none⟩),
 (38,⟨.other,1,8,.raw .nilFunc,[],[],false,none⟩),
 (39,⟨.other,1,8,.raw .nilFunc,[],[],false,none⟩),
 (40,⟨.slice 9,1,24,.nils,[],[],false,none⟩),
 (41,⟨.other,1,8,.raw .nilFunc,[],[],false,none⟩),
 (42,⟨.other,1,8,.raw .nilFunc,[],[],false,none⟩),
 (43,⟨.agg,2,24,.agg [.str [],.int .i64 0],[(0,1,false),(1,1,false)],[],false,none⟩),
 (44,⟨.agg,2,24,.agg [.str [],.int .i64 0],[(0,1,false),(1,1,false)],[],false,none⟩),
 (45,⟨.agg,2,24,.agg [.str [],.int .i64 0],[(0,2,true)],[],false,none⟩),
 (46,⟨.agg,2,24,.agg [.str [],.int .i64 0],[(0,2,true)],[],false,none⟩),
 (47,⟨.other,1,8,.raw .nilFunc,[],[],false,none⟩),
 (48,⟨.other,1,8,.raw .nilFunc,[],[],false,none⟩),
 (49,⟨.other,1,8,.raw .nilFunc,[],[],false,none⟩),
 (50,⟨.slice 55,1,24,.nils,[],[],false,none⟩),
 (51,⟨.agg,3,48,.agg [.str [],.bool false,.nils],[(0,1,false),(1,1,false),(2,1,false)],[],false,none⟩),
 (52,⟨.agg,3,48,.agg [.str [],.bool false,.nils],[(0,1,false),(1,1,false),(2,1,false)],[],false,none⟩),
 (53,⟨.other,1,8,.raw .nilFunc,[],[],false,none⟩),
 (54,⟨.agg,3,24,.agg [.str [],.bool false,.bool false],[(0,1,false),(1,1,false),(2,1,false)],[],false,none⟩),
 (55,⟨.agg,3,24,.agg [.str [],.bool false,.bool false],[(0,1,false),(1,1,false),(2,1,false)],[],false,none⟩),
 (56,⟨.ptr,1,8,.raw (.pointer none),[],[],false,none⟩),
 (57,⟨.agg,2,32,.agg [.raw (.pointer none),.nils],[(0,1,false),(1,1,false)],[],false,none⟩),
 (58,⟨.agg,2,32,.agg [.raw (.pointer none),.nils],[(0,1,false),(1,1,false)],[],false,none⟩),
 (59,⟨.iface,1,16,.raw .nilIface,[],[],false,none⟩),
 (60,⟨.iface,1,16,.raw .nilIface,[],[],false,none⟩),
 (62,⟨.other,1,8,.raw .nilFunc,[],[],false,none⟩),
 (63,⟨.other,1,8,.raw .nilFunc,[],[],false,none⟩),
 (64,⟨.other,1,8,.raw .nilFunc,[],[],false,none⟩),
 (65,⟨.other,1,8,.raw .nilFunc,[],[],false,none⟩),
 (66,⟨.other,1,8,.raw .nilFunc,[],[],false,none⟩),
 (67,⟨.other,1,8,.raw .nilFunc,[],[],false,none⟩),
 (68,⟨.other,1,8,.raw .nilFunc,[],[],false,none⟩),
 (69,⟨.other,1,8,.raw .nilFunc,[],[],false,none⟩),
 (70,⟨.other,1,8,.raw .nilFunc,[],[],false,none⟩),
 (71,⟨.agg,2,32,.agg [.nils,.int .i64 0],[(0,1,false),(1,1,false)],[],false,none⟩),
 (72,⟨.agg,2,32,.agg [.nils,.int .i64 0],[(0,1,false),(1,1,false)],[],false,none⟩),
 (73,⟨.other,1,8,.raw .nilFunc,[],[],false,none⟩),
 (74, ⟨.ptr, 1, 8, .raw (.pointer none), [], [("loop.example/codicil/impl.item", 58), ("loop.example/codicil/impl.rule", 44), ("loop.example/codicil/impl.schema", 23)], false, none⟩),
 (75,⟨.other,1,8,.raw .nilFunc,[],[],false,none⟩),
 (76,⟨.other,1,8,.raw .nilFunc,[],[],false,none⟩),
 (77,⟨.other,1,8,.raw .nilFunc,[],[],false,none⟩),
 (78,⟨.other,1,8,.raw .nilFunc,[],[],false,none⟩),
 (79,⟨.other,1,8,.raw .nilFunc,[],[],false,none⟩),
 (80,⟨.ptr,1,8,.raw (.pointer none),[],[],false,none⟩),
 (81,⟨.other,1,8,.raw .nilFunc,[],[],false,none⟩),
 (82,⟨.other,1,8,.raw .nilFunc,[],[],false,none⟩),
 (83,⟨.other,1,8,.raw .nilFunc,[],[],false,none⟩),
 (84,⟨.other,1,8,.raw .nilFunc,[],[],false,none⟩),
 (85,⟨.other,1,8,.raw .nilFunc,[],[],false,none⟩),
 (86, ⟨.ptr, 1, 8, .raw (.pointer none), [], [("loop.example/codicil/impl.atEnd", 43), ("loop.example/codicil/impl.must", 45), ("loop.example/codicil/impl.name", 42), ("loop.example/codicil/impl.skip", 55), ("loop.example/codicil/impl.some", 56), ("loop.example/codicil/impl.want", 41)], false, none⟩),
 (87,⟨.other,1,8,.raw .nilFunc,[],[],false,none⟩),
 (88,⟨.other,1,8,.raw .nilFunc,[],[],false,none⟩),
 (89,⟨.other,1,8,.raw .nilFunc,[],[],false,none⟩),
 (91,⟨.other,1,8,.raw .nilFunc,[],[],false,none⟩),
 (92,⟨.other,1,8,.raw .nilFunc,[],[],false,none⟩),
 (94,⟨.other,1,8,.raw .nilFunc,[],[],false,none⟩),
 (95,⟨.other,1,8,.raw .nilFunc,[],[],false,none⟩),
 (96,⟨.other,1,8,.raw .nilFunc,[],[],false,none⟩),
 (97,⟨.other,1,8,.raw .nilFunc,[],[],false,none⟩),
 (98,⟨.iface,1,16,.raw .nilIface,[],[],false,none⟩),
 (99,⟨.iface,1,16,.raw .nilIface,[],[],false,none⟩),
 (100,⟨.other,1,8,.raw .nilFunc,[],[],false,none⟩),
 (101,⟨.other,1,8,.raw .nilFunc,[],[],false,none⟩),
 (102,⟨.other,1,8,.raw .nilFunc,[],[],false,none⟩),
 (103,⟨.agg,1,8,.agg [.raw (.pointer none)],[(0,1,false)],[],false,none⟩),
 (104,⟨.agg,1,8,.agg [.raw (.pointer none)],[(0,1,false)],[],false,none⟩),
 (105,⟨.ptr,1,8,.raw (.pointer none),[],[],false,none⟩),
 (106,⟨.iface,1,16,.raw .nilIface,[],[],false,none⟩),
 (108,⟨.other,1,8,.raw .nilFunc,[],[],false,none⟩),
 (109,⟨.iface,1,16,.raw .nilIface,[],[],false,none⟩),
 (110,⟨.other,1,8,.raw .nilFunc,[],[],false,none⟩),
 (111,⟨.iface,1,16,.raw .nilIface,[],[],false,none⟩),
 (112,⟨.slice 60,1,24,.nils,[],[],false,none⟩),
 (113,⟨.other,1,8,.raw .nilFunc,[],[],false,none⟩),
 (114,⟨.ptr,1,8,.raw (.pointer none),[],[],false,none⟩),
 (115,⟨.agg,4,40,.agg [.raw (.pointer none),.raw (.pointer none),.raw (.pointer none),.str []],[(0,1,false),(1,1,false),(2,1,false),(3,1,false)],[],false,none⟩),
 (116,⟨.agg,4,40,.agg [.raw (.pointer none),.raw (.pointer none),.raw (.pointer none),.str []],[(0,1,false),(1,1,false),(2,1,false),(3,1,false)],[],false,none⟩),
 (120,⟨.other,1,8,.raw .nilFunc,[],[],false,none⟩),
 (121,⟨.int .u32,1,4,.int .u32 0,[],[],false,none⟩),
 (122,⟨.int .u8,1,1,.int .u8 0,[],[],false,none⟩),
 (123,⟨.int .u8,1,1,.int .u8 0,[],[],false,none⟩),
 (124,⟨.other,1,8,.raw .nilFunc,[],[],false,none⟩),
 (125,⟨.int .i32,1,4,.int .i32 0,[],[],false,none⟩),
 (126,⟨.int .i32,1,4,.int .i32 0,[],[],false,none⟩),
 (127,⟨.agg,11,48,.agg [.int .u64 0,.int .u64 0,.int .u32 0,.int .u8 0,.int .u8 0,.int .u8 0,.int .u8 0,.raw .nilFunc,.raw (.pointer none),.int .i32 0,.int .i32 0],[(0,1,false),(1,1,false),(2,1,false),(3,1,false),(4,1,false),(5,1,false),(6,1,false),(7,1,false),(8,1,false),(9,1,false),(10,1,false)],[],false,none⟩),
 (128,⟨.agg,11,48,.agg [.int .u64 0,.int .u64 0,.int .u32 0,.int .u8 0,.int .u8 0,.int .u8 0,.int .u8 0,.raw .nilFunc,.raw (.pointer none),.int .i32 0,.int .i32 0],[(0,1,false),(1,1,false),(2,1,false),(3,1,false),(4,1,false),(5,1,false),(6,1,false),(7,1,false),(8,1,false),(9,1,false),(10,1,false)],[],false,none⟩),
 (129,⟨.other,1,8,.raw .nilFunc,[],[],false,none⟩),
 (130,⟨.other,1,8,.raw .nilFunc,[],[],false,none⟩),
 (131,⟨.other,1,8,.raw .nilFunc,[],[],false,none⟩),
 (132,⟨.other,1,8,.raw .nilFunc,[],[],false,none⟩),
 (133,⟨.other,1,8,.raw .nilFunc,[],[],false,none⟩),
 (134,⟨.other,1,8,.raw .nilFunc,[],[],false,none⟩),
 (135,⟨.agg,2,24,.agg [.str [],.int .u8 0],[(0,1,false),(1,1,false)],[],false,none⟩),
 (136,⟨.agg,2,24,.agg [.str [],.int .u8 0],[(0,1,false),(1,1,false)],[],false,none⟩),
 (137,⟨.agg,1,16,.agg [.str []],[(0,1,false)],[],false,none⟩),
 (138,⟨.agg,1,16,.agg [.str []],[(0,1,false)],[],false,none⟩),
 (139,⟨.ptr,1,8,.raw (.pointer none),[],[],false,none⟩),
 (140,⟨.other,1,8,.raw .nilFunc,[],[],false,none⟩),
 (141,⟨.int .u16,1,2,.int .u16 0,[],[],false,none⟩),
 (142,⟨.agg,5,16,.agg [.int .i32 0,.int .u16 0,.int .u16 0,.int .u32 0,.int .u32 0],[(0,1,false),(1,1,false),(2,1,false),(3,1,false),(4,1,false)],[],false,none⟩),
 (143,⟨.agg,5,16,.agg [.int .i32 0,.int .u16 0,.int .u16 0,.int .u32 0,.int .u32 0],[(0,1,false),(1,1,false),(2,1,false),(3,1,false),(4,1,false)],[],false,none⟩),
 (144,⟨.slice 147,1,24,.nils,[],[],false,none⟩),
 (145,⟨.int .i32,1,4,.int .i32 0,[],[],false,none⟩),
 (146,⟨.agg,4,16,.agg [.int .i32 0,.int .i32 0,.int .i32 0,.int .i32 0],[(0,1,false),(1,1,false),(2,1,false),(3,1,false)],[],false,none⟩),
 (147,⟨.agg,4,16,.agg [.int .i32 0,.int .i32 0,.int .i32 0,.int .i32 0],[(0,1,false),(1,1,false),(2,1,false),(3,1,false)],[],false,none⟩),
 (148,⟨.other,1,8,.raw .nilFunc,[],[],false,none⟩)]
set_option maxRecDepth 100000 in
theorem good:TauGood Tryd.prog (tauOf tauL):=tauGood (by kernel_rfl) (by kernel_rfl) (by decide)
end Go.Cod
set_option linter.all false
namespace Go.Cod
variable [Adr]
open Go Go.Proofs Go.ChangeShapes Go.RowKit
set_option maxRecDepth 100000
def compM : Array Value → Sem Value := Extern.ReflectliteType.method fun t => do Extern.Rtype.noPackHeld "Comparable" t; pure (.bool (← typeInfo t).comparable)
theorem is_same (a:Addr) (w:World) :
  Calls Tryd.prog 62 #[.iface 114 (.pointer (some a)),.iface 114 (.pointer (some a))] w fun e w'=>e=.returned (.bool true)∧w'=w:=by
 obtain ⟨i,hi,hcmp⟩:=Option.map_eq_some_iff.1 (show (Tryd.prog.info? 114).map (·.comparable)=some true by kernel_rfl)
 obtain ⟨j,hj,hjs⟩:=Option.map_eq_some_iff.1 (show (Tryd.prog.info? 138).map (·.size)=some 1 by kernel_rfl)
 have h8:=@run_callFunc_extern Tryd.prog 65 _ Extern.ReflectliteType.typeOf Tryd.func65 (by kernel_rfl) (by kernel_rfl) (by kernel_rfl) (by kernel_rfl)
 have h32:=@run_callFunc_extern Tryd.prog 88 _ compM Tryd.func88 (by kernel_rfl) (by kernel_rfl) (by kernel_rfl) (by kernel_rfl)
 have tT:∀ (v:Value) (w:World),(Extern.ReflectliteType.typeOf #[.iface 114 v]).run Tryd.prog w=.ok (.iface 104 (.agg #[.pointer (some ⟨5,114,none⟩)])) w:=fun v w=>by kernel_rfl
 have cT:∀ (w:World),(compM #[.agg #[.pointer (some ⟨5,114,none⟩)]]).run Tryd.prog w=.ok (.bool true) w:=fun w=>by kernel_rfl
 have mR : ∀ (v : Value) (w : World), (Go.method 249 104 v "Comparable").run Tryd.prog w = .ok (88, v) w := fun v w => by kernel_rfl
 have heq:=run_eql_iface_ptr_same (P:=Tryd.prog) w a Tryd.underlying60 Tryd.underlying114 hi hcmp hj
 go_enter Tryd.func62,Tryd.ntmps62
 go_wp2
 refine wp_loop_rounds 1 ?_
 rw [rounds_succ]
 go_wp2
 go_ret
 exact ⟨rfl,rfl⟩
theorem is_nil (b:Addr) (w:World) :
  Calls Tryd.prog 62 #[.nilIface,.iface 114 (.pointer (some b))] w fun e w'=>e=.returned (.bool false)∧w'=w:=by
 have hn:=run_eql_iface_nil_left (P:=Tryd.prog) w 114 (.pointer (some b)) Tryd.underlying60
 go_enter Tryd.func62,Tryd.ntmps62
 go_wp2
 go_ret
 exact ⟨rfl,rfl⟩
abbrev errV (g:Nat):V:=.raw (.iface 114 (.pointer (some (Adr.a g))))
abbrev nilErr:V:=.raw .nilIface
theorem repL_raw2 {Pr:Nat→Nat→Prop} {γ:List G} {w:World} {a b:Value} {cs:List Value} (h:RepL Pr γ w [.raw a,.raw b] cs):cs=[a,b]:=by
 have:=h.1
 match cs,this with
 | [x,y],_ =>
   have h0:=h.2 0 _ _ rfl rfl
   have h1:=h.2 1 _ _ rfl rfl
   cases h0
   cases h1
   rfl
theorem errorsIs_same (g:Nat):Pure Tryd.prog 62 [errV g,errV g] (·=.bool true):=by
 refine pure_of_still (r:=.bool true) ⟨_,Tryd.func62,by kernel_rfl,by kernel_rfl⟩ rfl fun Pr γ w cs h=>?_
 obtain rfl:=repL_raw2 h
 exact ⟨.bool true,fun _=>.bool true,is_same _ w⟩
theorem errorsIs_nil (g:Nat):Pure Tryd.prog 62 [nilErr,errV g] (·=.bool false):=by
 refine pure_of_still (r:=.bool false) ⟨_,Tryd.func62,by kernel_rfl,by kernel_rfl⟩ rfl fun Pr γ w cs h=>?_
 obtain rfl:=repL_raw2 h
 exact ⟨.bool false,fun _=>.bool false,is_nil _ w⟩
omit [Adr] in
theorem star : "*" ++ "errors.errorString" = "*errors.errorString" := by decide
omit [Adr] in
theorem rowErr (u : TypeId) (h : Tryd.prog.typeName? 3 u = some "*errors.errorString") : u = 114 :=
 typeName_ptr_named (nm := "errors.errorString") (by rw [star]; kernel_rfl) (by kernel_rfl) (by decide) u (by rw [star]; exact h)
omit [Adr] in
theorem laid_err {n : String} {text : List UInt8} {r : List (String × DataW Unit)} {W : World} {g : Nat} (h : laidMet Tryd.prog ((n, .iface "*errors.errorString" (.ptr (.agg [.lit (.string text)]))) :: r) W) (hg : Tryd.prog.globalNamed n = some g)
  (ht:(Tryd.prog.globals[g]?).map (·.type)=some 60):(∃ a:Addr,W.cell? ⟨g,0,none⟩=some (.iface 114 (.pointer (some a)))∧g < W.heap.size∧W.cell? ⟨g,1,none⟩=none)∧laidMet Tryd.prog r W:=by
 obtain ⟨a,s,hv,_⟩:=laid_sentinel h hg ht Tryd.underlying60 rowErr Tryd.underlying114 Tryd.underlying138 rfl rfl Tryd.underlying9 (by kernel_rfl) (by kernel_rfl)
 exact ⟨⟨a,laid_cell hg hv⟩,h.tail⟩
omit [Adr] in
theorem globals_ok:∀ (g:Nat) x,Tryd.prog.globals[g]? = some x→x.type < Tryd.prog.types.size:=by
 intro g x h
 have h1:(Tryd.prog.globals.toList.all fun x=>decide (x.type < Tryd.prog.types.size))=true:=by kernel_rfl
 exact of_decide_eq_true (List.all_eq_true.1 h1 x (by simpa using Array.mem_of_getElem? h))
end Go.Cod
set_option linter.all false
namespace Go.Cod
variable [Adr]
open Go Go.Proofs
set_option maxRecDepth 10000
theorem l1In_pure (a b c:Int):Pure Tryd.prog 32 [.int .i64 a,.int .i64 b,.int .i64 c] (·=.bool (decide (b≤a∧a≤c))):=by
 refine pure_of_awp good Tryd.func32 rfl (by kernel_rfl) (by decide) ?_
 conv=>whnf
 by_cases h1:b≤a
 · rw [leB_t h1]
   conv=>whnf
   simp [h1,leB_def]
 · rw [leB_f (by omega)]
   conv=>whnf
   simp [h1]
def lowerB (c:UInt8):Bool:=decide (97≤c.toNat∧c.toNat≤122)
def lower (s:List UInt8):Bool:=s.all lowerB
def nameL (s:List UInt8):Bool:=lower s&&decide (1≤(s.length:Int)∧(s.length:Int)≤8)
theorem take_all {p:UInt8→Bool} {s:List UInt8} {i:Nat} (h:i < s.length):(s.take (i+1)).all p=((s.take i).all p&&p s[i]):=by
 rw [List.take_succ_eq_append_getElem h,List.all_append]; simp
theorem l2Name_pure (s:List UInt8) (hs:s.length≤9223372036854775806):Pure Tryd.prog 34 [.str s] (·=.bool (nameL s)):=by
 refine pure_of_awp good Tryd.func34 rfl (by kernel_rfl) (by decide) ?_
 conv=>whnf
 refine loop_intro (fun n fr st=>st=[]∧∃ i:Nat,n+i=s.length∧lower (s.take i)=true∧Holds fr [(0,.str s),(3,.int .i64 i)]) s.length ⟨rfl,0,rfl,rfl,rfl,rfl,trivial⟩ ?_
 rintro n fr st ⟨rfl,i,hi,hlow,hh⟩
 obtain ⟨fr,rfl⟩:=hh.split
 clear hh
 conv=>whnf
 by_cases hlt:i < s.length
 · rw [ltB_t (by omega)]
   have hstep:=take_all (p:=lowerB) hlt
   conv=>whnf
   refine ⟨by omega,s[i],by simp [hlt],?_⟩
   conv=>whnf
   by_cases h1:(97:Int)≤(s[i].toNat:Int)
   · rw [ltB_f (by omega)]
     conv=>whnf
     refine ⟨by omega,s[i],by simp [hlt],?_⟩
     conv=>whnf
     by_cases h2:(s[i].toNat:Int)≤122
     · rw [ltB_f (by omega)]
       conv=>whnf
       refine ⟨n - 1,by omega,rfl,i+1,by omega,?_,?_⟩
       · unfold lower at *; rw [hstep,hlow]; simp [lowerB]; omega
       · refine ⟨rfl,?_,trivial⟩
         show V.int .i64 (IntKind.i64.wrap (i+1))=_
         rw [wrap64 (by omega) (by omega)]; simp
     · rw [ltB_t (by omega)]
       conv=>whnf
       have hf:lower s=false:=by
        unfold lower
        rw [List.all_eq_false]
        exact ⟨s[i],List.getElem_mem _,by simp only [lowerB,decide_eq_true_eq]; omega⟩
       simp only [nameL,hf,Bool.false_and]
   · rw [ltB_t (by omega)]
     conv=>whnf
     have hf:lower s=false:=by
      unfold lower
      rw [List.all_eq_false]
      exact ⟨s[i],List.getElem_mem _,by simp only [lowerB,decide_eq_true_eq]; omega⟩
     simp only [nameL,hf,Bool.false_and]
 · rw [ltB_f (by omega)]
   conv=>whnf
   refine .inl ((l1In_pure _ _ _).mono ?_)
   rintro r rfl
   conv=>whnf
   have:s.take i=s:=List.take_of_length_le (by omega)
   rw [this] at hlow
   simp [nameL,hlow]
end Go.Cod
set_option linter.all false
namespace Go.Cod
variable [Adr]
open Go Go.Proofs Go.ChangeShapes Go.WideShapes Go.ChangeAt Go.RowKit
set_option maxRecDepth 10000
inductive T where
 | mk (id:Int) (kind text:List UInt8) (kids:List T)
mutual
def T.cells:T→List V
 | .mk id kind text kids=>[.int .i64 id,.str kind,.str text,.sl (T.rows kids)]
def T.rows:List T→List (List V)
 | []=>[]
 | t::ts=>t.cells::T.rows ts
end
theorem kids:Kids Tryd.prog (· < Tryd.prog.types.size):=kids_rows (by kernel_rfl) (by kernel_rfl)
theorem full:∀ t e,t < Tryd.prog.types.size→Tryd.prog.underlying t=some (.slice e)→0 < Tryd.prog.cellsOf e:=slices_full_of Tryd.prog (by kernel_rfl)
end Go.Cod
set_option linter.all false
namespace Go.Cod
variable [Adr]
open Go Go.Proofs
set_option maxRecDepth 10000
end Go.Cod
set_option linter.all false
namespace Go.Cod
variable [Adr]
open Go Go.Proofs
set_option maxRecDepth 10000
end Go.Cod
set_option linter.all false
namespace Go.Cod
variable [Adr]
open Go Go.Proofs
set_option maxRecDepth 10000
theorem eqB_refl (a:Int):eqB a a=true:=by rw [eqB_def]; simp
theorem eqS_refl (a:List UInt8):eqS a a=true:=by rw [eqS_def]; simp
end Go.Cod
set_option linter.all false
namespace Go.Cod
variable [Adr]
open Go Go.Proofs
set_option maxRecDepth 10000
end Go.Cod
set_option linter.all false
namespace Go.Cod
variable [Adr]
open Go Go.Proofs
set_option maxRecDepth 10000
end Go.Cod
set_option linter.all false
namespace Go.Cod
variable [Adr]
open Go Go.Proofs
set_option maxRecDepth 10000
end Go.Cod
set_option linter.all false
namespace Go.Cod
variable [Adr]
open Go Go.Proofs
set_option maxRecDepth 10000
theorem textHasOnly_pure (s:List UInt8) (hs:s.length≤9223372036854775806) (g:Nat) (p:UInt8→Bool) (hp:∀ b:UInt8,Pure Tryd.prog g [cellB b] (·=.bool (p b))) :
  Pure Tryd.prog 60 [.str s,.fn g []] (·=.bool (s.all p)):=by
 refine pure_of_awp good Tryd.func60 rfl (by kernel_rfl) (by decide) ?_
 conv=>whnf
 refine loop_intro (fun n fr st=>st=[]∧∃ i:Nat,n+i=s.length∧(s.take i).all p=true∧Holds fr [(0,.str s),(1,.fn g []),(7,.int .i64 s.length),(8,.int .i64 i)]) s.length ⟨rfl,0,rfl,rfl,rfl,rfl,rfl,rfl,trivial⟩ ?_
 rintro n fr st ⟨rfl,i,hi,hx,hh⟩
 obtain ⟨fr,rfl⟩:=hh.split
 clear hh
 conv=>whnf
 by_cases hlt:i < s.length
 · rw [ltB_t (by omega)]
   conv=>whnf
   refine ⟨by omega,s[i],by simp [hlt],?_⟩
   conv=>whnf
   have hst:=take_all (p:=p) hlt
   have hno:p s[i]=false→s.all p=false:=by
    intro h; rw [List.all_eq_false]; exact ⟨s[i],List.getElem_mem _,by simp [h]⟩
   refine .inl ((hp s[i]).mono ?_)
   rintro r rfl
   cases a:p s[i]
   · conv=>whnf
     rw [hno a]
   conv=>whnf
   refine ⟨n - 1,by omega,rfl,i+1,by omega,by rw [hst,hx,a]; rfl,rfl,rfl,rfl,?_,trivial⟩
   show V.int .i64 (IntKind.i64.wrap (i+1))=_
   rw [wrap64 (by omega) (by omega)]; simp
 · rw [ltB_f (by omega)]
   conv=>whnf
   rw [List.take_of_length_le (by omega)] at hx
   rw [hx]
theorem isLetter_pure (b:UInt8):Pure Tryd.prog 57 [cellB b] (·=.bool (lowerB b)):=by
 refine pure_of_awp good Tryd.func57 rfl (by kernel_rfl) (by decide) ?_
 conv=>whnf
 by_cases h1:(97:Int)≤(b.toNat:Int)
 · rw [leB_t (by omega)]
   conv=>whnf
   congr 1
   rw [leB_def,lowerB]
   exact decide_eq_decide.2 (by omega)
 · rw [leB_f (by omega)]
   conv=>whnf
   have:lowerB b=false:=by unfold lowerB; simp; omega
   rw [this]
theorem nameOk_pure (s:List UInt8) (hs:s.length≤9223372036854775806):Pure Tryd.prog 48 [.str s] (·=.bool (nameL s)):=by
 refine pure_of_awp good Tryd.func48 rfl (by kernel_rfl) (by decide) ?_
 conv=>whnf
 by_cases h1:(1:Int)≤(s.length:Int)
 case neg =>
  rw [leB_f (by omega)]
  conv=>whnf
  simp [nameL]; omega
 rw [leB_t (by omega)]
 conv=>whnf
 by_cases h2:(s.length:Int)≤8
 case neg =>
  rw [leB_f (by omega)]
  conv=>whnf
  simp [nameL]; omega
 rw [leB_t (by omega)]
 conv=>whnf
 refine .inl ((textHasOnly_pure s hs _ lowerB isLetter_pure).mono ?_)
 rintro r rfl
 conv=>whnf
 simp [nameL,lower,h1,h2]
end Go.Cod
set_option linter.all false
namespace Go.Cod
variable [Adr]
open Go Go.Proofs Go.ChangeShapes Go.WideShapes Go.ChangeAt Go.RowKit
set_option maxRecDepth 10000
def rws {α:Type} (c:α→List V) (ys:List α):List (List V):=ys.map c
theorem rws_len {α:Type} (c:α→List V) (ys:List α):(rws c ys).length=ys.length:=by simp [rws]
theorem rws_get {α:Type} (c:α→List V) (ys:List α) (i:Nat) (h:i < ys.length):(rws c ys)[i]? = some (c ys[i]):=by simp [rws,h]
theorem rws_take {α:Type} (c:α→List V) (ys:List α) (i:Nat):(rws c ys).take i=rws c (ys.take i):=by simp [rws]
theorem rws_wid {α:Type} (c:α→List V) {k:Nat} (hk:∀ a,(c a).length=k) (ys:List α):∀ r∈rws c ys,r.length=k:=fun r hr=>by
 obtain ⟨a,_,rfl⟩:=List.mem_map.1 hr
 exact hk a
structure It where
 kind:List UInt8
 many:Bool
 may:Bool
 deriving DecidableEq
def It.cells (a:It):List V:=[.str a.kind,.bool a.many,.bool a.may]
structure Ru where
 kind:List UInt8
 text:Bool
 kids:List It
 deriving DecidableEq
def Ru.cells (a:Ru):List V:=[.str a.kind,.bool a.text,.sl (rws It.cells a.kids)]
structure Sc where
 root:List UInt8
 rules:List Ru
 deriving DecidableEq
def Sc.cells (a:Sc):List V:=[.str a.root,.sl (rws Ru.cells a.rules)]
theorem Ru.len (a:Ru):a.cells.length=3:=rfl
end Go.Cod
set_option linter.all false
namespace Go.Cod
variable [Adr]
open Go Go.Proofs
set_option maxRecDepth 10000
def It.Sm (a:It):Prop:=a.kind.length≤1048576
def Ru.Sm (a:Ru):Prop:=a.kind.length≤1048576∧a.kids.length≤1048576∧∀ x∈a.kids,x.Sm
def Sc.Sm (a:Sc):Prop:=a.root.length≤1048576∧a.rules.length≤1048576∧∀ x∈a.rules,x.Sm
theorem eqItem_pure (a:It):Pure Tryd.prog 67 [.agg a.cells,.agg a.cells] (·=.bool true):=by
 obtain ⟨kind,many,may⟩:=a
 simp only [It.cells]
 refine pure_of_awp good Tryd.func67 rfl (by kernel_rfl) (by decide) ?_
 conv=>whnf
 rw [eqS_refl]
 cases many <;> cases may <;> conv=>whnf
set_option maxHeartbeats 4000000 in
theorem eqItemS_pure (ys:List It) (hl:ys.length≤1048576):Pure Tryd.prog 63 [.sl (rws It.cells ys),.sl (rws It.cells ys)] (·=.bool true):=by
 have hlr:=rws_len It.cells ys
 have hget:=rws_get It.cells ys
 generalize rws It.cells ys=rows at *
 refine pure_of_awp good Tryd.func63 rfl (by kernel_rfl) (by decide) ?_
 conv=>whnf
 rw [eqB_refl]
 conv=>whnf
 refine loop_intro (fun n fr st=>∃ i:Nat,n+i=ys.length∧st=[]∧Holds fr [(0,.sl rows),(1,.sl rows),(5,.int .i64 i)]) ys.length
  ⟨0,rfl,rfl,rfl,rfl,rfl,trivial⟩ ?_
 rintro n fr st ⟨i,hi,rfl,hh⟩
 obtain ⟨fr,rfl⟩:=hh.split
 clear hh
 conv=>whnf
 by_cases hlt:i < ys.length
 · rw [hlr,ltB_t (by omega)]
   conv=>whnf
   have hg:=hget i hlt
   have hc:=eqItem_pure ys[i]
   generalize ys[i]=s at *
   obtain ⟨kind,many,may⟩:=s
   simp only [It.cells] at hg hc
   refine ⟨by omega,rows,_,3,rfl,hg,rfl,rfl,?_⟩
   conv=>whnf
   refine ⟨by omega,rows,_,3,rfl,hg,rfl,rfl,?_⟩
   conv=>whnf
   refine ⟨_,.inl hc,?_⟩
   conv=>whnf
   refine ⟨n - 1,by omega,i+1,by omega,rfl,rfl,rfl,?_,trivial⟩
   show V.int .i64 (IntKind.i64.wrap (i+1))=_
   rw [wrap64 (by omega) (by omega)]; simp
 · rw [hlr,ltB_f (by omega)]
   conv=>whnf
theorem eqRule_pure (a:Ru) (ha:a.Sm):Pure Tryd.prog 51 [.agg a.cells,.agg a.cells] (·=.bool true):=by
 obtain ⟨_,hn,hx⟩:=ha
 have hc:=eqItemS_pure a.kids hn
 obtain ⟨kind,text,kids⟩:=a
 simp only [Ru.cells] at hc ⊢
 generalize rws It.cells kids=rows at *
 refine pure_of_awp good Tryd.func51 rfl (by kernel_rfl) (by decide) ?_
 conv=>whnf
 rw [eqS_refl]
 cases text
 all_goals (conv=>whnf)
 all_goals (refine .inl (hc.mono ?_))
 all_goals (rintro r rfl)
 all_goals (conv=>whnf)
set_option maxHeartbeats 4000000 in
theorem eqRuleS_pure (ys:List Ru) (hl:ys.length≤1048576) (hs:∀ s∈ys,s.Sm):Pure Tryd.prog 35 [.sl (rws Ru.cells ys),.sl (rws Ru.cells ys)] (·=.bool true):=by
 have hlr:=rws_len Ru.cells ys
 have hget:=rws_get Ru.cells ys
 generalize rws Ru.cells ys=rows at *
 refine pure_of_awp good Tryd.func35 rfl (by kernel_rfl) (by decide) ?_
 conv=>whnf
 rw [eqB_refl]
 conv=>whnf
 refine loop_intro (fun n fr st=>∃ i:Nat,n+i=ys.length∧st=[]∧Holds fr [(0,.sl rows),(1,.sl rows),(5,.int .i64 i)]) ys.length
  ⟨0,rfl,rfl,rfl,rfl,rfl,trivial⟩ ?_
 rintro n fr st ⟨i,hi,rfl,hh⟩
 obtain ⟨fr,rfl⟩:=hh.split
 clear hh
 conv=>whnf
 by_cases hlt:i < ys.length
 · rw [hlr,ltB_t (by omega)]
   conv=>whnf
   have hg:=hget i hlt
   have hc:=eqRule_pure ys[i] (hs _ (List.getElem_mem _))
   generalize ys[i]=s at *
   obtain ⟨kind,text,kids⟩:=s
   simp only [Ru.cells] at hg hc
   refine ⟨by omega,rows,_,3,rfl,hg,rfl,rfl,?_⟩
   conv=>whnf
   refine ⟨by omega,rows,_,3,rfl,hg,rfl,rfl,?_⟩
   conv=>whnf
   refine ⟨_,.inl hc,?_⟩
   conv=>whnf
   refine ⟨n - 1,by omega,i+1,by omega,rfl,rfl,rfl,?_,trivial⟩
   show V.int .i64 (IntKind.i64.wrap (i+1))=_
   rw [wrap64 (by omega) (by omega)]; simp
 · rw [hlr,ltB_f (by omega)]
   conv=>whnf
theorem eqSchema_pure (a:Sc) (ha:a.Sm):Pure Tryd.prog 14 [.agg a.cells,.agg a.cells] (·=.bool true):=by
 obtain ⟨_,hn,hx⟩:=ha
 have hc:=eqRuleS_pure a.rules hn hx
 obtain ⟨root,rules⟩:=a
 simp only [Sc.cells] at hc ⊢
 generalize rws Ru.cells rules=rows at *
 refine pure_of_awp good Tryd.func14 rfl (by kernel_rfl) (by decide) ?_
 conv=>whnf
 rw [eqS_refl]
 skip
 all_goals (conv=>whnf)
 all_goals (refine .inl (hc.mono ?_))
 all_goals (rintro r rfl)
 all_goals (conv=>whnf)
end Go.Cod
set_option linter.all false
namespace Go.Cod
variable [Adr]
open Go Go.Proofs
set_option maxRecDepth 10000
def hasR (rs:List Ru) (k:List UInt8):Bool:=rs.any fun r=>decide (r.kind=k)
def idxR (k:List UInt8):List Ru→Int→Int
 | [],_=>-1
 | r::rs,n=>if r.kind=k then n else idxR k rs (n+1)
def textW:List UInt8:=[116,101,120,116]
def itemB (rs:List Ru) (x:It):Bool:=hasR rs x.kind&&!(x.many&&x.may)
def ruleB (rs:List Ru) (r:Ru):Bool:=nameL r.kind&&decide (r.kind≠textW)&&decide (r.kids.length≤4)&&r.kids.all (itemB rs)
def okS (s:Sc):Bool:=decide (s.rules.length≤6)&&hasR s.rules s.root&&s.rules.all (ruleB s.rules)&&decide ((s.rules.map (·.kind)).Nodup)
theorem idxR_drop (k:List UInt8) (rs:List Ru) (i:Nat) (h:i < rs.length) (n:Int):idxR k (rs.drop i) n=if rs[i].kind=k then n else idxR k (rs.drop (i+1)) (n+1):=by
 rw [List.drop_eq_getElem_cons h]; rfl
theorem idxR_has (k:List UInt8):∀ (rs:List Ru) (n:Int),0≤n→(idxR k rs n < 0↔hasR rs k=false)∧(hasR rs k=true→n≤idxR k rs n)
 | [],n,h=>by simp [idxR,hasR]
 | r::rs,n,h=>by
   have ih:=idxR_has k rs (n+1) (by omega)
   have he:hasR (r::rs) k=(decide (r.kind=k)||hasR rs k):=rfl
   simp only [idxR]
   rw [he]
   by_cases hk:r.kind=k
   · simp [hk]; omega
   · rw [if_neg hk]
     simp only [hk,decide_false,Bool.false_or]
     exact ⟨ih.1,fun h=>by have:=ih.2 h; omega⟩
theorem idxR_neg (k:List UInt8) (rs:List Ru):idxR k rs 0 < 0↔hasR rs k=false:=(idxR_has k rs 0 (by omega)).1
theorem hasR_get {rs:List Ru} {i:Nat} (h:i < rs.length):hasR rs rs[i].kind=true:=by
 unfold hasR
 rw [List.any_eq_true]
 exact ⟨rs[i],List.getElem_mem _,by simp⟩
theorem hasR_iff (rs:List Ru) (k:List UInt8):hasR rs k=true↔k∈rs.map (·.kind):=by
 unfold hasR
 rw [List.any_eq_true]
 simp only [List.mem_map,decide_eq_true_eq]
theorem idxR_at (k:List UInt8):∀ (rs:List Ru) (n:Int),0≤n→hasR rs k=true→∃ (i:Nat) (h:i < rs.length),idxR k rs n=n+i∧rs[i].kind=k∧hasR (rs.take i) k=false
 | [],n,_,h=>by simp [hasR] at h
 | r::rs,n,hn,h=>by
   have he:hasR (r::rs) k=(decide (r.kind=k)||hasR rs k):=rfl
   rw [he] at h
   by_cases hk:r.kind=k
   · exact ⟨0,by simp,by simp [idxR,hk],by simpa using hk,rfl⟩
   · simp only [hk,decide_false,Bool.false_or] at h
     obtain ⟨i,hi,h1,h2,h3⟩:=idxR_at k rs (n+1) (by omega) h
     refine ⟨i+1,by simpa using hi,?_,by simpa using h2,?_⟩
     · simp only [idxR,if_neg hk,h1]; omega
     · have:hasR ((r::rs).take (i+1)) k=(decide (r.kind=k)||hasR (rs.take i) k):=rfl
       rw [this,h3]; simp [hk]
theorem idxR_first (rs:List Ru) (i:Nat) (h:i < rs.length):idxR rs[i].kind rs 0=i↔hasR (rs.take i) rs[i].kind=false:=by
 obtain ⟨j,hj,h1,h2,h3⟩:=idxR_at rs[i].kind rs 0 (by omega) (hasR_get h)
 rw [h1]
 constructor
 · intro e
   obtain rfl:j=i:=by omega
   exact h3
 · intro e
   rcases Nat.lt_trichotomy j i with hlt | rfl | hlt
   · exfalso
     have:hasR (rs.take i) rs[i].kind=true:=by
      unfold hasR
      rw [List.any_eq_true]
      exact ⟨rs[j],List.mem_take_iff_getElem.2 ⟨j,by omega,rfl⟩,by simpa using h2⟩
     rw [e] at this; cases this
   · omega
   · exfalso
     have:hasR (rs.take j) rs[i].kind=true:=by
      unfold hasR
      rw [List.any_eq_true]
      exact ⟨rs[i],List.mem_take_iff_getElem.2 ⟨i,by omega,rfl⟩,by simp⟩
     rw [h3] at this; cases this
theorem kinds_take {rs:List Ru} {i:Nat} (h:i < rs.length):((rs.take (i+1)).map (·.kind)).Nodup↔((rs.take i).map (·.kind)).Nodup∧hasR (rs.take i) rs[i].kind=false:=by
 rw [List.take_succ_eq_append_getElem h,List.map_append,List.nodup_append]
 simp only [List.map_cons,List.map_nil,List.nodup_cons,List.not_mem_nil,not_false_eq_true,List.nodup_nil,and_self,List.mem_singleton,forall_eq,true_and]
 rw [← Bool.not_eq_true,hasR_iff]
 exact ⟨fun ⟨a,b⟩=>⟨a,fun h=>b _ h rfl⟩,fun ⟨a,b⟩=>⟨a,fun x hx e=>b (e ▸ hx)⟩⟩
theorem kinds_no {rs:List Ru} {i:Nat} (h:i < rs.length) (hh:hasR (rs.take i) rs[i].kind=true):¬ (rs.map (·.kind)).Nodup:=fun hd=>by
 have h3:((rs.take (i+1)).map (·.kind)).Nodup:=hd.sublist ((List.take_sublist _ _).map _)
 rw [(kinds_take h).1 h3 |>.2] at hh; cases hh
theorem all_take {α:Type} {p:α→Bool} {s:List α} {i:Nat} (h:i < s.length):(s.take (i+1)).all p=((s.take i).all p&&p s[i]):=by
 rw [List.take_succ_eq_append_getElem h,List.all_append]; simp
theorem all_no {α:Type} {p:α→Bool} {s:List α} {i:Nat} (h:i < s.length) (hp:p s[i]=false):s.all p=false:=by
 rw [List.all_eq_false]; exact ⟨s[i],List.getElem_mem _,by simp [hp]⟩
set_option maxHeartbeats 4000000 in
theorem l3Rule_pure (s:Sc) (k:List UInt8) (hn:s.rules.length≤1048576):Pure Tryd.prog 33 [.agg s.cells,.str k] (·=.int .i64 (idxR k s.rules 0)):=by
 have hd:idxR k s.rules 0=idxR k (s.rules.drop 0) ((0:Nat):Int):=rfl
 generalize idxR k s.rules 0=res at *
 obtain ⟨root,rules⟩:=s
 simp only [Sc.cells] at hn hd ⊢
 have hlr:=rws_len Ru.cells rules
 have hgr:=rws_get Ru.cells rules
 generalize rws Ru.cells rules=rows at *
 refine pure_of_awp good Tryd.func33 rfl (by kernel_rfl) (by decide) ?_
 conv=>whnf
 refine loop_intro (fun n fr st=>st=[⟨[[.str root,.sl rows]],2,true,true,true,.cell⟩]∧∃ i:Nat,n+i=rules.length∧res=idxR k (rules.drop i) i∧Holds fr [(1,.str k),(2,.ptr 0 0 0),(5,.int .i64 i)]) rules.length ⟨rfl,0,rfl,hd,rfl,rfl,rfl,trivial⟩ ?_
 rintro n fr st ⟨rfl,i,hi,hr,hh⟩
 obtain ⟨fr,rfl⟩:=hh.split
 clear hh
 conv=>whnf
 by_cases hlt:i < rules.length
 · rw [hlr,ltB_t (by omega)]
   conv=>whnf
   have hg:=hgr i hlt
   have hs:=idxR_drop k rules i hlt i
   generalize rules[i]=x at *
   obtain ⟨kind,text,kids⟩:=x
   simp only [Ru.cells] at hg hs
   refine ⟨by omega,rows,_,3,rfl,hg,rfl,rfl,?_⟩
   conv=>whnf
   by_cases hk:kind=k
   · rw [eqS_t hk]
     conv=>whnf
     rw [hr,hs,if_pos hk]
   · rw [eqS_f hk]
     conv=>whnf
     refine ⟨n - 1,by omega,rfl,i+1,by omega,?_,rfl,rfl,?_,trivial⟩
     · rw [hr,hs,if_neg hk]; rfl
     · show V.int .i64 (IntKind.i64.wrap (i+1))=_
       rw [wrap64 (by omega) (by omega)]; simp
 · rw [hlr,ltB_f (by omega)]
   conv=>whnf
   rw [hr,List.drop_of_length_le (by omega)]
   rfl
end Go.Cod
set_option linter.all false
namespace Go.Cod
variable [Adr]
open Go Go.Proofs
set_option maxRecDepth 10000
theorem itemB_def (rs:List Ru) (x:It):itemB rs x=(hasR rs x.kind&&!(x.many&&x.may)):=rfl
theorem okS_def (s:Sc):okS s=(decide (s.rules.length≤6)&&hasR s.rules s.root&&s.rules.all (ruleB s.rules)&&decide ((s.rules.map (·.kind)).Nodup)):=rfl
set_option maxHeartbeats 8000000 in
theorem specSchemaOk_pure (s:Sc) (hs:s.Sm):Pure Tryd.prog 13 [.agg s.cells] (·=.bool (okS s)):=by
 have f1:=fun k=>l3Rule_pure s k hs.2.1
 have hO:=okS_def s
 generalize okS s=res at *
 obtain ⟨root,rules⟩:=s
 obtain ⟨_,hn,hx⟩:=hs
 simp only [Sc.cells] at f1 hn hx hO ⊢
 have hlr:=rws_len Ru.cells rules
 have hgr:=rws_get Ru.cells rules
 have hneg:=fun k=>idxR_neg k rules
 have hfst:=idxR_first rules
 have hkt:=fun i (h:i < rules.length)=>kinds_take h
 have hkn:=fun i (h:i < rules.length)=>kinds_no h
 generalize rws Ru.cells rules=rows at *
 refine pure_of_awp good Tryd.func13 rfl (by kernel_rfl) (by decide) ?_
 conv=>whnf
 refine .inl ((l1In_pure _ _ _).mono ?_)
 rintro r rfl
 rw [hlr]
 by_cases hA:1≤(rules.length:Int)∧(rules.length:Int)≤6
 case neg =>
  rw [decide_eq_false hA]
  conv=>whnf
  rw [hO]
  by_cases h6:rules.length≤6
  · have:rules=[]:=List.length_eq_zero_iff.1 (by omega)
    subst this
    rfl
  · rw [decide_eq_false h6]; rfl
 rw [decide_eq_true hA]
 conv=>whnf
 refine .inl ((f1 root).mono ?_)
 rintro r rfl
 by_cases hB:idxR root rules 0 < 0
 · have hb:=(hneg root).1 hB
   generalize idxR root rules 0=v at *
   conv=>whnf
   rw [ltB_t hB]
   conv=>whnf
   rw [hO,hb]; simp
 have hb:hasR rules root=true:=by
  cases h:hasR rules root with
  | true=>rfl
  | false=>exact absurd ((hneg root).2 h) hB
 generalize idxR root rules 0=v at *
 conv=>whnf
 rw [ltB_f (by omega)]
 rw [hb,decide_eq_true (show rules.length≤6 by omega),Bool.true_and,Bool.true_and] at hO
 conv=>whnf
 refine loop_drop (fun n fr st=>∃ i:Nat,n+i=rules.length∧(rules.take i).all (ruleB rules)=true∧((rules.take i).map (·.kind)).Nodup∧st=[⟨[[.str root,.sl rows]],2,true,true,true,.cell⟩]∧Holds fr [(1,.ptr 0 0 0),(3,.int .i64 i)]) rules.length none ⟨0,rfl,rfl,by simp,rfl,rfl,rfl,trivial⟩ ?_
 rintro n fr st ⟨i,hi,hal,hnd,rfl,hh⟩
 obtain ⟨fr,rfl⟩:=hh.split
 clear hh
 conv=>whnf
 by_cases hlt:i < rules.length
 · rw [hlr,ltB_t (by omega)]
   conv=>whnf
   have hg:=hgr i hlt
   have hxi:=hx rules[i] (List.getElem_mem _)
   have hat:=all_take (p:=ruleB rules) hlt
   have hano:=all_no (p:=ruleB rules) hlt
   have hf:=hfst i hlt
   have hk1:=hkt i hlt
   have hk2:=hkn i hlt
   have hrd:ruleB rules rules[i]=(nameL rules[i].kind&&decide (rules[i].kind≠textW)&&decide (rules[i].kids.length≤4)&&rules[i].kids.all (itemB rules)):=rfl
   generalize rules[i]=x at *
   obtain ⟨kind,text,kids⟩:=x
   obtain ⟨g1,g2,g3⟩:=hxi
   simp only [Ru.cells] at hg hat hano hf hk1 hk2 hrd g1 g2 g3
   have hlk:=rws_len It.cells kids
   have hgk:=rws_get It.cells kids
   generalize rws It.cells kids=krows at *
   refine ⟨by omega,rows,_,3,rfl,hg,rfl,rfl,?_⟩
   conv=>whnf
   refine .inl ((l2Name_pure kind (by omega)).mono ?_)
   rintro r rfl
   cases hN:nameL kind with
   | false =>
     conv=>whnf
     rw [hO,hano (by rw [hrd,hN]; rfl)]; rfl
   | true =>
     conv=>whnf
     by_cases hT:kind=[116,101,120,116]
     · rw [eqS_t hT]
       conv=>whnf
       rw [hO,hano (by rw [hrd,hN,decide_eq_false (by simp [textW,hT])]; rfl)]; rfl
     rw [eqS_f hT]
     rw [hN,decide_eq_true (show kind≠textW from hT),Bool.true_and,Bool.true_and] at hrd
     conv=>whnf
     refine .inl ((f1 kind).mono ?_)
     rintro r rfl
     by_cases hF:idxR kind rules 0=i
     case neg =>
      have hh:hasR (rules.take i) kind=true:=by
       cases h:hasR (rules.take i) kind with
       | true=>rfl
       | false=>exact absurd (hf.2 h) hF
      generalize idxR kind rules 0=v at *
      conv=>whnf
      rw [eqB_f hF]
      conv=>whnf
      rw [hO,decide_eq_false (hk2 hh)]; simp
     have hh:=hf.1 hF
     generalize idxR kind rules 0=v at *
     subst hF
     conv=>whnf
     rw [eqB_refl]
     conv=>whnf
     rw [hlk]
     by_cases hK:(kids.length:Int)≤4
     case neg =>
      rw [ltB_t (by omega)]
      conv=>whnf
      rw [hO,hano (by rw [hrd,decide_eq_false (by omega)]; rfl)]; rfl
     rw [ltB_f (by omega)]
     rw [decide_eq_true (show kids.length≤4 by omega),Bool.true_and] at hrd
     conv=>whnf
     refine loop_intro (fun n fr st=>∃ j:Nat,n+j=kids.length∧(kids.take j).all (itemB rules)=true∧st=[⟨[[.str root,.sl rows]],2,true,true,true,.cell⟩,⟨[[.str kind,.bool text,.sl krows]],3,true,true,true,.cell⟩]∧Holds fr [(1,.ptr 0 0 0),(3,.int .i64 i),(4,.ptr 1 0 0),(5,.int .i64 j)]) kids.length ⟨0,rfl,rfl,rfl,rfl,rfl,rfl,rfl,trivial⟩ ?_
     rintro n2 fr st ⟨j,hj,hja,rfl,hh2⟩
     obtain ⟨fr,rfl⟩:=hh2.split
     clear hh2
     conv=>whnf
     by_cases hjt:j < kids.length
     · rw [hlk,ltB_t (by omega)]
       conv=>whnf
       have hgj:=hgk j hjt
       have hjs:=all_take (p:=itemB rules) hjt
       have hjno:=all_no (p:=itemB rules) hjt
       have hjd:=itemB_def rules kids[j]
       generalize kids[j]=y at *
       obtain ⟨yk,ym,yy⟩:=y
       simp only [It.cells] at hgj hjd
       repeat (first
        | (refine ⟨by omega,krows,_,3,rfl,hgj,rfl,rfl,?_⟩
           conv=>whnf)
        | (refine ⟨_,.inl (f1 yk),?_⟩
           conv=>whnf))
       by_cases hY:idxR yk rules 0 < 0
       · have hy0:=(hneg yk).1 hY
         generalize idxR yk rules 0=v at *
         rw [ltB_t hY]
         conv=>whnf
         rw [hO,hano (by rw [hrd,hjno (by rw [hjd,hy0]; rfl)])]; rfl
       have hy1:hasR rules yk=true:=by
        cases h:hasR rules yk with
        | true=>rfl
        | false=>exact absurd ((hneg yk).2 h) hY
       generalize idxR yk rules 0=v at *
       rw [ltB_f (by omega)]
       rw [hy1,Bool.true_and] at hjd
       conv=>whnf
       refine ⟨by omega,krows,_,3,rfl,hgj,rfl,rfl,?_⟩
       cases ym with
       | false =>
         conv=>whnf
         refine ⟨n2 - 1,by omega,j+1,by omega,by rw [hjs,hja,hjd]; rfl,rfl,rfl,rfl,rfl,?_,trivial⟩
         show V.int .i64 (IntKind.i64.wrap (j+1))=_
         rw [wrap64 (by omega) (by omega)]; simp
       | true =>
         conv=>whnf
         refine ⟨by omega,krows,_,3,rfl,hgj,rfl,rfl,?_⟩
         cases yy with
         | true =>
           conv=>whnf
           rw [hO,hano (by rw [hrd,hjno (by rw [hjd]; rfl)])]; rfl
         | false =>
           conv=>whnf
           refine ⟨n2 - 1,by omega,j+1,by omega,by rw [hjs,hja,hjd]; rfl,rfl,rfl,rfl,rfl,?_,trivial⟩
           show V.int .i64 (IntKind.i64.wrap (j+1))=_
           rw [wrap64 (by omega) (by omega)]; simp
     · rw [hlk,ltB_f (by omega)]
       conv=>whnf
       rw [List.take_of_length_le (by omega)] at hja
       rw [hja] at hrd
       refine ⟨n - 1,by omega,some [0],i+1,by omega,?_,hk1.2 ⟨hnd,hh⟩,rfl,rfl,?_,trivial⟩
       · rw [hat,hal,hrd]; rfl
       · show V.int .i64 (IntKind.i64.wrap (i+1))=_
         rw [wrap64 (by omega) (by omega)]; simp
 · rw [hlr,ltB_f (by omega)]
   conv=>whnf
   rw [List.take_of_length_le (by omega)] at hal hnd
   rw [hO,hal,decide_eq_true hnd]; rfl
end Go.Cod
set_option linter.all false
namespace Go.Cod
variable [Adr]
open Go Go.Proofs
set_option maxRecDepth 10000
def noRule:List V:=[.str [],.bool false,.sl []]
def ruleOf (rs:List Ru) (k:List UInt8):List V:=match rs.find? fun r=>decide (r.kind=k) with
 | some r=>r.cells
 | none=>noRule
def ruleErr (rs:List Ru) (k:List UInt8):V:=if hasR rs k=true then nilErr else errV 2
theorem find_drop (rs:List Ru) (k:List UInt8) (i:Nat) (h:i < rs.length):ruleOf (rs.drop i) k=if rs[i].kind=k then rs[i].cells else ruleOf (rs.drop (i+1)) k:=by
 rw [List.drop_eq_getElem_cons h]
 unfold ruleOf
 by_cases hk:rs[i].kind=k
 · simp [List.find?,hk]
 · simp [List.find?,hk]
theorem hasR_drop (rs:List Ru) (k:List UInt8) (i:Nat) (h:i < rs.length):hasR (rs.drop i) k=(decide (rs[i].kind=k)||hasR (rs.drop (i+1)) k):=by
 rw [List.drop_eq_getElem_cons h]; rfl
set_option maxHeartbeats 4000000 in
theorem schemaRule_pure (rs:List Ru) (k:List UInt8) (hn:rs.length≤1048576):Pure Tryd.prog 61 [.sl (rws Ru.cells rs),.str k] (·=.tup [.agg (ruleOf rs k),ruleErr rs k]):=by
 have hlr:=rws_len Ru.cells rs
 have hgr:=rws_get Ru.cells rs
 have hd:ruleOf rs k=ruleOf (rs.drop 0) k:=rfl
 have hd2:hasR rs k=hasR (rs.drop 0) k:=rfl
 have he:ruleErr rs k=if hasR rs k=true then nilErr else errV 2:=rfl
 generalize ruleErr rs k=er at *
 generalize ruleOf rs k=res at *
 generalize hasR rs k=hb at *
 generalize rws Ru.cells rs=rows at *
 refine pure_of_awp good Tryd.func61 rfl (by kernel_rfl) (by decide) ?_
 conv=>whnf
 refine loop_drop (fun n fr st=>∃ i:Nat,n+i=rs.length∧res=ruleOf (rs.drop i) k∧hb=hasR (rs.drop i) k∧st=[⟨[[.str [],.bool false,.nils]],3,true,true,true,.cell⟩]∧Holds fr [(1,.str k),(4,.ptr 0 0 0),(5,nilErr),(8,.sl rows),(9,.int .i64 rs.length),(10,.int .i64 i)]) rs.length none ⟨0,rfl,hd,hd2,rfl,rfl,rfl,rfl,rfl,by rw [← hlr]; rfl,rfl,trivial⟩ ?_
 rintro n fr st ⟨i,hi,hr,hr2,rfl,hh⟩
 obtain ⟨fr,rfl⟩:=hh.split
 clear hh
 conv=>whnf
 by_cases hlt:i < rs.length
 · rw [ltB_t (by omega)]
   conv=>whnf
   have hg:=hgr i hlt
   have hs:=find_drop rs k i hlt
   have hs2:=hasR_drop rs k i hlt
   generalize rs[i]=x at *
   obtain ⟨kind,text,kids⟩:=x
   simp only [Ru.cells] at hg hs hs2
   refine ⟨by omega,rows,_,3,rfl,hg,rfl,rfl,?_⟩
   conv=>whnf
   by_cases hk:kind=k
   · rw [eqS_t hk]
     conv=>whnf
     rw [hr,hs,if_pos hk]
     rw [hr2,hs2,decide_eq_true hk] at he
     rw [he]; rfl
   · rw [eqS_f hk]
     conv=>whnf
     refine ⟨n - 1,by omega,some [0],i+1,by omega,?_,?_,rfl,rfl,rfl,rfl,rfl,rfl,?_,trivial⟩
     · rw [hr,hs,if_neg hk]
     · rw [hr2,hs2,decide_eq_false hk]; rfl
     · show V.int .i64 (IntKind.i64.wrap (i+1))=_
       rw [wrap64 (by omega) (by omega)]; simp
 · rw [ltB_f (by omega)]
   rw [List.drop_of_length_le (by omega)] at hr hr2
   rw [hr2] at he
   have hr:res=noRule:=hr
   have he:er=errV 2:=he
   conv=>whnf
   refine And.intro (by (conv=>whnf); first | done | rfl) ?_
   conv=>whnf
   rw [hr,he]; rfl
end Go.Cod
set_option linter.all false
namespace Go.Cod
variable [Adr]
open Go Go.Proofs
set_option maxRecDepth 10000
theorem ruleOf_cells (rs:List Ru) (k:List UInt8):∃ r:Ru,ruleOf rs k=r.cells:=by
 unfold ruleOf
 split
 · exact ⟨_,rfl⟩
 · exact ⟨⟨[],false,[]⟩,rfl⟩
theorem schemaHas_pure (rs:List Ru) (k:List UInt8) (hn:rs.length≤1048576):Pure Tryd.prog 49 [.sl (rws Ru.cells rs),.str k] (·=.bool (hasR rs k)):=by
 have f1:=schemaRule_pure rs k hn
 have he:ruleErr rs k=if hasR rs k=true then nilErr else errV 2:=rfl
 obtain ⟨r0,hr0⟩:=ruleOf_cells rs k
 rw [hr0] at f1
 generalize ruleErr rs k=er at *
 generalize hasR rs k=hb at *
 generalize rws Ru.cells rs=rows at *
 obtain ⟨a,b,c⟩:=r0
 simp only [Ru.cells] at f1
 refine pure_of_awp good Tryd.func49 rfl (by kernel_rfl) (by decide) ?_
 conv=>whnf
 refine .inl (f1.mono ?_)
 rintro r rfl
 cases hb with
 | true =>
   rw [he]
   conv=>whnf
   refine .inl ((errorsIs_nil 2).mono ?_)
   rintro r rfl
   conv=>whnf
   rfl
 | false =>
   rw [he]
   conv=>whnf
   refine .inl ((errorsIs_same 2).mono ?_)
   rintro r rfl
   conv=>whnf
   rfl
def isErr (x:V):Prop:=∃ a:Addr,x=.raw (.iface 114 (.pointer (some a)))
def faultIs (b:Bool) (x:V):Prop:=match b with
 | true=>x=nilErr
 | false=>isErr x
set_option maxHeartbeats 8000000 in
theorem itemsFault_pure (s:Sc) (hs:s.Sm) (xs:List It) (hx:xs.length≤1048576):Pure Tryd.prog 50 [.agg s.cells,.sl (rws It.cells xs)] (faultIs (decide (xs.length≤4)&&xs.all (itemB s.rules))):=by
 have f1:=fun k=>schemaHas_pure s.rules k hs.2.1
 have hd:∀ x:It,itemB s.rules x=(hasR s.rules x.kind&&!(x.many&&x.may)):=fun x=>rfl
 obtain ⟨root,rules⟩:=s
 simp only [Sc.cells] at f1 hd ⊢
 generalize rws Ru.cells rules=rrows at *
 generalize itemB rules=p at *
 have hF:faultIs (decide (xs.length≤4)&&xs.all p)=fun x=>faultIs (decide (xs.length≤4)&&xs.all p) x:=rfl
 generalize hres:(decide (xs.length≤4)&&xs.all p)=res at *
 have hlr:=rws_len It.cells xs
 have hgr:=rws_get It.cells xs
 generalize rws It.cells xs=rows at *
 refine pure_of_awp good Tryd.func50 rfl (by kernel_rfl) (by decide) ?_
 conv=>whnf
 rw [hlr]
 by_cases a1:(4:Int) < (xs.length:Int)
 · rw [ltB_t a1]
   rw [decide_eq_false (by omega),Bool.false_and] at hres
   subst hres
   conv=>whnf
   exact ⟨_,rfl⟩
 rw [ltB_f (by omega)]
 rw [decide_eq_true (by omega),Bool.true_and] at hres
 conv=>whnf
 refine loop_drop (fun n fr st=>∃ i:Nat,n+i=xs.length∧(xs.take i).all p=true∧st=[⟨[[.str root,.sl rrows]],2,true,true,true,.cell⟩]∧Holds fr [(2,.ptr 0 0 0),(11,.sl rows),(12,.int .i64 xs.length),(13,.int .i64 i)]) xs.length none ⟨0,rfl,rfl,rfl,rfl,rfl,by rw [← hlr]; rfl,rfl,trivial⟩ ?_
 rintro n fr st ⟨i,hi,hal,rfl,hh⟩
 obtain ⟨fr,rfl⟩:=hh.split
 clear hh
 conv=>whnf
 by_cases hlt:i < xs.length
 · rw [ltB_t (by omega)]
   conv=>whnf
   have hg:=hgr i hlt
   have hat:=all_take (p:=p) hlt
   have hano:=all_no (p:=p) hlt
   have hx:=hd xs[i]
   generalize xs[i]=y at *
   obtain ⟨yk,ym,yy⟩:=y
   simp only [It.cells] at hg hx
   refine ⟨by omega,rows,_,3,rfl,hg,rfl,rfl,?_⟩
   have h2:∀ b c,(b&&c)=true∨(b&&c)=false:=fun b c=>by cases b <;> cases c <;> simp
   have key:(∀ fr0:Nat→V,True):=fun _=>trivial
   cases ym <;> cases yy
   case true.true =>
    conv=>whnf
    rw [← hres,hano (by rw [hx]; cases hasR rules yk <;> rfl)]
    exact ⟨_,rfl⟩
   all_goals
    conv=>whnf
    refine .inl ((f1 yk).mono ?_)
    rintro r rfl
    generalize hasR rules yk=hb at *
    cases hb with
    | false =>
      conv=>whnf
      rw [← hres,hano (by rw [hx]; rfl)]
      exact ⟨_,rfl⟩
    | true =>
      conv=>whnf
      refine ⟨n - 1,by omega,some [0],i+1,by omega,by rw [hat,hal,hx]; rfl,rfl,rfl,rfl,rfl,?_,trivial⟩
      show V.int .i64 (IntKind.i64.wrap (i+1))=_
      rw [wrap64 (by omega) (by omega)]; simp
 · rw [ltB_f (by omega)]
   rw [List.take_of_length_le (by omega)] at hal
   rw [hal] at hres
   subst hres
   conv=>whnf
set_option maxHeartbeats 8000000 in
theorem schemaFault_pure (s:Sc) (hs:s.Sm):Pure Tryd.prog 31 [.agg s.cells] (faultIs (okS s)):=by
 have f1:=fun k=>schemaHas_pure s.rules k hs.2.1
 have f1t:=fun i k=>schemaHas_pure (s.rules.take i) k (by rw [List.length_take]; have:=hs.2.1; omega)
 have f2:=itemsFault_pure s hs
 have hO:=okS_def s
 generalize okS s=res at *
 obtain ⟨root,rules⟩:=s
 obtain ⟨_,hn,hx⟩:=hs
 simp only [Sc.cells] at f1 f1t f2 hn hx hO ⊢
 have hlr:=rws_len Ru.cells rules
 have hgr:=rws_get Ru.cells rules
 have htk:=rws_take Ru.cells rules
 have hwid:=rws_wid Ru.cells Ru.len rules
 have hkt:=fun i (h:i < rules.length)=>kinds_take h
 have hkn:=fun i (h:i < rules.length)=>kinds_no h
 simp only [← htk] at f1t
 generalize rws Ru.cells rules=rows at *
 refine pure_of_awp good Tryd.func31 rfl (by kernel_rfl) (by decide) ?_
 conv=>whnf
 rw [hlr]
 by_cases a1:(6:Int) < (rules.length:Int)
 · rw [ltB_t a1]
   rw [decide_eq_false (by omega)] at hO
   conv=>whnf
   rw [hO]
   exact ⟨_,rfl⟩
 rw [ltB_f (by omega)]
 rw [decide_eq_true (by omega),Bool.true_and] at hO
 conv=>whnf
 refine loop_drop (fun n fr st=>∃ i:Nat,n+i=rules.length∧(rules.take i).all (ruleB rules)=true∧((rules.take i).map (·.kind)).Nodup∧st=[⟨[[.str root,.sl rows]],2,true,true,true,.cell⟩]∧Holds fr [(1,.ptr 0 0 0),(12,.sl rows),(13,.int .i64 rules.length),(14,.int .i64 i)]) rules.length none ⟨0,rfl,rfl,by simp,rfl,rfl,rfl,by rw [← hlr]; rfl,rfl,trivial⟩ ?_
 rintro n fr st ⟨i,hi,hal,hnd,rfl,hh⟩
 obtain ⟨fr,rfl⟩:=hh.split
 clear hh
 conv=>whnf
 by_cases hlt:i < rules.length
 · rw [ltB_t (by omega)]
   conv=>whnf
   have hg:=hgr i hlt
   have hxi:=hx rules[i] (List.getElem_mem _)
   have hat:=all_take (p:=ruleB rules) hlt
   have hano:=all_no (p:=ruleB rules) hlt
   have hk1:=hkt i hlt
   have hk2:=hkn i hlt
   have hrd:ruleB rules rules[i]=(nameL rules[i].kind&&decide (rules[i].kind≠textW)&&decide (rules[i].kids.length≤4)&&rules[i].kids.all (itemB rules)):=rfl
   generalize rules[i]=x at *
   obtain ⟨kind,text,kids⟩:=x
   obtain ⟨g1,g2,g3⟩:=hxi
   simp only [Ru.cells] at hg hat hano hk1 hk2 hrd g1 g2 g3
   have f2:=f2 kids (by omega)
   have f4:=f1t i kind
   generalize rws It.cells kids=krows at *
   refine ⟨by omega,rows,_,3,rfl,hg,rfl,rfl,?_⟩
   conv=>whnf
   refine ⟨_,.inl (nameOk_pure kind (by omega)),?_⟩
   cases hN:nameL kind with
   | false =>
     conv=>whnf
     rw [hO,hano (by rw [hrd,hN]; rfl),Bool.and_false,Bool.false_and]
     exact ⟨_,rfl⟩
   | true =>
     conv=>whnf
     by_cases hT:kind=[116,101,120,116]
     · rw [eqS_t hT]
       conv=>whnf
       rw [hO,hano (by rw [hrd,hN,decide_eq_false (by simp [textW,hT])]; rfl),Bool.and_false,Bool.false_and]
       exact ⟨_,rfl⟩
     rw [eqS_f hT]
     rw [hN,decide_eq_true (show kind≠textW from hT),Bool.true_and,Bool.true_and] at hrd
     conv=>whnf
     refine ⟨hwid,?_⟩
     conv=>whnf
     refine ⟨by omega,by omega,?_⟩
     conv=>whnf
     refine ⟨rfl,?_⟩
     conv=>whnf
     refine ⟨_,.inl f4,?_⟩
     generalize hasR (rules.take i) kind=hb at *
     cases hb with
     | true =>
       conv=>whnf
       rw [hO,decide_eq_false (hk2 rfl),Bool.and_false]
       exact ⟨_,rfl⟩
     | false =>
       conv=>whnf
       refine .inl (f2.mono ?_)
       intro r hr
       generalize hbb:(decide (kids.length≤4)&&kids.all (itemB rules))=bb at *
       cases bb with
       | true =>
         obtain rfl:r=nilErr:=hr
         conv=>whnf
         refine ⟨n - 1,by omega,some [0],i+1,by omega,by rw [hat,hal,hrd]; rfl,hk1.2 ⟨hnd,rfl⟩,rfl,rfl,rfl,rfl,?_,trivial⟩
         show V.int .i64 (IntKind.i64.wrap (i+1))=_
         rw [wrap64 (by omega) (by omega)]; simp
       | false =>
         obtain ⟨a,rfl⟩:isErr r:=hr
         conv=>whnf
         rw [hO,hano (by rw [hrd]),Bool.and_false,Bool.false_and]
         exact ⟨_,rfl⟩
 · rw [ltB_f (by omega)]
   rw [List.take_of_length_le (by omega)] at hal hnd
   rw [hal,decide_eq_true hnd,Bool.and_true,Bool.and_true] at hO
   have f1:=f1 root
   generalize hasR rules root=hb at *
   subst hO
   conv=>whnf
   refine .inl (f1.mono ?_)
   rintro r rfl
   cases res with
   | false =>
     conv=>whnf
     exact ⟨_,rfl⟩
   | true =>
     conv=>whnf
theorem implSchemaOk_pure (s:Sc) (hs:s.Sm):Pure Tryd.prog 12 [.agg s.cells] (·=.bool (okS s)):=by
 have f1:=schemaFault_pure s hs
 generalize okS s=res at *
 obtain ⟨root,rules⟩:=s
 simp only [Sc.cells] at f1 ⊢
 generalize rws Ru.cells rules=rows at *
 refine pure_of_awp good Tryd.func12 rfl (by kernel_rfl) (by decide) ?_
 conv=>whnf
 refine .inl (f1.mono ?_)
 intro r hr
 cases res with
 | true =>
   obtain rfl:r=nilErr:=hr
   conv=>whnf
 | false =>
   obtain ⟨a,rfl⟩:isErr r:=hr
   conv=>whnf
end Go.Cod
set_option linter.all false
namespace Go.Cod
variable [Adr]
open Go Go.Proofs
set_option maxRecDepth 10000
def itW (x:It):List UInt8:=x.kind++((if x.many then [42] else [])++(if x.may then [63] else []))
def itsW (xs:List It):List UInt8:=xs.flatMap fun x=>[32]++itW x
def ruW (r:Ru):List UInt8:=r.kind++((if r.text then [32,116,101,120,116] else [])++([58]++(itsW r.kids++[10])))
def scW (s:Sc):List UInt8:=[114,111,111,116,32]++(s.root++([10]++s.rules.flatMap ruW))
theorem itW_len (x:It) (hk:x.kind.length≤1048576):(itW x).length≤1048578:=by
 unfold itW
 simp only [List.length_append]
 split <;> split <;> simp <;> omega
theorem flatMap_take {α:Type} (f:α→List UInt8) (xs:List α) (i:Nat) (h:i < xs.length):(xs.take (i+1)).flatMap f=(xs.take i).flatMap f++f xs[i]:=by
 rw [List.take_succ_eq_append_getElem h,List.flatMap_append]
 simp
set_option maxHeartbeats 4000000 in
theorem l3Write_pure (r:Ru) (hl:r.kids.length≤1048576) (h:∀ x∈r.kids,x.kind.length≤1048576) (hk:r.kind.length≤1048576):Pure Tryd.prog 30 [.agg r.cells] (·=.str (ruW r)):=by
 obtain ⟨k,t,xs⟩:=r
 simp only at hl h hk
 have hlr:=rws_len It.cells xs
 have hgr:=rws_get It.cells xs
 show Pure Tryd.prog _ [.agg [.str k,.bool t,.sl (rws It.cells xs)]] _
 generalize rws It.cells xs=rows at *
 have hw:ruW ⟨k,t,xs⟩=(k++(if t then [32,116,101,120,116] else []))++[58]++itsW xs++[10]:=by simp [ruW]
 rw [hw]
 refine pure_of_awp good Tryd.func30 rfl (by kernel_rfl) (by decide) ?_
 cases t
 · conv=>whnf
   refine ⟨by show k.length+1≤_; omega,?_⟩
   conv=>whnf
   refine loop_intro (fun n fr st=>∃ i:Nat,n+i=xs.length∧st=[⟨[[.str k,.bool false,.sl rows]],3,true,true,true,.cell⟩]∧(itsW (xs.take i)).length≤1048600*i∧Holds fr [(1,.ptr 0 0 0),(3,.str ((k++[58])++itsW (xs.take i))),(4,.int .i64 i)]) xs.length
    ⟨0,rfl,rfl,by simp [itsW],rfl,by simp [itsW]; rfl,rfl,trivial⟩ ?_
   rintro n fr st ⟨i,hi,rfl,hlen,hh⟩
   obtain ⟨fr,rfl⟩:=hh.split
   clear hh
   conv=>whnf
   rw [hlr]
   by_cases hlt:i < xs.length
   · rw [ltB_t (by omega)]
     conv=>whnf
     have hg:=hgr i hlt
     have hmem:xs[i]∈xs:=List.getElem_mem _
     have htk:itsW (xs.take (i+1))=itsW (xs.take i)++([32]++itW xs[i]):=flatMap_take _ xs i hlt
     have hl1:=h _ hmem
     generalize xs[i]=x at *
     generalize itsW (xs.take i)=acc at *
     obtain ⟨xk,xm,xy⟩:=x
     simp only at hl1
     refine ⟨by simp; omega,?_⟩
     conv=>whnf
     refine ⟨by omega,rows,_,3,rfl,hg,rfl,rfl,?_⟩
     conv=>whnf
     refine ⟨by simp; omega,?_⟩
     conv=>whnf
     refine ⟨by omega,rows,_,3,rfl,hg,rfl,rfl,?_⟩
     conv=>whnf
     have hwl:=itW_len ⟨xk,xm,xy⟩ hl1
     cases xm with
     | true =>
       conv=>whnf
       refine ⟨by simp; omega,?_⟩
       conv=>whnf
       refine ⟨by omega,rows,_,3,rfl,hg,rfl,rfl,?_⟩
       conv=>whnf
       cases xy with
       | true =>
         conv=>whnf
         refine ⟨by simp; omega,?_⟩
         conv=>whnf
         refine ⟨n - 1,by omega,i+1,by omega,rfl,?_,rfl,?_,?_,trivial⟩
         · rw [htk]; simp; omega
         · show V.str _=_
           rw [htk]; simp [itW]
         · show V.int .i64 (IntKind.i64.wrap (i+1))=_
           rw [wrap64 (by omega) (by omega)]; simp
       | false =>
         conv=>whnf
         refine ⟨n - 1,by omega,i+1,by omega,rfl,?_,rfl,?_,?_,trivial⟩
         · rw [htk]; simp; omega
         · show V.str _=_
           rw [htk]; simp [itW]
         · show V.int .i64 (IntKind.i64.wrap (i+1))=_
           rw [wrap64 (by omega) (by omega)]; simp
     | false =>
       conv=>whnf
       refine ⟨by omega,rows,_,3,rfl,hg,rfl,rfl,?_⟩
       conv=>whnf
       cases xy with
       | true =>
         conv=>whnf
         refine ⟨by simp; omega,?_⟩
         conv=>whnf
         refine ⟨n - 1,by omega,i+1,by omega,rfl,?_,rfl,?_,?_,trivial⟩
         · rw [htk]; simp; omega
         · show V.str _=_
           rw [htk]; simp [itW]
         · show V.int .i64 (IntKind.i64.wrap (i+1))=_
           rw [wrap64 (by omega) (by omega)]; simp
       | false =>
         conv=>whnf
         refine ⟨n - 1,by omega,i+1,by omega,rfl,?_,rfl,?_,?_,trivial⟩
         · rw [htk]; simp; omega
         · show V.str _=_
           rw [htk]; simp [itW]
         · show V.int .i64 (IntKind.i64.wrap (i+1))=_
           rw [wrap64 (by omega) (by omega)]; simp
   · rw [ltB_f (by omega)]
     conv=>whnf
     rw [List.take_of_length_le (by omega)]
     rw [List.take_of_length_le (by omega)] at hlen
     refine ⟨by simp; omega,?_⟩
     conv=>whnf
     show V.str _=_
     simp
 · conv=>whnf
   refine ⟨by show k.length+5≤_; omega,?_⟩
   conv=>whnf
   refine ⟨by simp; omega,?_⟩
   conv=>whnf
   refine loop_intro (fun n fr st=>∃ i:Nat,n+i=xs.length∧st=[⟨[[.str k,.bool true,.sl rows]],3,true,true,true,.cell⟩]∧(itsW (xs.take i)).length≤1048600*i∧Holds fr [(1,.ptr 0 0 0),(3,.str (((k++[32,116,101,120,116])++[58])++itsW (xs.take i))),(4,.int .i64 i)]) xs.length
    ⟨0,rfl,rfl,by simp [itsW],rfl,by simp [itsW]; rfl,rfl,trivial⟩ ?_
   rintro n fr st ⟨i,hi,rfl,hlen,hh⟩
   obtain ⟨fr,rfl⟩:=hh.split
   clear hh
   conv=>whnf
   rw [hlr]
   by_cases hlt:i < xs.length
   · rw [ltB_t (by omega)]
     conv=>whnf
     have hg:=hgr i hlt
     have hmem:xs[i]∈xs:=List.getElem_mem _
     have htk:itsW (xs.take (i+1))=itsW (xs.take i)++([32]++itW xs[i]):=flatMap_take _ xs i hlt
     have hl1:=h _ hmem
     generalize xs[i]=x at *
     generalize itsW (xs.take i)=acc at *
     obtain ⟨xk,xm,xy⟩:=x
     simp only at hl1
     refine ⟨by simp; omega,?_⟩
     conv=>whnf
     refine ⟨by omega,rows,_,3,rfl,hg,rfl,rfl,?_⟩
     conv=>whnf
     refine ⟨by simp; omega,?_⟩
     conv=>whnf
     refine ⟨by omega,rows,_,3,rfl,hg,rfl,rfl,?_⟩
     conv=>whnf
     have hwl:=itW_len ⟨xk,xm,xy⟩ hl1
     cases xm with
     | true =>
       conv=>whnf
       refine ⟨by simp; omega,?_⟩
       conv=>whnf
       refine ⟨by omega,rows,_,3,rfl,hg,rfl,rfl,?_⟩
       conv=>whnf
       cases xy with
       | true =>
         conv=>whnf
         refine ⟨by simp; omega,?_⟩
         conv=>whnf
         refine ⟨n - 1,by omega,i+1,by omega,rfl,?_,rfl,?_,?_,trivial⟩
         · rw [htk]; simp; omega
         · show V.str _=_
           rw [htk]; simp [itW]
         · show V.int .i64 (IntKind.i64.wrap (i+1))=_
           rw [wrap64 (by omega) (by omega)]; simp
       | false =>
         conv=>whnf
         refine ⟨n - 1,by omega,i+1,by omega,rfl,?_,rfl,?_,?_,trivial⟩
         · rw [htk]; simp; omega
         · show V.str _=_
           rw [htk]; simp [itW]
         · show V.int .i64 (IntKind.i64.wrap (i+1))=_
           rw [wrap64 (by omega) (by omega)]; simp
     | false =>
       conv=>whnf
       refine ⟨by omega,rows,_,3,rfl,hg,rfl,rfl,?_⟩
       conv=>whnf
       cases xy with
       | true =>
         conv=>whnf
         refine ⟨by simp; omega,?_⟩
         conv=>whnf
         refine ⟨n - 1,by omega,i+1,by omega,rfl,?_,rfl,?_,?_,trivial⟩
         · rw [htk]; simp; omega
         · show V.str _=_
           rw [htk]; simp [itW]
         · show V.int .i64 (IntKind.i64.wrap (i+1))=_
           rw [wrap64 (by omega) (by omega)]; simp
       | false =>
         conv=>whnf
         refine ⟨n - 1,by omega,i+1,by omega,rfl,?_,rfl,?_,?_,trivial⟩
         · rw [htk]; simp; omega
         · show V.str _=_
           rw [htk]; simp [itW]
         · show V.int .i64 (IntKind.i64.wrap (i+1))=_
           rw [wrap64 (by omega) (by omega)]; simp
   · rw [ltB_f (by omega)]
     conv=>whnf
     rw [List.take_of_length_le (by omega)]
     rw [List.take_of_length_le (by omega)] at hlen
     refine ⟨by simp; omega,?_⟩
     conv=>whnf
     show V.str _=_
     simp
theorem ruW_len (r:Ru) (hl:r.kids.length≤4) (h:∀ x∈r.kids,x.kind.length≤1048576) (hk:r.kind.length≤1048576):(ruW r).length≤6000000:=by
 have:∀ xs:List It,(∀ x∈xs,x.kind.length≤1048576)→(itsW xs).length≤1048579*xs.length:=by
  intro xs
  induction xs with
  | nil=>intro _; simp [itsW]
  | cons a bs ih =>
    intro h
    have h1:=itW_len a (h a (by simp))
    have h2:=ih fun x hx=>h x (by simp [hx])
    have e:itsW (a::bs)=[32]++itW a++itsW bs:=by simp [itsW]
    rw [e]
    simp only [List.length_append,List.length_cons,List.length_nil]
    omega
 have h1:=this r.kids h
 unfold ruW
 simp only [List.length_append]
 split <;> simp <;> omega
set_option maxHeartbeats 4000000 in
theorem specSchemaWrite_pure (s:Sc) (ok:Bool) (f0:Pure Tryd.prog 13 [.agg s.cells] (·=.bool ok)) (hn:s.rules.length≤1048576) (hroot:s.root.length≤1048576)
  (hr:ok=true→∀ r∈s.rules,r.kids.length≤4∧(∀ x∈r.kids,x.kind.length≤1048576)∧r.kind.length≤1048576) :
  Pure Tryd.prog 11 [.agg s.cells] (·=.str (if ok=true then scW s else [])):=by
 obtain ⟨root,rs⟩:=s
 simp only at hn hr hroot
 have hlr:=rws_len Ru.cells rs
 have hgr:=rws_get Ru.cells rs
 have f0:Pure Tryd.prog _ [.agg [.str root,.sl (rws Ru.cells rs)]] _:=f0
 show Pure Tryd.prog _ [.agg [.str root,.sl (rws Ru.cells rs)]] _
 generalize rws Ru.cells rs=rows at *
 have hw:scW ⟨root,rs⟩=(([114,111,111,116,32]++root)++[10])++rs.flatMap ruW:=by simp [scW]
 rw [hw]
 refine pure_of_awp good Tryd.func11 rfl (by kernel_rfl) (by decide) ?_
 conv=>whnf
 refine .inl (f0.mono ?_)
 rintro r rfl
 cases ok with
 | false =>
   conv=>whnf
   rfl
 | true =>
   have hr:=hr rfl
   have hc:=fun r hm=>l3Write_pure r (by have:=(hr r hm).1; omega) (hr r hm).2.1 (hr r hm).2.2
   have hrl:=fun r hm=>ruW_len r (hr r hm).1 (hr r hm).2.1 (hr r hm).2.2
   conv=>whnf
   refine ⟨by show 5+root.length≤_; omega,?_⟩
   conv=>whnf
   refine ⟨by simp; omega,?_⟩
   conv=>whnf
   refine loop_intro (fun n fr st=>∃ i:Nat,n+i=rs.length∧st=[⟨[[.str root,.sl rows]],2,true,true,true,.cell⟩]∧((rs.take i).flatMap ruW).length≤6000000*i∧Holds fr [(1,.ptr 0 0 0),(3,.str ((([114,111,111,116,32]++root)++[10])++(rs.take i).flatMap ruW)),(4,.int .i64 i)]) rs.length
    ⟨0,rfl,rfl,by simp,rfl,by simp; rfl,rfl,trivial⟩ ?_
   rintro n fr st ⟨i,hi,rfl,hlen,hh⟩
   obtain ⟨fr,rfl⟩:=hh.split
   clear hh
   conv=>whnf
   rw [hlr]
   by_cases hlt:i < rs.length
   · rw [ltB_t (by omega)]
     conv=>whnf
     have hg:=hgr i hlt
     have hmem:rs[i]∈rs:=List.getElem_mem _
     have htk:(rs.take (i+1)).flatMap ruW=(rs.take i).flatMap ruW++ruW rs[i]:=flatMap_take _ rs i hlt
     have hc1:=hc _ hmem
     have hl1:=hrl _ hmem
     generalize rs[i]=x at *
     generalize (rs.take i).flatMap ruW=acc at *
     generalize ruW x=wx at *
     obtain ⟨xk,xt,xs⟩:=x
     refine ⟨by omega,rows,_,3,rfl,hg,rfl,rfl,?_⟩
     conv=>whnf
     refine .inl (hc1.mono ?_)
     rintro r rfl
     conv=>whnf
     refine ⟨by simp; omega,?_⟩
     conv=>whnf
     refine ⟨n - 1,by omega,i+1,by omega,rfl,?_,rfl,?_,?_,trivial⟩
     · rw [htk]; simp; omega
     · show V.str _=_
       rw [htk]; simp
     · show V.int .i64 (IntKind.i64.wrap (i+1))=_
       rw [wrap64 (by omega) (by omega)]; simp
   · rw [ltB_f (by omega)]
     conv=>whnf
     rw [List.take_of_length_le (by omega)]
     rfl
end Go.Cod
set_option linter.all false
namespace Go.Cod
variable [Adr]
open Go Go.Proofs Go.ChangeShapes Go.WideShapes Go.ChangeAt Go.RowKit
set_option maxRecDepth 10000
end Go.Cod
set_option linter.all false
set_option linter.all false
namespace Go.Cod
variable [Adr]
open Go Go.Proofs
set_option maxRecDepth 10000
def skipP (w s:List UInt8):Option (List UInt8):=if s.take w.length=w then some (s.drop w.length) else none
theorem skipP_app (w r:List UInt8):skipP w (w++r)=some r:=by
 unfold skipP
 rw [List.take_left,if_pos rfl,List.drop_left]
theorem skipP_some {w s r:List UInt8} (h:skipP w s=some r):s=w++r:=by
 unfold skipP at h
 split at h
 · rename_i e
   cases h
   conv=>lhs; rw [← List.take_append_drop w.length s,e]
 · cases h
def runP:Nat→List UInt8→List UInt8
 | 0,_=>[]
 | _+1,[]=>[]
 | n+1,b::s=>if lowerB b=true then b::runP n s else []
theorem runP_pre:∀ (n:Nat) (s:List UInt8),∃ r,s=runP n s++r
 | 0,s=>⟨s,rfl⟩
 | n+1,[]=>⟨[],rfl⟩
 | n+1,b::s=>by
   obtain ⟨r,h⟩:=runP_pre n s
   rw [runP]
   split
   · exact ⟨r,by rw [List.cons_append,← h]⟩
   · exact ⟨b::s,rfl⟩
theorem runP_app:∀ (k:List UInt8) (n:Nat) (r:List UInt8),lower k=true→k.length≤n→(∀ b t,r=b::t→lowerB b=false)→runP n (k++r)=k
 | [],0,r,_,_,_=>rfl
 | [],n+1,[],_,_,_=>rfl
 | [],n+1,b::r,_,_,h=>by
   rw [List.nil_append,runP,if_neg (by rw [h b r rfl]; decide)]
 | c::k,0,r,_,h,_=>by simp at h
 | c::k,n+1,r,hl,hn,h=>by
   unfold lower at hl
   rw [List.all_cons,Bool.and_eq_true] at hl
   rw [List.cons_append,runP,if_pos hl.1,runP_app k n r hl.2 (by simpa using hn) h]
def nameP (s:List UInt8):Option (List UInt8 × List UInt8):=if runP 8 s=[] then none else some (runP 8 s,s.drop (runP 8 s).length)
theorem nameP_some {s k r:List UInt8} (h:nameP s=some (k,r)):s=k++r:=by
 unfold nameP at h
 split at h
 · cases h
 · cases h
   obtain ⟨q,hq⟩:=runP_pre 8 s
   conv=>lhs; rw [hq]
   congr 1
   conv=>rhs; rw [hq]
   have:∀ (a b:List UInt8) (n:Nat),n=a.length→(a++b).drop n=b:=fun a b n e=>by rw [e,List.drop_left]
   refine (this _ _ _ ?_).symm
   rw [← hq]
theorem nameP_app {k r:List UInt8} (hk:nameL k=true) (h:∀ b t,r=b::t→lowerB b=false):nameP (k++r)=some (k,r):=by
 unfold nameL at hk
 simp only [Bool.and_eq_true,decide_eq_true_eq] at hk
 have e:=runP_app k 8 r hk.1 (by omega) h
 unfold nameP
 rw [e,if_neg (by intro e; rw [e] at hk; simp at hk),List.drop_left]
def optP (w s:List UInt8):Bool × List UInt8:=match skipP w s with
 | none=>(false,s)
 | some r=>(true,r)
theorem optP_eq (w s:List UInt8):s=(if (optP w s).1=true then w else [])++(optP w s).2:=by
 unfold optP
 cases h:skipP w s with
 | none=>rfl
 | some r=>exact skipP_some h
def itemP (s:List UInt8):Option (It × List UInt8):=match nameP s with
 | none=>none
 | some (k,s1)=>some (⟨k,(optP [42] s1).1,(optP [63] (optP [42] s1).2).1⟩,(optP [63] (optP [42] s1).2).2)
theorem itemP_some {s r:List UInt8} {x:It} (h:itemP s=some (x,r)):s=itW x++r:=by
 unfold itemP at h
 cases hn:nameP s with
 | none=>rw [hn] at h; cases h
 | some q =>
   obtain ⟨k,s1⟩:=q
   rw [hn] at h
   cases h
   have e1:=nameP_some hn
   have e2:=optP_eq [42] s1
   have e3:=optP_eq [63] (optP [42] s1).2
   unfold itW
   conv=>lhs; rw [e1,e2,e3]
   simp only [List.append_assoc]
def itemsP:Nat→List UInt8→Option (List It × List UInt8)
 | 0,_=>none
 | n+1,s=>match skipP [32] s with
   | none=>some ([],s)
   | some s1=>match itemP s1 with
     | none=>none
     | some (x,s2)=>match itemsP n s2 with
       | none=>none
       | some (xs,s3)=>some (x::xs,s3)
theorem itemsP_some:∀ (n:Nat) {s r:List UInt8} {xs:List It},itemsP n s=some (xs,r)→s=itsW xs++r
 | 0,_,_,_,h=>by cases h
 | n+1,s,r,xs,h=>by
   rw [itemsP] at h
   split at h
   · cases h; rfl
   · rename_i s1 h1
     split at h
     · cases h
     · rename_i x s2 h2
       split at h
       · cases h
       · rename_i ys s3 h3
         cases h
         rw [skipP_some h1,itemP_some h2,itemsP_some n h3]
         simp [itsW]
def ruleP (s:List UInt8):Option (Ru × List UInt8):=match nameP s with
 | none=>none
 | some (k,s1)=>match skipP [58] (optP [32,116,101,120,116] s1).2 with
   | none=>none
   | some s2=>match itemsP (s2.length+1) s2 with
     | none=>none
     | some (xs,s3)=>match skipP [10] s3 with
       | none=>none
       | some s4=>some (⟨k,(optP [32,116,101,120,116] s1).1,xs⟩,s4)
theorem ruleP_some {s r:List UInt8} {x:Ru} (h:ruleP s=some (x,r)):s=ruW x++r:=by
 unfold ruleP at h
 split at h
 · cases h
 · rename_i k s1 h1
   split at h
   · cases h
   · rename_i s2 h2
     split at h
     · cases h
     · rename_i xs s3 h3
       split at h
       · cases h
       · rename_i s4 h4
         cases h
         have e2:=optP_eq [32,116,101,120,116] s1
         rw [skipP_some h2,itemsP_some _ h3,skipP_some h4] at e2
         rw [nameP_some h1]
         unfold ruW
         conv=>lhs; rw [e2]
         simp only [List.append_assoc]
def rulesP:Nat→List UInt8→Option (List Ru)
 | 0,_=>none
 | n+1,s=>if s=[] then some [] else match ruleP s with
   | none=>none
   | some (x,s1)=>match rulesP n s1 with
     | none=>none
     | some xs=>some (x::xs)
theorem rulesP_some:∀ (n:Nat) {s:List UInt8} {xs:List Ru},rulesP n s=some xs→s=xs.flatMap ruW
 | 0,_,_,h=>by cases h
 | n+1,s,xs,h=>by
   rw [rulesP] at h
   split at h
   · rename_i e; cases h; exact e
   · split at h
     · cases h
     · rename_i x s1 h1
       split at h
       · cases h
       · rename_i ys h2
         cases h
         rw [ruleP_some h1,rulesP_some n h2]
         rfl
def rootW:List UInt8:=[114,111,111,116,32]
def parseS (s:List UInt8):Option Sc:=match skipP rootW s with
 | none=>none
 | some s1=>match nameP s1 with
   | none=>none
   | some (k,s2)=>match skipP [10] s2 with
     | none=>none
     | some s3=>match rulesP (s3.length+1) s3 with
       | none=>none
       | some rs=>some ⟨k,rs⟩
theorem parseS_some {s:List UInt8} {c:Sc} (h:parseS s=some c):s=scW c:=by
 unfold parseS at h
 split at h
 · cases h
 · rename_i s1 h1
   split at h
   · cases h
   · rename_i k s2 h2
     split at h
     · cases h
     · rename_i s3 h3
       split at h
       · cases h
       · rename_i rs h4
         cases h
         rw [skipP_some h1,nameP_some h2,skipP_some h3,rulesP_some _ h4]
         rfl
def readS (s:List UInt8):Option Sc:=match parseS s with
 | none=>none
 | some c=>if okS c=true then some c else none
theorem hasR_name {rs:List Ru} {k:List UInt8} (h:hasR rs k=true) (hr:∀ r∈rs,nameL r.kind=true):nameL k=true:=by
 unfold hasR at h
 rw [List.any_eq_true] at h
 obtain ⟨r,h1,h2⟩:=h
 rw [← of_decide_eq_true h2]
 exact hr r h1
theorem itemP_ok {x:It} {r:List UInt8} (h1:nameL x.kind=true) (h2:(x.many&&x.may)=false) (hr:∀ b t,r=b::t→b=32∨b=10):itemP (itW x++r)=some (x,r):=by
 obtain ⟨k,m,y⟩:=x
 have hb:∀ b:UInt8,b=32∨b=10∨b=42∨b=63→lowerB b=false:=by
  intro b h
  rcases h with rfl | rfl | rfl | rfl <;> decide
 have n42:skipP [42] r=none:=by
  unfold skipP
  cases r with
  | nil=>rfl
  | cons b t =>
    rw [if_neg]
    intro e
    have:b=42:=by simpa using e
    rcases hr b t rfl with h | h <;> (rw [h] at this; exact absurd this (by decide))
 have n63:skipP [63] r=none:=by
  unfold skipP
  cases r with
  | nil=>rfl
  | cons b t =>
    rw [if_neg]
    intro e
    have:b=63:=by simpa using e
    rcases hr b t rfl with h | h <;> (rw [h] at this; exact absurd this (by decide))
 simp only at h1 h2
 unfold itW itemP
 cases m <;> cases y
 · simp only [Bool.false_eq_true,if_false,List.append_nil]
   rw [nameP_app h1 (fun b t e=>hb b (by rcases hr b t e with h | h <;> simp [h]))]
   simp only [optP,n42,n63]
 · simp only [Bool.false_eq_true,if_false,if_true,List.nil_append,List.append_assoc]
   rw [nameP_app h1 (fun b t e=>hb b (by cases e; simp))]
   have:skipP [42] ([63]++r)=none:=by unfold skipP; rw [if_neg]; simp
   simp only [optP,this,skipP_app]
 · simp only [Bool.false_eq_true,if_false,if_true,List.append_nil,List.append_assoc]
   rw [nameP_app h1 (fun b t e=>hb b (by cases e; simp))]
   simp only [optP,n63,skipP_app]
 · cases h2
theorem itemsP_ok:∀ (xs:List It) (n:Nat) (r:List UInt8),(∀ x∈xs,nameL x.kind=true∧(x.many&&x.may)=false)→xs.length < n→itemsP n (itsW xs++(10::r))=some (xs,10::r)
 | [],n+1,r,_,_=>by
   rw [itemsP]
   have:skipP [32] (itsW []++10::r)=none:=by unfold skipP; rw [if_neg]; simp [itsW]
   rw [this]
   rfl
 | x::xs,n+1,r,h,hn=>by
   have hx:=h x (by simp)
   have e:itsW (x::xs)++10::r=[32]++(itW x++(itsW xs++10::r)):=by simp [itsW]
   rw [itemsP,e,skipP_app]
   simp only
   rw [itemP_ok hx.1 hx.2 (fun b t e=>by
    cases xs with
    | nil=>simp [itsW] at e; exact .inr e.1.symm
    | cons y ys=>simp [itsW] at e; exact .inl e.1.symm)]
   simp only
   rw [itemsP_ok xs n r (fun y hy=>h y (by simp [hy])) (by simpa using hn)]
 | _,0,_,_,hn=>by omega
theorem itsW_len (xs:List It) (h:∀ x∈xs,nameL x.kind=true):xs.length≤(itsW xs).length:=by
 induction xs with
 | nil=>simp
 | cons x xs ih =>
   have:=ih (fun y hy=>h y (by simp [hy]))
   have e:itsW (x::xs)=[32]++itW x++itsW xs:=rfl
   rw [e]
   simp only [List.length_append,List.length_cons,List.length_nil]
   omega
theorem ruleP_ok {x:Ru} {r:List UInt8} (h1:nameL x.kind=true) (h2:∀ y∈x.kids,nameL y.kind=true∧(y.many&&y.may)=false):ruleP (ruW x++r)=some (x,r):=by
 obtain ⟨k,t,xs⟩:=x
 simp only at h1 h2
 have hits:=itemsP_ok xs ((itsW xs++10::r).length+1) r h2 (by
  have:=itsW_len xs (fun y hy=>(h2 y hy).1)
  rw [List.length_append]; omega)
 unfold ruW ruleP
 cases t with
 | true =>
   have e:(k++((if (true:Bool)=true then [32,116,101,120,116] else [])++([58]++(itsW xs++[10]))))++r=k++([32,116,101,120,116]++([58]++(itsW xs++10::r))):=by simp
   simp only at e ⊢
   rw [e,nameP_app h1 (fun b t e=>by cases e; decide)]
   simp only [optP,skipP_app,hits]
   have:=skipP_app [10] r
   rw [show [10]++r=10::r from rfl] at this
   rw [this]
 | false =>
   have e:(k++((if (false:Bool)=true then [32,116,101,120,116] else [])++([58]++(itsW xs++[10]))))++r=k++([58]++(itsW xs++10::r)):=by simp
   simp only at e ⊢
   rw [e,nameP_app h1 (fun b t e=>by cases e; decide)]
   have hno:skipP [32,116,101,120,116] ([58]++(itsW xs++10::r))=none:=by unfold skipP; rw [if_neg]; simp
   simp only [optP,hno,skipP_app,hits]
   have:=skipP_app [10] r
   rw [show [10]++r=10::r from rfl] at this
   rw [this]
theorem ruW_len1 (x:Ru):1≤(ruW x).length:=by
 unfold ruW
 simp only [List.length_append,List.length_cons]
 omega
theorem rulesP_ok:∀ (xs:List Ru) (n:Nat),(∀ x∈xs,nameL x.kind=true∧∀ y∈x.kids,nameL y.kind=true∧(y.many&&y.may)=false)→xs.length < n→rulesP n (xs.flatMap ruW)=some xs
 | [],n+1,_,_=>by rw [rulesP]; rfl
 | x::xs,n+1,h,hn=>by
   have hx:=h x (by simp)
   have hne:(x::xs).flatMap ruW≠[]:=fun e=>by
    have h0:((x::xs).flatMap ruW).length=0:=by rw [e]; rfl
    rw [List.flatMap_cons,List.length_append] at h0
    have:=ruW_len1 x
    omega
   rw [rulesP,if_neg hne,List.flatMap_cons,ruleP_ok hx.1 hx.2]
   simp only
   rw [rulesP_ok xs n (fun y hy=>h y (by simp [hy])) (by simpa using hn)]
 | _,0,_,hn=>by omega
theorem okS_parts {c:Sc} (h:okS c=true):nameL c.root=true∧c.rules.length≤6∧∀ x∈c.rules,nameL x.kind=true∧x.kind≠textW∧x.kids.length≤4∧∀ y∈x.kids,nameL y.kind=true∧(y.many&&y.may)=false:=by
 unfold okS at h
 simp only [Bool.and_eq_true,decide_eq_true_eq] at h
 obtain ⟨⟨⟨h1,h2⟩,h3⟩,_⟩:=h
 rw [List.all_eq_true] at h3
 have hr:∀ r∈c.rules,nameL r.kind=true:=fun r hr=>by
  have:=h3 r hr
  unfold ruleB at this
  simp only [Bool.and_eq_true] at this
  exact this.1.1.1
 refine ⟨hasR_name h2 hr,h1,fun x hx=>⟨hr x hx,?_⟩⟩
 have:=h3 x hx
 unfold ruleB at this
 simp only [Bool.and_eq_true,decide_eq_true_eq] at this
 obtain ⟨⟨⟨_,a⟩,b⟩,d⟩:=this
 refine ⟨a,b,fun y hy=>?_⟩
 have:=List.all_eq_true.1 d y hy
 unfold itemB at this
 simp only [Bool.and_eq_true,Bool.not_eq_true'] at this
 exact ⟨hasR_name this.1 hr,this.2⟩
theorem readS_ok {c:Sc} (h:okS c=true):readS (scW c)=some c:=by
 obtain ⟨h1,h2,h3⟩:=okS_parts h
 unfold readS parseS
 have e:scW c=rootW++(c.root++([10]++c.rules.flatMap ruW)):=rfl
 rw [e,skipP_app]
 simp only
 rw [nameP_app h1 (fun b t e=>by cases e; decide)]
 simp only
 rw [skipP_app]
 simp only
 rw [rulesP_ok c.rules _ (fun x hx=>⟨(h3 x hx).1,(h3 x hx).2.2.2⟩) (by
  have:∀ xs:List Ru,xs.length≤(xs.flatMap ruW).length:=by
   intro xs
   induction xs with
   | nil=>simp
   | cons x xs ih=>rw [List.flatMap_cons,List.length_append,List.length_cons]; have:=ruW_len1 x; omega
  have:=this c.rules
  omega)]
 simp only
 rw [if_pos h]
theorem readS_some {s:List UInt8} {c:Sc} (h:readS s=some c):okS c=true∧s=scW c:=by
 unfold readS at h
 split at h
 · cases h
 · rename_i d hd
   split at h
   · rename_i ho
     cases h
     exact ⟨ho,parseS_some hd⟩
   · cases h
end Go.Cod
set_option linter.all false
set_option linter.all false
namespace Go.Cod
variable [Adr]
open Go Go.Proofs
set_option maxRecDepth 10000
def cutB (a:UInt8):List UInt8→List (List UInt8)
 | []=>[[]]
 | b::r=>if b=a then []::cutB a r else match cutB a r with
   | []=>[[b]]
   | l::ls=>(b::l)::ls
theorem cutB_line (a:UInt8) (l r:List UInt8) (h:a∉l):cutB a (l++a::r)=l::cutB a r:=by
 induction l with
 | nil=>rw [List.nil_append,cutB,if_pos rfl]
 | cons b l ih =>
   have hb:b≠a:=fun e=>h (by simp [e])
   rw [List.cons_append,cutB,if_neg hb,ih (fun hm=>h (by simp [hm]))]
theorem cutB_last (a:UInt8) (l:List UInt8) (h:a∉l):cutB a l=[l]:=by
 induction l with
 | nil=>rfl
 | cons b l ih =>
   have hb:b≠a:=fun e=>h (by simp [e])
   rw [cutB,if_neg hb,ih (fun hm=>h (by simp [hm]))]
theorem cutB_words {α:Type} (a:UInt8) (f:α→List UInt8):∀ (xs:List α) (w:List UInt8),a∉w→(∀ x∈xs,a∉f x)→cutB a (w++xs.flatMap fun x=>[a]++f x)=w::xs.map f
 | [],w,h,_=>by rw [List.flatMap_nil,List.append_nil,cutB_last a w h]; rfl
 | x::xs,w,h,hx=>by
   have e:(x::xs).flatMap (fun x=>[a]++f x)=a::(f x++xs.flatMap fun x=>[a]++f x):=by simp
   rw [e,cutB_line a w _ h,cutB_words a f xs (f x) (hx x (by simp)) (fun y hy=>hx y (by simp [hy]))]
   rfl
theorem cutB_lines {α:Type} (a:UInt8) (f:α→List UInt8):∀ (xs:List α),(∀ x∈xs,a∉f x)→cutB a (xs.flatMap fun x=>f x++[a])=xs.map f++[[]]
 | [],_=>rfl
 | x::xs,hx=>by
   have e:(x::xs).flatMap (fun x=>f x++[a])=f x++a::(xs.flatMap fun x=>f x++[a]):=by simp
   rw [e,cutB_line a _ _ (hx x (by simp)),cutB_lines a f xs (fun y hy=>hx y (by simp [hy]))]
   rfl
def wordI (w:List UInt8):It:=if w.getLast? = some 42 then ⟨w.dropLast,true,false⟩ else if w.getLast? = some 63 then ⟨w.dropLast,false,true⟩ else ⟨w,false,false⟩
def textC:List UInt8:=[116,101,120,116,58]
def wordsR:List (List UInt8)→Ru
 | []=>⟨[],false,[]⟩
 | w::ws=>if ws.head? = some textC then ⟨w,true,(ws.drop 1).map wordI⟩ else ⟨w.dropLast,false,ws.map wordI⟩
def lineS (l:List UInt8):Ru:=wordsR (cutB 32 l)
def writeS (c:Sc):List UInt8:=if okS c=true then scW c else []
def linesS:List (List UInt8)→Sc
 | []=>⟨[],[]⟩
 | l::ls=>⟨l.drop 5,(ls.dropLast).map lineS⟩
def headOk:List (List UInt8)→Bool
 | []=>false
 | l::ls=>decide (ls.length≤7)&&decide (6≤l.length)&&decide (l.take 5=rootW)
def specS (s:List UInt8):Option Sc:=if headOk (cutB 10 s)=true∧writeS (linesS (cutB 10 s))=s then some (linesS (cutB 10 s)) else none
def ruL (r:Ru):List UInt8:=r.kind++((if r.text then [32,116,101,120,116] else [])++([58]++itsW r.kids))
theorem ruW_L (r:Ru):ruW r=ruL r++[10]:=by unfold ruW ruL; simp
theorem name_no {k:List UInt8} (h:nameL k=true) (b:UInt8) (hb:lowerB b=false):b∉k:=fun hm=>by
 unfold nameL lower at h
 simp only [Bool.and_eq_true] at h
 have:=List.all_eq_true.1 h.1 b hm
 rw [hb] at this
 cases this
theorem itW_no {x:It} (h:nameL x.kind=true) (b:UInt8) (hb:lowerB b=false) (h1:b≠42) (h2:b≠63):b∉itW x:=fun hm=>by
 unfold itW at hm
 rcases List.mem_append.1 hm with hm | hm
 · exact name_no h b hb hm
 rcases List.mem_append.1 hm with hm | hm
 · split at hm
   · simp at hm; exact h1 hm
   · cases hm
 · split at hm
   · simp at hm; exact h2 hm
   · cases hm
theorem itsW_no {xs:List It} (h:∀ x∈xs,nameL x.kind=true) (b:UInt8) (hb:lowerB b=false) (h0:b≠32) (h1:b≠42) (h2:b≠63):b∉itsW xs:=fun hm=>by
 unfold itsW at hm
 rw [List.mem_flatMap] at hm
 obtain ⟨x,hx,hm⟩:=hm
 rcases List.mem_append.1 hm with hm | hm
 · simp at hm; exact h0 hm
 · exact itW_no (h x hx) b hb h1 h2 hm
theorem ruL_no {r:Ru} (h1:nameL r.kind=true) (h2:∀ y∈r.kids,nameL y.kind=true):(10:UInt8)∉ruL r:=fun hm=>by
 unfold ruL at hm
 rcases List.mem_append.1 hm with hm | hm
 · exact name_no h1 10 (by decide) hm
 rcases List.mem_append.1 hm with hm | hm
 · split at hm
   · exact absurd hm (by decide)
   · cases hm
 rcases List.mem_append.1 hm with hm | hm
 · exact absurd hm (by decide)
 · exact itsW_no h2 10 (by decide) (by decide) (by decide) (by decide) hm
theorem wordI_ok {x:It} (h1:nameL x.kind=true) (h2:(x.many&&x.may)=false):wordI (itW x)=x:=by
 obtain ⟨k,m,y⟩:=x
 simp only at h1 h2
 have hl:∀ b,k.getLast? = some b→lowerB b=true:=fun b hb=>by
  unfold nameL lower at h1
  simp only [Bool.and_eq_true] at h1
  exact List.all_eq_true.1 h1.1 b (List.mem_of_getLast? hb)
 cases m <;> cases y
 · have e:itW ⟨k,false,false⟩=k:=by simp [itW]
   rw [e]
   unfold wordI
   rw [if_neg (fun h=>by have:=hl _ h; revert this; decide),if_neg (fun h=>by have:=hl _ h; revert this; decide)]
 · have e:itW ⟨k,false,true⟩=k++[63]:=by simp [itW]
   rw [e]
   unfold wordI
   rw [if_neg (by simp),if_pos (by simp)]
   simp
 · have e:itW ⟨k,true,false⟩=k++[42]:=by simp [itW]
   rw [e]
   unfold wordI
   rw [if_pos (by simp)]
   simp
 · cases h2
theorem map_id_of {α β:Type} (f:β→α) (g:α→β):∀ (xs:List α),(∀ x∈xs,f (g x)=x)→(xs.map g).map f=xs
 | [],_=>rfl
 | x::xs,h=>by
   rw [List.map_cons,List.map_cons,h x (by simp),map_id_of f g xs (fun y hy=>h y (by simp [hy]))]
theorem lineS_ok {r:Ru} (h1:nameL r.kind=true) (h2:∀ y∈r.kids,nameL y.kind=true∧(y.many&&y.may)=false):lineS (ruL r)=r:=by
 obtain ⟨k,t,xs⟩:=r
 simp only at h1 h2
 have hk:=name_no h1 32 (by decide)
 have hx:∀ x∈xs,(32:UInt8)∉itW x:=fun x hx=>itW_no (h2 x hx).1 32 (by decide) (by decide) (by decide)
 have hw:=map_id_of wordI itW xs (fun x hx=>wordI_ok (h2 x hx).1 (h2 x hx).2)
 unfold lineS
 cases t with
 | true =>
   have e:ruL ⟨k,true,xs⟩=k++32::(textC++xs.flatMap fun x=>[32]++itW x):=by simp [ruL,itsW,textC]
   rw [e,cutB_line 32 k _ hk,cutB_words 32 itW xs textC (by decide) hx,wordsR,List.head?_cons,if_pos rfl,List.drop_one,List.tail_cons,hw]
 | false =>
   have e:ruL ⟨k,false,xs⟩=(k++[58])++xs.flatMap fun x=>[32]++itW x:=by simp [ruL,itsW]
   have hk2:(32:UInt8)∉k++[58]:=fun hm=>by
    rcases List.mem_append.1 hm with hm | hm
    · exact hk hm
    · exact absurd hm (by decide)
   rw [e,cutB_words 32 itW xs _ hk2 hx,wordsR,if_neg,List.dropLast_concat,hw]
   intro he
   cases xs with
   | nil=>cases he
   | cons x xs =>
     rw [List.map_cons,List.head?_cons] at he
     have hm:(58:UInt8)∈itW x:=by
      rw [Option.some.inj he]; decide
     exact itW_no (h2 x (by simp)).1 58 (by decide) (by decide) (by decide) hm
theorem specS_ok {c:Sc} (h:okS c=true):specS (scW c)=some c:=by
 obtain ⟨h1,h2,h3⟩:=okS_parts h
 have hl:(10:UInt8)∉rootW++c.root:=fun hm=>by
  rcases List.mem_append.1 hm with hm | hm
  · exact absurd hm (by decide)
  · exact name_no h1 10 (by decide) hm
 have e:scW c=(rootW++c.root)++10::(c.rules.flatMap fun r=>ruL r++[10]):=by
  have:(c.rules.flatMap ruW)=c.rules.flatMap fun r=>ruL r++[10]:=by
   congr 1
   funext r
   exact ruW_L r
  rw [← this]
  simp [scW,rootW]
 have hc:cutB 10 (scW c)=(rootW++c.root)::(c.rules.map ruL++[[]]):=by
  rw [e,cutB_line 10 _ _ hl,cutB_lines 10 ruL c.rules (fun r hr=>ruL_no (h3 r hr).1 (fun y hy=>((h3 r hr).2.2.2 y hy).1))]
 have hs:linesS (cutB 10 (scW c))=c:=by
  rw [hc,linesS,List.dropLast_concat,map_id_of lineS ruL c.rules (fun r hr=>lineS_ok (h3 r hr).1 (h3 r hr).2.2.2)]
  rfl
 have hn:1≤c.root.length:=by
  unfold nameL at h1
  simp only [Bool.and_eq_true,decide_eq_true_eq] at h1
  omega
 have hh:headOk (cutB 10 (scW c))=true:=by
  rw [hc]
  unfold headOk
  simp only [Bool.and_eq_true,decide_eq_true_eq]
  refine ⟨⟨by simp; omega,by simp [rootW]; omega⟩,rfl⟩
 unfold specS
 rw [hs,if_pos ⟨hh,by rw [writeS,if_pos h]⟩]
theorem specS_some {s:List UInt8} {c:Sc} (h:specS s=some c):okS c=true∧s=scW c:=by
 unfold specS at h
 split at h
 · rename_i hh
   obtain ⟨h1,h2⟩:=hh
   have e:=Option.some.inj h
   rw [e] at h2
   unfold writeS at h2
   split at h2
   · rename_i ho
     exact ⟨ho,h2.symm⟩
   · subst h2
     exact absurd h1 (by decide)
 · cases h
theorem read_spec (s:List UInt8):readS s=specS s:=by
 cases h:readS s with
 | some c =>
   obtain ⟨h1,rfl⟩:=readS_some h
   exact (specS_ok h1).symm
 | none =>
   cases h2:specS s with
   | none=>rfl
   | some c =>
     obtain ⟨h3,rfl⟩:=specS_some h2
     rw [readS_ok h3] at h
     cases h
end Go.Cod
set_option linter.all false
namespace Go.Cod
variable [Adr]
open Go Go.Proofs
set_option linter.all false
set_option maxRecDepth 10000
def hdV:Option (Nat × Nat)→Nat→V
 | none,_=>.nils
 | some (b,c),n=>.dref b n c
theorem putEnt_mem {b c s:Nat} {rows rows':List (List V)} {es:List (List V)} (h:ent b c s rows∈es):ent b c s rows'∈putEnt b rows' es:=by
 unfold putEnt
 exact List.mem_map.2 ⟨_,h,by rw [if_pos (labOf_ent b c s rows)]; rfl⟩
theorem putEnt_other {b:Nat} {rows':List (List V)} {es:List (List V)} {e:List V} (h:e∈es) (hb:labOf e≠b):e∈putEnt b rows' es:=by
 unfold putEnt
 exact List.mem_map.2 ⟨e,h,by rw [if_neg hb]⟩
theorem lab_entL (b c sz:Nat) (r:List (List V)):labOf (ent b c sz r)=b:=rfl
def ApartH (h k:Option (Nat × Nat)):Prop:=∀ b c b' c',h=some (b,c)→k=some (b',c')→b≠b'
theorem ApartH.symm {h k:Option (Nat × Nat)} (a:ApartH h k):ApartH k h:=fun b c b' c' p q e=>a b' c' b c q p e.symm
theorem ApartH.none (k:Option (Nat × Nat)):ApartH none k:=fun _ _ _ _ h=>by cases h
structure LR where
 kind:List UInt8
 text:Bool
 items:List It
 hd:Option (Nat × Nat)
def LR.cells (L:LR):List V:=[.str L.kind,.bool L.text,hdV L.hd L.items.length]
def LR.ru (L:LR):Ru:=⟨L.kind,L.text,L.items⟩
def PlIn (es:List (List V)) (sz:Nat) (h:Option (Nat × Nat)) (rows:List (List V)):Prop:=match h with
 | none=>rows=[]
 | some (b,c)=>ent b c sz rows∈es
theorem PlIn.put {es:List (List V)} {sz b c:Nat} {k:Option (Nat × Nat)} {L:List (List V)} (h:PlIn es sz k L) (ha:ApartH (some (b,c)) k) (r:List (List V)):PlIn (putEnt b r es) sz k L:=by
 rcases k with _ | ⟨b',c'⟩
 · exact h
 · exact putEnt_other h (by rw [lab_entL]; exact fun e=>ha b c b' c' rfl rfl e.symm)
theorem PlIn.more {es:List (List V)} {sz:Nat} {k:Option (Nat × Nat)} {L:List (List V)} (h:PlIn es sz k L) (es':List (List V)):PlIn (es++es') sz k L:=by
 rcases k with _ | ⟨b',c'⟩
 · exact h
 · exact List.mem_append_left _ h
theorem PlIn.fresh {es:List (List V)} {sz:Nat} {k:Option (Nat × Nat)} {L:List (List V)} (h:PlIn es sz k L) {b c:Nat} (hb:∀ e∈es,labOf e≠b):ApartH (some (b,c)) k:=by
 intro x y b' c' e1 e2
 cases e1
 subst e2
 exact fun e=>hb _ h (by rw [lab_entL]; exact e.symm)
structure ScIn (es:List (List V)) (h:Option (Nat × Nat)) (Ls:List LR):Prop where
 top:PlIn es 3 h (Ls.map LR.cells)
 kids:∀ L∈Ls,PlIn es 3 L.hd (rws It.cells L.items)
 ap:∀ L∈Ls,ApartH h L.hd
 pw:Ls.Pairwise fun L M=>ApartH L.hd M.hd
theorem ScIn.nil (es:List (List V)):ScIn es none []:=⟨rfl,(fun _ h=>by cases h),(fun _ h=>by cases h),.nil⟩
theorem pw_snoc {α:Type} {R:α→α→Prop}:∀ {l:List α} {x:α},l.Pairwise R→(∀ y∈l,R y x)→(l++[x]).Pairwise R
 | [],x,_,_=>by simp
 | y::l,x,h,hx=>by
   obtain ⟨h1,h2⟩:=List.pairwise_cons.1 h
   rw [List.cons_append,List.pairwise_cons]
   refine ⟨fun z hz=>?_,pw_snoc h2 fun z hz=>hx z (List.mem_cons_of_mem _ hz)⟩
   rcases List.mem_append.1 hz with hz | hz
   · exact h1 z hz
   · rw [List.mem_singleton.1 hz]; exact hx y List.mem_cons_self
theorem ScIn.snoc_in {es b c Ls} (H:ScIn es (some (b,c)) Ls) {L:LR} (hL:PlIn es 3 L.hd (rws It.cells L.items)) (h1:ApartH (some (b,c)) L.hd) (h2:∀ M∈Ls,ApartH M.hd L.hd):ScIn (putEnt b ((Ls++[L]).map LR.cells) es) (some (b,c)) (Ls++[L]):=by
 refine ⟨putEnt_mem H.top,fun M hM=>?_,fun M hM=>?_,pw_snoc H.pw h2⟩
 · rcases List.mem_append.1 hM with hM | hM
   · exact (H.kids M hM).put (H.ap M hM) _
   · rw [List.mem_singleton.1 hM]; exact hL.put h1 _
 · rcases List.mem_append.1 hM with hM | hM
   · exact H.ap M hM
   · rw [List.mem_singleton.1 hM]; exact h1
theorem ScIn.snoc_new {es h Ls} (H:ScIn es h Ls) {L:LR} (hL:PlIn es 3 L.hd (rws It.cells L.items)) (h2:∀ M∈Ls,ApartH M.hd L.hd) {b c:Nat} (hb:∀ e∈es,labOf e≠b):ScIn (es++[ent b c 3 ((Ls++[L]).map LR.cells)]) (some (b,c)) (Ls++[L]):=by
 refine ⟨List.mem_append_right _ (by simp),fun M hM=>?_,fun M hM=>?_,pw_snoc H.pw h2⟩
 · rcases List.mem_append.1 hM with hM | hM
   · exact (H.kids M hM).more _
   · rw [List.mem_singleton.1 hM]; exact hL.more _
 · rcases List.mem_append.1 hM with hM | hM
   · exact (H.kids M hM).fresh hb
   · rw [List.mem_singleton.1 hM]; exact hL.fresh hb
theorem plain_view {es:List (List V)} {sz:Nat} {h:Option (Nat × Nat)} {α:Type} {c:α→List V} {l:List α} (H:PlIn es sz h (rws c l)) (hcl:V.clean.cleanLL 0 (rws c l)=true) (hlf:∀ e∈rws c l,∀ x∈e,x.leaf=true):View es (hdV h l.length) (.sl (rws c l)):=by
 rcases h with _ | ⟨b,cc⟩
 · have:rws c l=[]:=H
   rw [this]; exact .nils
 · refine .dref H (by simp [rws]) rfl hcl hlf (fun i r r' p q=>?_) (fun i r r' j x y p q u v=>?_)
   · rw [p] at q; cases q; rfl
   · rw [p] at q; cases q; rw [u] at v; cases v; exact .same _
theorem items_clean:∀ l:List It,V.clean.cleanLL 0 (rws It.cells l)=true
 | []=>rfl
 | x::l=>by
   show (V.clean.cleanL 0 x.cells&&V.clean.cleanLL 0 (rws It.cells l))=true
   rw [items_clean l]; rfl
theorem items_leaf (l:List It):∀ e∈rws It.cells l,∀ x∈e,x.leaf=true:=by
 intro e he x hx
 obtain ⟨a,_,rfl⟩:=List.mem_map.1 he
 simp only [It.cells,List.mem_cons,List.not_mem_nil,or_false] at hx
 rcases hx with rfl | rfl | rfl <;> rfl
theorem rules_clean:∀ l:List Ru,V.clean.cleanLL 0 (rws Ru.cells l)=true
 | []=>rfl
 | x::l=>by
   show (V.clean.cleanL 0 x.cells&&V.clean.cleanLL 0 (rws Ru.cells l))=true
   rw [rules_clean l]; rfl
theorem rules_leaf (l:List Ru):∀ e∈rws Ru.cells l,∀ x∈e,x.leaf=true:=by
 intro e he x hx
 obtain ⟨a,_,rfl⟩:=List.mem_map.1 he
 simp only [Ru.cells,List.mem_cons,List.not_mem_nil,or_false] at hx
 rcases hx with rfl | rfl | rfl <;> rfl
theorem ScIn.view {es h Ls} (H:ScIn es h Ls):View es (hdV h Ls.length) (.sl (rws Ru.cells (Ls.map LR.ru))):=by
 rcases h with _ | ⟨b,c⟩
 · have:Ls.map LR.cells=[]:=H.top
   have:Ls=[]:=List.map_eq_nil_iff.1 this
   subst this; exact .nils
 · have ht:ent b c 3 (Ls.map LR.cells)∈es:=H.top
   refine .dref ht (by simp) (by simp [rws]) (rules_clean _) (rules_leaf _) (fun i r r' p q=>?_) (fun i r r' j x y p q u v=>?_)
   · rw [List.getElem?_map] at p
     obtain ⟨L,_,rfl⟩:=Option.map_eq_some_iff.1 p
     obtain ⟨e1,e2⟩:=List.getElem?_eq_some_iff.1 q
     subst e2
     simp [rws,LR.cells,Ru.cells]
   · rw [List.getElem?_map] at p
     obtain ⟨L,hL,rfl⟩:=Option.map_eq_some_iff.1 p
     unfold rws at q
     rw [List.getElem?_map,List.getElem?_map,hL] at q
     cases q
     have hm:=List.mem_of_getElem? hL
     match j,u,v with
     | 0,u,v=>cases u; cases v; exact .same _
     | 1,u,v=>cases u; cases v; exact .same _
     | 2,u,v =>
       cases u; cases v
       exact plain_view (H.kids L hm) (items_clean _) (items_leaf _)
     | n+3,u,v=>simp [LR.cells] at u
end Go.Cod
set_option linter.all false
namespace Go.Cod
variable [Adr]
open Go Go.Proofs
set_option linter.all false
set_option maxRecDepth 10000
theorem semMore {o:Oper} {sl x:Operand} {t u e:TypeId} {ti:TI} (ho:o.op=.call { callee:=.builtin .append,args:=#[sl,x],argTypes:=#[t,u] }) (hk:kindOf (tauOf tauL) t=some (.slice e)) (hti:tauOf tauL e=some ti) (hu:notInt (kindOf (tauOf tauL) u)=true)
  (hz:ti.zero.cells.length=ti.size) {sz by_:Nat} (hsz:ti.size=sz) (hby:ti.bytes=by_) (hb0:0 < by_∧by_≤1000) {α:Type} {c:α→List V} (hc:∀ a,(c a).length=sz) {vs:List V} {vx:V} {k:Nat} {h:Option (Nat × Nat)} {L M:List α} {es:List (List V)} {st:St} {K:V→St→Prop} (hvs:vs=[hdV h L.length,vx]) (hpe:st[k]? = some (poolO es)) (hin:PlIn es sz h (L.map c))
  (hsrc:PSrc st vx (M.map c)) (hl:L.length+M.length≤10000000) (h0:h=none→M=[]→K .nils st)
  (hr:∀ b cc,h=some (b,cc)→K (.dref b (L++M).length cc) (st.set k (poolO (putEnt b ((L++M).map c) es))))
  (hn:∀ b cc,(∀ e∈es,labOf e≠b)→K (.dref b (L++M).length cc) (st.set k (poolO (es++[ent b cc sz ((L++M).map c)])))):SemOp Tryd.prog o vs st K:=by
 have hpe':poolEs st k=es:=by simp only [poolEs,hpe]; rfl
 have hw:∀ m∈M.map c,m.length=ti.size:=by
  rw [hsz]
  intro m hm
  obtain ⟨a,_,rfl⟩:=List.mem_map.1 hm
  exact hc a
 have hfit:∀ n:Nat,n≤10000000→n*ti.bytes≤140737488355328:=fun n h=>by
  rw [hby]
  have:=Nat.mul_le_mul h hb0.2
  omega
 rcases h with _ | ⟨b,cc⟩
 · have hL:L=[]:=List.map_eq_nil_iff.1 hin
   subst hL
   by_cases hM:M=[]
   · subst hM
     exact semAppendNil0 good ho hk hti hu hvs hsrc (h0 rfl rfl)
   · have hpos:0 < M.length:=List.length_pos_iff.2 hM
     refine semAppendNil (m:=M.length) good ho hk hti hu hz (by rw [hby]; exact hb0.1) hvs hpe hsrc hw (by simp) hpos (hfit _ (by simpa using hl)) fun b c' _ hf=>?_
     rw [hsz]
     exact hn b c' hf
 · have hm:ent b cc ti.size (L.map c)∈es:=by rw [hsz]; exact hin
   have hlaid:laidRows (L.map c) (M.map c) L.length=(L++M).map c:=by
    unfold laidRows
    rw [List.take_of_length_le (by simp),List.drop_of_length_le (by simp),List.map_append]
    simp
   refine semAppendE (m:=M.length) (rows:=L.map c) (es1:=putEnt b ((L++M).map c) es) good ho hk hti hu hz (by rw [hby]; exact hb0.1) hvs hpe' hm hsrc hw (by simp) (by simp) (hfit _ hl) (by rw [hlaid]) (fun _=>?_) fun _ b' c' _ hf=>?_
   · rw [← List.length_append]; exact hr b cc rfl
   · rw [List.take_of_length_le (by simp),← List.map_append,hsz,← List.length_append]
     exact hn b' c' hf
end Go.Cod
set_option linter.all false
namespace Go.Cod
variable [Adr]
open Go Go.Proofs
set_option linter.all false
set_option maxRecDepth 10000
def curO (s:List UInt8) (n:Nat):O:=⟨[[.str s,.int .i64 (n:Int)]],2,true,true,true,.cell⟩
theorem must_full (s:List UInt8) (n:Nat) (b:Bool):Full Tryd.prog noY 45 [.ptr 0 0 0,.bool b] [curO s n] fun o st'=>(b=true∧o=.ret (.tup [])∨b=false∧o=.pan (errV 3))∧st'=[curO s n]:=by
 cases b with
 | true =>
   refine full_of_awp good Tryd.func45 rfl (by kernel_rfl) (by decide) ?_
   conv=>whnf
   refine ⟨[],false,?_⟩
   conv=>whnf
   exact ⟨.inl ⟨rfl,rfl⟩,rfl⟩
 | false =>
   refine full_of_awp good Tryd.func45 rfl (by kernel_rfl) (by decide) ?_
   conv=>whnf
   refine ⟨[],false,?_⟩
   conv=>whnf
   exact ⟨.inr ⟨rfl,rfl⟩,rfl⟩
theorem hasPrefix1_pure (a w:List UInt8) (ha:a.length≤4611686018427387904):Pure Tryd.prog 68 [.str a,.str w] (·=.bool (decide (a.take w.length=w))):=by
 by_cases hl:w.length≤a.length
 · refine pure_of_awp good Tryd.func68 rfl (by kernel_rfl) (by decide) ?_
   conv=>whnf
   rw [leB_t (by omega)]
   conv=>whnf
   refine ⟨by omega,by omega,?_⟩
   conv=>whnf
   rw [Int.toNat_natCast,List.drop_zero,eqS_def]
 · have h:a.take w.length≠w:=fun e=>by
    have:=congrArg List.length e
    rw [List.length_take] at this
    omega
   rw [decide_eq_false h]
   refine pure_of_awp good Tryd.func68 rfl (by kernel_rfl) (by decide) ?_
   conv=>whnf
   rw [leB_f (by omega)]
   conv=>whnf
theorem hasPrefix_pure (a w:List UInt8) (ha:a.length≤4611686018427387904):Pure Tryd.prog 64 [.str a,.str w] (·=.bool (decide (a.take w.length=w))):=by
 have h:=hasPrefix1_pure a w ha
 generalize decide (a.take w.length=w)=b at *
 refine pure_of_awp good Tryd.func64 rfl (by kernel_rfl) (by decide) ?_
 conv=>whnf
 refine .inl (h.mono ?_)
 rintro q rfl
 conv=>whnf
def SkR (s:List UInt8) (n:Nat) (w:List UInt8) (o:Out) (st':St):Prop:=match skipP w (s.drop n) with
 | none=>o=.ret (.bool false)∧st'=[curO s n]
 | some _=>o=.ret (.bool true)∧st'=[curO s (n+w.length)]
theorem skip_full (s w:List UInt8) (n:Nat) (hs:s.length≤1048576) (hn:n≤s.length) (hw:w.length≤1048576):Full Tryd.prog noY 55 [.ptr 0 0 0,.str w] [curO s n] (SkR s n w):=by
 have hp:=hasPrefix_pure (s.drop n) w (by rw [List.length_drop]; omega)
 have hd:List.drop n (List.take s.length s)=s.drop n:=by rw [List.take_length]
 rw [← hd] at hp
 unfold SkR skipP
 by_cases h:(s.drop n).take w.length=w
 · rw [if_pos h]
   rw [hd,decide_eq_true h,← hd] at hp
   have hwn:n+w.length≤s.length:=by
    have:=congrArg List.length h
    rw [List.length_take,List.length_drop] at this
    omega
   refine full_of_awp good Tryd.func55 rfl (by kernel_rfl) (by decide) ?_
   conv=>whnf
   refine ⟨by omega,by omega,rfl,?_⟩
   conv=>whnf
   refine ⟨_,.inl hp,?_⟩
   conv=>whnf
   refine ⟨[],false,?_⟩
   conv=>whnf
   refine ⟨rfl,?_⟩
   show [O.mk [[.str s,.int .i64 (IntKind.i64.wrap ((n:Int)+(w.length:Int)))]] 2 true true true .cell]=[O.mk [[.str s,.int .i64 ((n+w.length:Nat):Int)]] 2 true true true .cell]
   rw [wrap64 (by omega) (by omega)]
   simp
 · rw [if_neg h]
   rw [hd,decide_eq_false h,← hd] at hp
   refine full_of_awp good Tryd.func55 rfl (by kernel_rfl) (by decide) ?_
   conv=>whnf
   refine ⟨by omega,by omega,rfl,?_⟩
   conv=>whnf
   refine ⟨_,.inl hp,?_⟩
   conv=>whnf
   refine ⟨[],false,?_⟩
   conv=>whnf
   exact ⟨rfl,rfl⟩
def WtR (s:List UInt8) (n:Nat) (w:List UInt8) (o:Out) (st':St):Prop:=match skipP w (s.drop n) with
 | none=>o=.pan (errV 3)∧st'=[curO s n]
 | some _=>o=.ret (.tup [])∧st'=[curO s (n+w.length)]
theorem want_full (s w:List UInt8) (n:Nat) (hs:s.length≤1048576) (hn:n≤s.length) (hw:w.length≤1048576):Full Tryd.prog noY 41 [.ptr 0 0 0,.str w] [curO s n] (WtR s n w):=by
 have hk:=skip_full s w n hs hn hw
 unfold SkR at hk
 unfold WtR
 cases h:skipP w (s.drop n) with
 | none =>
   rw [h] at hk
   refine full_of_awp good Tryd.func41 rfl (by kernel_rfl) (by decide) ?_
   conv=>whnf
   refine ⟨[0],false,?_⟩
   conv=>whnf
   refine hk.mono ?_
   rintro o st' ⟨rfl,rfl⟩
   conv=>whnf
   refine ⟨[0],false,?_⟩
   conv=>whnf
   refine (must_full s n false).mono ?_
   rintro o st' ⟨⟨hb,rfl⟩ | ⟨hb,rfl⟩,rfl⟩
   · cases hb
   · conv=>whnf
     refine ⟨[],false,?_⟩
     conv=>whnf
     exact ⟨rfl,rfl⟩
 | some r =>
   rw [h] at hk
   refine full_of_awp good Tryd.func41 rfl (by kernel_rfl) (by decide) ?_
   conv=>whnf
   refine ⟨[0],false,?_⟩
   conv=>whnf
   refine hk.mono ?_
   rintro o st' ⟨rfl,rfl⟩
   conv=>whnf
   refine ⟨[0],false,?_⟩
   conv=>whnf
   refine (must_full s (n+w.length) true).mono ?_
   rintro o st' ⟨⟨hb,rfl⟩ | ⟨hb,rfl⟩,rfl⟩
   · conv=>whnf
     refine ⟨[],false,?_⟩
     conv=>whnf
     exact ⟨rfl,rfl⟩
   · cases hb
theorem run_step {n i:Nat} {s:List UInt8} (hi:i < 8) (h:n+i < s.length) (hb:lowerB s[n+i]=true):runP (8 - i) (s.drop (n+i))=s[n+i]::runP (8 - (i+1)) (s.drop (n+(i+1))):=by
 rw [show 8 - i=(8 - (i+1))+1 by omega,List.drop_eq_getElem_cons h,runP,if_pos hb]
 rfl
theorem run_stop {n i:Nat} {s:List UInt8} (h:8≤i∨s.length≤n+i∨∃ h:n+i < s.length,lowerB s[n+i]=false):runP (8 - i) (s.drop (n+i))=[]:=by
 rcases h with h | h | ⟨h,hb⟩
 · rw [show 8 - i=0 by omega,runP]
 · rw [List.drop_eq_nil_of_le h]
   cases 8 - i <;> rfl
 · rw [List.drop_eq_getElem_cons h]
   cases 8 - i with
   | zero=>rfl
   | succ m=>rw [runP,if_neg (by rw [hb]; decide)]
def NmR (s:List UInt8) (n:Nat) (o:Out) (st':St):Prop:=match nameP (s.drop n) with
 | none=>o=.pan (errV 3)∧st'=[curO s n]
 | some (k,_)=>o=.ret (.str k)∧st'=[curO s (n+k.length)]
set_option maxHeartbeats 2000000 in
theorem some_full (s:List UInt8) (n:Nat) (hs:s.length≤1048576) (hn:n≤s.length):Full Tryd.prog noY 56 [.ptr 0 0 0,.int .i64 8,.fn 57 []] [curO s n] (NmR s n):=by
 refine full_of_awp good Tryd.func56 rfl (by kernel_rfl) (by decide) ?_
 conv=>whnf
 refine loop_drop (fun m fr st=>∃ i:Nat,m+i=8∧n+i≤s.length∧runP 8 (s.drop n)=(s.drop n).take i++runP (8 - i) (s.drop (n+i)) ∧
   Holds fr [(0,.ptr 0 0 0),(1,.int .i64 8),(2,.fn 57 []),(7,.int .i64 n)]∧st=[curO s (n+i)]) 8 none
  (by
    conv=>whnf
    exact ⟨0,rfl,hn,rfl,⟨rfl,rfl,rfl,rfl,trivial⟩,rfl⟩) ?_
 rintro m fr st ⟨i,j1,j2,j3,hh,rfl⟩
 obtain ⟨fr,rfl⟩:=hh.split
 clear hh
 have wi:IntKind.i64.wrap (((n+i:Nat):Int) - (n:Int))=(i:Int):=by rw [wrap64 (by omega) (by omega)]; omega
 have hend:runP (8 - i) (s.drop (n+i))=[]→NmR s n (if i=0 then .pan (errV 3) else .ret (.str ((s.drop n).take i))) [curO s (n+i)]:=fun h=>by
  rw [h,List.append_nil] at j3
  have hl:((s.drop n).take i).length=i:=by rw [List.length_take,List.length_drop]; omega
  unfold NmR nameP
  rw [j3]
  by_cases h0:i=0
  · subst h0
    rw [if_pos (List.take_zero ..)]
    exact ⟨rfl,rfl⟩
  · rw [if_neg (fun e=>h0 (by rw [e] at hl; exact hl.symm)),if_neg h0]
    exact ⟨rfl,by rw [hl]⟩
 conv=>whnf
 by_cases h1:n+i < s.length
 · rw [ltB_t (by omega)]
   conv=>whnf
   rw [wi]
   by_cases h2:i < 8
   · rw [ltB_t (by omega)]
     conv=>whnf
     refine ⟨by omega,s[n+i],List.getElem?_eq_getElem h1,?_⟩
     conv=>whnf
     refine ⟨_,.inl (isLetter_pure _),?_⟩
     cases hb:lowerB s[n+i] with
     | true =>
       conv=>whnf
       refine ⟨m - 1,by omega,none,?_⟩
       conv=>whnf
       have hst:=run_step h2 h1 hb
       refine ⟨i+1,by omega,by omega,?_,⟨rfl,rfl,rfl,rfl,trivial⟩,?_⟩
       · rw [j3,hst,List.take_succ_eq_append_getElem (by rw [List.length_drop]; omega),List.getElem_drop,List.append_assoc]
         rfl
       · show [O.mk [[.str s,.int .i64 (IntKind.i64.wrap (((n+i:Nat):Int)+1))]] 2 true true true .cell]=_
         rw [wrap64 (by omega) (by omega)]
         rfl
     | false =>
       conv=>whnf
       have he:=hend (run_stop (.inr (.inr ⟨h1,hb⟩)))
       by_cases h0:i=0
       · rw [if_pos h0] at he
         have z1:ltB (n:Int) ((n+i:Nat):Int)=false:=ltB_f (by omega)
         rw [z1]
         conv=>whnf
         refine ⟨[0],false,?_⟩
         conv=>whnf
         refine (must_full s (n+i) false).mono ?_
         rintro o st' ⟨⟨hb,rfl⟩ | ⟨hb,rfl⟩,rfl⟩
         · cases hb
         · conv=>whnf
           refine ⟨[],false,?_⟩
           conv=>whnf
           exact he
       · rw [if_neg h0] at he
         have z1:ltB (n:Int) ((n+i:Nat):Int)=true:=ltB_t (by omega)
         rw [z1]
         conv=>whnf
         refine ⟨[0],false,?_⟩
         conv=>whnf
         refine (must_full s (n+i) true).mono ?_
         rintro o st' ⟨⟨hb,rfl⟩ | ⟨hb,rfl⟩,rfl⟩
         · conv=>whnf
           refine ⟨by omega,by show n+i≤s.length; omega,by omega,by show n≤n+i; omega,rfl,?_⟩
           conv=>whnf
           refine ⟨[],false,?_⟩
           conv=>whnf
           have hd:List.drop n (List.take (n+i) s)=(s.drop n).take i:=by rw [List.drop_take,Nat.add_sub_cancel_left]
           rw [← hd] at he
           exact he
         · cases hb
   · rw [ltB_f (by omega)]
     conv=>whnf
     have he:=hend (run_stop (.inl (by omega)))
     by_cases h0:i=0
     · rw [if_pos h0] at he
       have z1:ltB (n:Int) ((n+i:Nat):Int)=false:=ltB_f (by omega)
       rw [z1]
       conv=>whnf
       refine ⟨[0],false,?_⟩
       conv=>whnf
       refine (must_full s (n+i) false).mono ?_
       rintro o st' ⟨⟨hb,rfl⟩ | ⟨hb,rfl⟩,rfl⟩
       · cases hb
       · conv=>whnf
         refine ⟨[],false,?_⟩
         conv=>whnf
         exact he
     · rw [if_neg h0] at he
       have z1:ltB (n:Int) ((n+i:Nat):Int)=true:=ltB_t (by omega)
       rw [z1]
       conv=>whnf
       refine ⟨[0],false,?_⟩
       conv=>whnf
       refine (must_full s (n+i) true).mono ?_
       rintro o st' ⟨⟨hb,rfl⟩ | ⟨hb,rfl⟩,rfl⟩
       · conv=>whnf
         refine ⟨by omega,by show n+i≤s.length; omega,by omega,by show n≤n+i; omega,rfl,?_⟩
         conv=>whnf
         refine ⟨[],false,?_⟩
         conv=>whnf
         have hd:List.drop n (List.take (n+i) s)=(s.drop n).take i:=by rw [List.drop_take,Nat.add_sub_cancel_left]
         rw [← hd] at he
         exact he
       · cases hb
 · rw [ltB_f (by omega)]
   conv=>whnf
   have he:=hend (run_stop (.inr (.inl (by omega))))
   by_cases h0:i=0
   · rw [if_pos h0] at he
     have z1:ltB (n:Int) ((n+i:Nat):Int)=false:=ltB_f (by omega)
     rw [z1]
     conv=>whnf
     refine ⟨[0],false,?_⟩
     conv=>whnf
     refine (must_full s (n+i) false).mono ?_
     rintro o st' ⟨⟨hb,rfl⟩ | ⟨hb,rfl⟩,rfl⟩
     · cases hb
     · conv=>whnf
       refine ⟨[],false,?_⟩
       conv=>whnf
       exact he
   · rw [if_neg h0] at he
     have z1:ltB (n:Int) ((n+i:Nat):Int)=true:=ltB_t (by omega)
     rw [z1]
     conv=>whnf
     refine ⟨[0],false,?_⟩
     conv=>whnf
     refine (must_full s (n+i) true).mono ?_
     rintro o st' ⟨⟨hb,rfl⟩ | ⟨hb,rfl⟩,rfl⟩
     · conv=>whnf
       refine ⟨by omega,by show n+i≤s.length; omega,by omega,by show n≤n+i; omega,rfl,?_⟩
       conv=>whnf
       refine ⟨[],false,?_⟩
       conv=>whnf
       have hd:List.drop n (List.take (n+i) s)=(s.drop n).take i:=by rw [List.drop_take,Nat.add_sub_cancel_left]
       rw [← hd] at he
       exact he
     · cases hb
theorem name_full (s:List UInt8) (n:Nat) (hs:s.length≤1048576) (hn:n≤s.length):Full Tryd.prog noY 42 [.ptr 0 0 0] [curO s n] (NmR s n):=by
 have h:=some_full s n hs hn
 unfold NmR at h ⊢
 cases hp:nameP (s.drop n) with
 | none =>
   rw [hp] at h
   refine full_of_awp good Tryd.func42 rfl (by kernel_rfl) (by decide) ?_
   conv=>whnf
   refine ⟨[0],false,?_⟩
   conv=>whnf
   refine h.mono ?_
   rintro o st' ⟨rfl,rfl⟩
   conv=>whnf
   refine ⟨[],false,?_⟩
   conv=>whnf
   exact ⟨rfl,rfl⟩
 | some q =>
   obtain ⟨k,r⟩:=q
   rw [hp] at h
   refine full_of_awp good Tryd.func42 rfl (by kernel_rfl) (by decide) ?_
   conv=>whnf
   refine ⟨[0],false,?_⟩
   conv=>whnf
   refine h.mono ?_
   rintro o st' ⟨rfl,rfl⟩
   conv=>whnf
   refine ⟨[],false,?_⟩
   conv=>whnf
   exact ⟨rfl,rfl⟩
theorem atEnd_full (s:List UInt8) (n:Nat):Full Tryd.prog noY 43 [.ptr 0 0 0] [curO s n] fun o st'=>o=.ret (.bool (decide (n=s.length)))∧st'=[curO s n]:=by
 refine full_of_awp good Tryd.func43 rfl (by kernel_rfl) (by decide) ?_
 conv=>whnf
 refine ⟨[],false,?_⟩
 conv=>whnf
 refine ⟨?_,rfl⟩
 rw [eqB_def]
 exact congrArg (fun b=>Out.ret (.bool b)) (decide_eq_decide.2 (by omega))
end Go.Cod
set_option linter.all false
namespace Go.Cod
variable [Adr]
open Go Go.Proofs
set_option linter.all false
set_option maxRecDepth 10000
theorem drop_more {s a r:List UInt8} {n:Nat} (hn:n≤s.length) (h:s.drop n=a++r):n+a.length≤s.length∧s.drop (n+a.length)=r:=by
 have hl:=congrArg List.length h
 rw [List.length_drop,List.length_append] at hl
 refine ⟨by omega,?_⟩
 rw [← List.drop_drop,h,List.drop_left]
theorem skip_opt (s w:List UInt8) (n:Nat) (hs:s.length≤1048576) (hn:n≤s.length) (hw:w.length≤1048576):Full Tryd.prog noY 55 [.ptr 0 0 0,.str w] [curO s n] fun o st'=>∃ n',n≤n'∧n'≤s.length∧s.drop n'=(optP w (s.drop n)).2∧o=.ret (.bool (optP w (s.drop n)).1)∧st'=[curO s n']:=by
 refine (skip_full s w n hs hn hw).mono ?_
 intro o st' h
 unfold SkR at h
 unfold optP
 cases hk:skipP w (s.drop n) with
 | none =>
   rw [hk] at h
   obtain ⟨rfl,rfl⟩:=h
   exact ⟨n,Nat.le_refl _,hn,rfl,rfl,rfl⟩
 | some r =>
   rw [hk] at h
   obtain ⟨rfl,rfl⟩:=h
   obtain ⟨h1,h2⟩:=drop_more hn (skipP_some hk)
   exact ⟨n+w.length,by omega,h1,h2,rfl,rfl⟩
def ItR (s:List UInt8) (n:Nat) (o:Out) (st':St):Prop:=∃ n',match itemP (s.drop n) with
 | none=>o=.pan (errV 3)∧st'=[curO s n']
 | some (x,r)=>n < n'∧n'≤s.length∧s.drop n'=r∧o=.ret (.agg x.cells)∧st'=[curO s n']
theorem nameP_pos {s k r:List UInt8} (h:nameP s=some (k,r)):1≤k.length:=by
 unfold nameP at h
 split at h
 · cases h
 · rename_i hne
   cases h
   exact List.length_pos_iff.2 hne
set_option maxHeartbeats 2000000 in
theorem item_full (s:List UInt8) (n:Nat) (hs:s.length≤1048576) (hn:n≤s.length):Full Tryd.prog noY 58 [.ptr 0 0 0] [curO s n] (ItR s n):=by
 have hnm:=name_full s n hs hn
 unfold NmR at hnm
 unfold ItR itemP
 cases hp:nameP (s.drop n) with
 | none =>
   rw [hp] at hnm
   refine full_of_awp good Tryd.func58 rfl (by kernel_rfl) (by decide) ?_
   conv=>whnf
   refine ⟨[0],false,?_⟩
   conv=>whnf
   refine hnm.mono ?_
   rintro o st' ⟨rfl,rfl⟩
   conv=>whnf
   refine ⟨[],false,?_⟩
   conv=>whnf
   exact ⟨n,rfl,rfl⟩
 | some q =>
   obtain ⟨k,r1⟩:=q
   rw [hp] at hnm
   simp only at hnm
   have hkp:=nameP_pos hp
   obtain ⟨h1,h2⟩:=drop_more hn (nameP_some hp)
   simp only
   rw [← h2]
   generalize hn1:n+k.length=n1 at *
   have f1:=skip_opt s [42] n1 hs h1 (by decide)
   generalize hq1:optP [42] (s.drop n1)=q1 at *
   obtain ⟨b1,r2⟩:=q1
   refine full_of_awp good Tryd.func58 rfl (by kernel_rfl) (by decide) ?_
   conv=>whnf
   refine ⟨[0],false,?_⟩
   conv=>whnf
   refine hnm.mono ?_
   rintro o st' ⟨rfl,rfl⟩
   conv=>whnf
   refine ⟨[0],false,?_⟩
   conv=>whnf
   refine f1.mono ?_
   rintro o st' ⟨n2,g1,g2,g3,rfl,rfl⟩
   have f2:=skip_opt s [63] n2 hs g2 (by decide)
   simp only at g3 ⊢
   rw [g3] at f2
   generalize hq2:optP [63] r2=q2 at *
   obtain ⟨b2,r3⟩:=q2
   conv=>whnf
   refine ⟨[0],false,?_⟩
   conv=>whnf
   refine f2.mono ?_
   rintro o st' ⟨n3,e1,e2,e3,rfl,rfl⟩
   conv=>whnf
   refine ⟨[],false,?_⟩
   conv=>whnf
   exact ⟨n3,by omega,e2,e3,rfl,rfl⟩
end Go.Cod
set_option linter.all false
namespace Go.Cod
variable [Adr]
open Go Go.Proofs
set_option linter.all false
set_option maxRecDepth 10000
theorem itemP_len {s r:List UInt8} {x:It} (h:itemP s=some (x,r)):r.length < s.length:=by
 have h1:=congrArg List.length (itemP_some h)
 rw [List.length_append] at h1
 unfold itemP at h
 cases hn:nameP s with
 | none=>rw [hn] at h; cases h
 | some q =>
   obtain ⟨k,s1⟩:=q
   rw [hn] at h
   cases h
   have:=nameP_pos hn
   unfold itW at h1
   rw [List.length_append] at h1
   simp only at h1
   omega
theorem skip1_len {s r:List UInt8} {b:UInt8} (h:skipP [b] s=some r):s.length=r.length+1:=by
 rw [skipP_some h,List.length_append]
 simp
 omega
theorem itemsP_fuel:∀ (n m:Nat) (s:List UInt8),s.length < n→s.length < m→itemsP n s=itemsP m s
 | 0,_,_,h,_=>by omega
 | _,0,_,_,h=>by omega
 | n+1,m+1,s,h1,h2=>by
   rw [itemsP,itemsP]
   cases hs:skipP [32] s with
   | none=>rfl
   | some s1 =>
     have e1:=skip1_len hs
     simp only
     cases hi:itemP s1 with
     | none=>rfl
     | some q =>
       obtain ⟨x,s2⟩:=q
       have e2:=itemP_len hi
       simp only
       rw [itemsP_fuel n m s2 (by omega) (by omega)]
def itemsF (s:List UInt8):Option (List It × List UInt8):=itemsP (s.length+1) s
def consI (xs:List It):Option (List It × List UInt8)→Option (List It × List UInt8)
 | none=>none
 | some (ys,r)=>some (xs++ys,r)
theorem itemsF_stop {s:List UInt8} (h:skipP [32] s=none):itemsF s=some ([],s):=by
 unfold itemsF
 rw [itemsP,h]
theorem itemsF_bad {s s1:List UInt8} (h:skipP [32] s=some s1) (hi:itemP s1=none):itemsF s=none:=by
 unfold itemsF
 rw [itemsP,h]
 simp only [hi]
theorem itemsF_more {s s1 s2:List UInt8} {x:It} (h:skipP [32] s=some s1) (hi:itemP s1=some (x,s2)):itemsF s=consI [x] (itemsF s2):=by
 have e1:=skip1_len h
 have e2:=itemP_len hi
 unfold itemsF
 rw [itemsP,h]
 simp only [hi]
 rw [itemsP_fuel s.length (s2.length+1) s2 (by omega) (by omega)]
 cases itemsP (s2.length+1) s2 with
 | none=>rfl
 | some q=>rfl
theorem consI_app (xs ys:List It) (o):consI (xs++ys) o=consI xs (consI ys o):=by
 cases o with
 | none=>rfl
 | some q=>simp [consI]
def Sub (es es':List (List V)):Prop:=∀ e∈es,e∈es'
def NewH (es:List (List V)) (h:Option (Nat × Nat)):Prop:=∀ b c,h=some (b,c)→∀ e∈es,labOf e≠b
theorem Sub.pl {es es':List (List V)} (h:Sub es es') {sz k L} (hp:PlIn es sz k L):PlIn es' sz k L:=by
 rcases k with _ | ⟨b,c⟩
 · exact hp
 · exact h _ hp
theorem Sub.sc {es es':List (List V)} (h:Sub es es') {k Ls} (H:ScIn es k Ls):ScIn es' k Ls:=⟨h.pl H.top,fun L hL=>h.pl (H.kids L hL),H.ap,H.pw⟩
theorem Sub.put {es es':List (List V)} (h:Sub es es') {b:Nat} (hb:∀ e∈es,labOf e≠b) (r:List (List V)):Sub es (putEnt b r es'):=fun e he=>putEnt_other (h e he) (hb e he)
theorem Sub.app {es es':List (List V)} (h:Sub es es') (x:List (List V)):Sub es (es'++x):=fun e he=>List.mem_append_left _ (h e he)
theorem NewH.apart {es:List (List V)} {h k:Option (Nat × Nat)} (hn:NewH es h) {sz L} (hp:PlIn es sz k L):ApartH k h:=by
 intro b c b' c' e1 e2
 subst e1
 intro e
 exact hn b' c' e2 _ hp (by rw [lab_entL]; exact e)
def RuR (s:List UInt8) (n:Nat) (es:List (List V)) (o:Out) (st':St):Prop:=∃ (n':Nat) (es':List (List V)),match ruleP (s.drop n) with
 | none=>o=.pan (errV 3)∧st'=[curO s n',poolO es']
 | some (x,r)=>∃ L:LR,L.ru=x∧n < n'∧n'≤s.length∧s.drop n'=r∧Sub es es'∧NewH es L.hd∧PlIn es' 3 L.hd (rws It.cells L.items)∧o=.ret (.agg L.cells)∧st'=[curO s n',poolO es']
def rukS:O:=⟨[[.str [],.bool false,.nils]],3,true,true,true,.cell⟩
def rukO (k:List UInt8) (b:Bool) (v:V):O:=⟨[[.str k,.bool b,v]],3,true,true,true,.cell⟩
def RuT (k:List UInt8) (b:Bool):Option (List It × List UInt8)→Option (Ru × List UInt8)
 | none=>none
 | some (xs,s3)=>match skipP [10] s3 with
   | none=>none
   | some s4=>some (⟨k,b,xs⟩,s4)
set_option maxHeartbeats 8000000 in
theorem rule_full (s:List UInt8) (n:Nat) (es:List (List V)) (hs:s.length≤1048576) (hn:n≤s.length):Full Tryd.prog noY 44 [.ptr 0 0 0] [curO s n,poolO es] (RuR s n es):=by
 have hnm:=name_full s n hs hn
 unfold NmR at hnm
 unfold RuR
 cases hp:nameP (s.drop n) with
 | none =>
   have hr:ruleP (s.drop n)=none:=by unfold ruleP; rw [hp]
   rw [hp] at hnm
   rw [hr]
   refine full_of_awp good Tryd.func44 rfl (by kernel_rfl) (by decide) ?_
   conv=>whnf
   refine ⟨[0],false,?_⟩
   conv=>whnf
   refine hnm.mono ?_
   rintro o st' ⟨rfl,rfl⟩
   conv=>whnf
   refine ⟨[],true,?_⟩
   conv=>whnf
   exact ⟨_,_,rfl,rfl⟩
 | some q =>
 obtain ⟨k,r1⟩:=q
 rw [hp] at hnm
 simp only at hnm
 have hkp:=nameP_pos hp
 obtain ⟨h1,h2⟩:=drop_more hn (nameP_some hp)
 generalize hn1:n+k.length=n1 at *
 have f1:=skip_opt s [32,116,101,120,116] n1 hs h1 (by decide)
 rw [h2] at f1
 have hru:ruleP (s.drop n)=match skipP [58] (optP [32,116,101,120,116] r1).2 with
  | none=>none
  | some s2=>RuT k (optP [32,116,101,120,116] r1).1 (itemsF s2):=by
  unfold ruleP
  rw [hp]
  simp only
  cases skipP [58] (optP [32,116,101,120,116] r1).2 with
  | none=>rfl
  | some s2 =>
    simp only [itemsF]
    cases itemsP (s2.length+1) s2 with
    | none=>rfl
    | some q=>rfl
 rw [hru]
 clear hru hp
 generalize hq1:optP [32,116,101,120,116] r1=q1 at *
 obtain ⟨b1,r2⟩:=q1
 simp only at f1 ⊢
 refine full_of_awp good Tryd.func44 rfl (by kernel_rfl) (by decide) ?_
 conv=>whnf
 refine ⟨[0],false,?_⟩
 conv=>whnf
 refine hnm.mono ?_
 rintro o st' ⟨rfl,rfl⟩
 conv=>whnf
 refine ⟨[0],false,?_⟩
 conv=>whnf
 refine f1.mono ?_
 rintro o st' ⟨n2,g1,g2,g3,rfl,rfl⟩
 have f2:=want_full s [58] n2 hs g2 (by decide)
 unfold WtR at f2
 rw [g3] at f2
 conv=>whnf
 refine ⟨[0],false,?_⟩
 conv=>whnf
 cases h58:skipP [58] r2 with
 | none =>
   rw [h58] at f2
   refine f2.mono ?_
   rintro o st' ⟨rfl,rfl⟩
   conv=>whnf
   refine ⟨[],true,?_⟩
   conv=>whnf
   exact ⟨_,_,rfl,rfl⟩
 | some s2 =>
 rw [h58] at f2
 simp only at f2 ⊢
 obtain ⟨e1,e2⟩:=drop_more g2 (g3.trans (skipP_some h58))
 refine f2.mono ?_
 rintro o st' ⟨rfl,rfl⟩
 clear f1 f2 hnm
 generalize hn3:n2+([58]:List UInt8).length=n3 at *
 simp only [List.length_singleton] at hn3
 conv=>whnf
 refine ⟨(fun m fr st=>∃ (n4:Nat) (xs:List It) (h:Option (Nat × Nat)) (es1:List (List V)),m+n4=s.length∧n3≤n4∧itemsF s2=consI xs (itemsF (s.drop n4))∧Sub es es1∧NewH es h∧PlIn es1 3 h (rws It.cells xs)∧xs.length≤n4 ∧
   Holds fr [(0,.ptr 0 0 0),(2,.ptr 2 0 0),(3,.ptr 3 0 0)]∧st=[curO s n4,poolO es1,rukS,rukO k b1 (hdV h xs.length)]),s.length - n3,true,none,?_,?_⟩
 · conv=>whnf
   refine ⟨n3,[],none,es,by omega,by omega,?_,(fun e he=>he),(fun _ _ h=>by cases h),rfl,by simp,⟨rfl,rfl,rfl,trivial⟩,rfl⟩
   rw [e2]
   cases itemsF s2 with
   | none=>rfl
   | some q=>rfl
 rintro m fr st ⟨n4,xs,h,es1,j0,j1,j2,j3,j4,j5,j6,hh,rfl⟩
 obtain ⟨fr,rfl⟩:=hh.split
 clear hh
 have hk4:=skip_full s [32] n4 hs (by omega) (by decide)
 unfold SkR at hk4
 have hw4:=want_full s [10] n4 hs (by omega) (by decide)
 unfold WtR at hw4
 conv=>whnf
 refine ⟨[0],false,?_⟩
 conv=>whnf
 cases h32:skipP [32] (s.drop n4) with
 | none =>
   rw [h32] at hk4
   refine hk4.mono ?_
   rintro o st' ⟨rfl,rfl⟩
   rw [itemsF_stop h32] at j2
   simp only [consI,List.append_nil] at j2
   rw [j2]
   conv=>whnf
   refine ⟨[0],false,?_⟩
   conv=>whnf
   cases h10:skipP [10] (s.drop n4) with
   | none =>
     have hT:RuT k b1 (some (xs,s.drop n4))=none:=by simp only [RuT,h10]
     rw [hT]
     rw [h10] at hw4
     refine hw4.mono ?_
     rintro o st' ⟨rfl,rfl⟩
     conv=>whnf
     refine ⟨[],true,?_⟩
     conv=>whnf
     exact ⟨_,_,rfl,rfl⟩
   | some s4 =>
     have hT:RuT k b1 (some (xs,s.drop n4))=some (⟨k,b1,xs⟩,s4):=by simp only [RuT,h10]
     rw [hT]
     rw [h10] at hw4
     simp only at hw4 ⊢
     obtain ⟨d1,d2⟩:=drop_more (by omega) (skipP_some h10)
     refine hw4.mono ?_
     rintro o st' ⟨rfl,rfl⟩
     rcases h with _ | ⟨b,c⟩
     all_goals
      conv=>whnf
      refine ⟨[],true,?_⟩
      conv=>whnf
      refine ⟨_,es1,⟨k,b1,xs,_⟩,rfl,?_,d1,d2,j3,j4,j5,rfl,rfl⟩
      simp only [List.length_singleton]
      omega
 | some s5 =>
   rw [h32] at hk4
   simp only at hk4
   obtain ⟨d1,d2⟩:=drop_more (by omega) (skipP_some h32)
   refine hk4.mono ?_
   rintro o st' ⟨rfl,rfl⟩
   generalize hn5:n4+([32]:List UInt8).length=n5 at *
   simp only [List.length_singleton] at hn5
   have hit:=item_full s n5 hs d1
   unfold ItR at hit
   rw [d2] at hit
   rcases h with _ | ⟨b,c⟩
   · conv=>whnf
     refine ⟨[0],false,?_⟩
     conv=>whnf
     cases hi:itemP s5 with
     | none =>
       rw [hi] at hit
       rw [itemsF_bad h32 hi] at j2
       simp only [consI] at j2
       have hT:RuT k b1 none=none:=rfl
       rw [j2,hT]
       refine hit.mono ?_
       rintro o st' ⟨n6,rfl,rfl⟩
       intro fr'
       conv=>whnf
       refine ⟨[],true,?_⟩
       conv=>whnf
       exact ⟨_,_,rfl,rfl⟩
     | some q =>
       obtain ⟨x,s6⟩:=q
       rw [hi] at hit
       simp only at hit
       rw [itemsF_more h32 hi,← consI_app] at j2
       refine hit.mono ?_
       rintro o st' ⟨n6,y1,y2,y3,rfl,rfl⟩
       rw [← y3] at j2
       conv=>whnf
       repeat
        refine And.intro (by (conv=>whnf); first | rfl | exact rfl) ?_
        conv=>whnf
       refine semMore (k:=1) (sz:=3) (by_:=24) (c:=It.cells) (h:=none) (L:=xs) (M:=[x]) (es:=es1) rfl rfl rfl rfl rfl rfl rfl ⟨by omega,by omega⟩ (fun _=>rfl) rfl rfl j5 (.inl rfl) (by rw [List.length_singleton]; omega) (fun _ h=>by cases h) (fun b' c' hb=>?_) fun b' c' hf=>?_
       · cases hb
       · skip
         conv=>whnf
         repeat
          refine And.intro (by (conv=>whnf); first | rfl | exact rfl) ?_
          conv=>whnf
         refine ⟨s.length - n6,by omega,some [0,1,2,3],?_⟩
         conv=>whnf
         exact ⟨n6,xs++[x],some (b',c'),_,by omega,by omega,j2,j3.app _,(fun b0 c0 e0 e he=>by cases e0; exact hf e (j3 e he)),List.mem_append_right _ List.mem_cons_self,by simp; omega,⟨rfl,rfl,rfl,trivial⟩,rfl⟩
   · conv=>whnf
     refine ⟨[0],false,?_⟩
     conv=>whnf
     cases hi:itemP s5 with
     | none =>
       rw [hi] at hit
       rw [itemsF_bad h32 hi] at j2
       simp only [consI] at j2
       have hT:RuT k b1 none=none:=rfl
       rw [j2,hT]
       refine hit.mono ?_
       rintro o st' ⟨n6,rfl,rfl⟩
       intro fr'
       conv=>whnf
       refine ⟨[],true,?_⟩
       conv=>whnf
       exact ⟨_,_,rfl,rfl⟩
     | some q =>
       obtain ⟨x,s6⟩:=q
       rw [hi] at hit
       simp only at hit
       rw [itemsF_more h32 hi,← consI_app] at j2
       refine hit.mono ?_
       rintro o st' ⟨n6,y1,y2,y3,rfl,rfl⟩
       rw [← y3] at j2
       conv=>whnf
       repeat
        refine And.intro (by (conv=>whnf); first | rfl | exact rfl) ?_
        conv=>whnf
       refine semMore (k:=1) (sz:=3) (by_:=24) (c:=It.cells) (h:=some (b,c)) (L:=xs) (M:=[x]) (es:=es1) rfl rfl rfl rfl rfl rfl rfl ⟨by omega,by omega⟩ (fun _=>rfl) rfl rfl j5 (.inl rfl) (by rw [List.length_singleton]; omega) (fun _ h=>by cases h) (fun b' c' hb=>?_) fun b' c' hf=>?_
       · cases hb
         conv=>whnf
         repeat
          refine And.intro (by (conv=>whnf); first | rfl | exact rfl) ?_
          conv=>whnf
         refine ⟨s.length - n6,by omega,some [0,1,2,3],?_⟩
         conv=>whnf
         exact ⟨n6,xs++[x],some (b,c),_,by omega,by omega,j2,j3.put (j4 b c rfl) _,j4,putEnt_mem j5,by simp; omega,⟨rfl,rfl,rfl,trivial⟩,rfl⟩
       · skip
         conv=>whnf
         repeat
          refine And.intro (by (conv=>whnf); first | rfl | exact rfl) ?_
          conv=>whnf
         refine ⟨s.length - n6,by omega,some [0,1,2,3],?_⟩
         conv=>whnf
         exact ⟨n6,xs++[x],some (b',c'),_,by omega,by omega,j2,j3.app _,(fun b0 c0 e0 e he=>by cases e0; exact hf e (j3 e he)),List.mem_append_right _ List.mem_cons_self,by simp; omega,⟨rfl,rfl,rfl,trivial⟩,rfl⟩
end Go.Cod
set_option linter.all false
namespace Go.Cod
variable [Adr]
open Go Go.Proofs
set_option linter.all false
set_option maxRecDepth 10000
theorem ruleP_len {s r:List UInt8} {x:Ru} (h:ruleP s=some (x,r)):r.length < s.length:=by
 have h1:=congrArg List.length (ruleP_some h)
 rw [List.length_append] at h1
 have:=ruW_len1 x
 omega
theorem rulesP_fuel:∀ (n m:Nat) (s:List UInt8),s.length < n→s.length < m→rulesP n s=rulesP m s
 | 0,_,_,h,_=>by omega
 | _,0,_,_,h=>by omega
 | n+1,m+1,s,h1,h2=>by
   rw [rulesP,rulesP]
   by_cases hs:s=[]
   · rw [if_pos hs,if_pos hs]
   · rw [if_neg hs,if_neg hs]
     cases hi:ruleP s with
     | none=>rfl
     | some q =>
       obtain ⟨x,s2⟩:=q
       have e2:=ruleP_len hi
       simp only
       rw [rulesP_fuel n m s2 (by omega) (by omega)]
def rulesF (s:List UInt8):Option (List Ru):=rulesP (s.length+1) s
def consR (xs:List Ru):Option (List Ru)→Option (List Ru)
 | none=>none
 | some ys=>some (xs++ys)
theorem rulesF_nil:rulesF []=some []:=rfl
theorem rulesF_bad {s:List UInt8} (h:s≠[]) (hi:ruleP s=none):rulesF s=none:=by
 unfold rulesF
 rw [rulesP,if_neg h,hi]
theorem rulesF_more {s s2:List UInt8} {x:Ru} (h:s≠[]) (hi:ruleP s=some (x,s2)):rulesF s=consR [x] (rulesF s2):=by
 have e2:=ruleP_len hi
 unfold rulesF
 rw [rulesP,if_neg h,hi]
 simp only
 rw [rulesP_fuel s.length (s2.length+1) s2 (by omega) (by omega)]
 cases rulesP (s2.length+1) s2 with
 | none=>rfl
 | some q=>rfl
theorem consR_app (xs ys:List Ru) (o):consR (xs++ys) o=consR xs (consR ys o):=by
 cases o with
 | none=>rfl
 | some q=>simp [consR]
theorem flat_le {α:Type} (f:α→List UInt8):∀ (xs:List α) (x:α),x∈xs→(f x).length≤(xs.flatMap f).length
 | y::ys,x,h=>by
   rw [List.flatMap_cons,List.length_append]
   rcases List.mem_cons.1 h with rfl | h
   · omega
   · have:=flat_le f ys x h
     omega
theorem flat_len {α:Type} (f:α→List UInt8) (hf:∀ x,1≤(f x).length):∀ xs:List α,xs.length≤(xs.flatMap f).length
 | []=>by simp
 | y::ys=>by
   rw [List.flatMap_cons,List.length_append,List.length_cons]
   have:=flat_len f hf ys
   have:=hf y
   omega
theorem scW_sm {c:Sc} (h:(scW c).length≤1048576):c.Sm:=by
 unfold scW at h
 simp only [List.length_append] at h
 have h1:=flat_len ruW ruW_len1 c.rules
 refine ⟨by omega,by omega,fun r hr=>?_⟩
 have h2:=flat_le ruW c.rules r hr
 have h3:(ruW r).length≤1048576:=by omega
 unfold ruW at h3
 simp only [List.length_append] at h3
 have h4:=flat_len (fun x=>[32]++itW x) (fun x=>by simp) r.kids
 have h5:(itsW r.kids).length=(r.kids.flatMap fun x=>[32]++itW x).length:=rfl
 refine ⟨by omega,by omega,fun x hx=>?_⟩
 have h6:=flat_le (fun x=>[32]++itW x) r.kids x hx
 simp only [List.length_append] at h6
 have h7:x.kind.length≤(itW x).length:=by unfold itW; rw [List.length_append]; omega
 unfold It.Sm
 omega
def SchR (s:List UInt8) (o:Out) (st':St):Prop:=∃ (n':Nat) (es':List (List V)),match readS s with
 | none=>o=.pan (errV 3)∧st'=[curO s n',poolO es']
 | some c=>∃ (Ls:List LR) (h:Option (Nat × Nat)),ScIn es' h Ls∧Ls.map LR.ru=c.rules∧o=.ret (.agg [.str c.root,hdV h Ls.length])∧st'=[curO s n',poolO es']
def scB (root:List UInt8) (v:V):O:=⟨[[.str root,v]],2,true,true,true,.cell⟩
def ScT (k:List UInt8):Option (List Ru)→Option Sc
 | none=>none
 | some rs=>if okS ⟨k,rs⟩=true then some ⟨k,rs⟩ else none
theorem viewL1s {es:List (List V)} {x y:V} (h:View es x y):ViewL es [x] [y]:=⟨rfl,fun i a b p q=>by
 match i with
 | 0=>simp at p q; subst p; subst q; exact h
 | i+1=>simp at p⟩
theorem viewA2 {es:List (List V)} {k:List UInt8} {x y:V} (h:View es x y):View es (.agg [.str k,x]) (.agg [.str k,y]):=.agg rfl fun i a b p q=>by
 match i with
 | 0=>simp at p q; subst p; subst q; exact .same _
 | 1=>simp at p q; subst p; subst q; exact h
 | i+2=>simp at p
set_option maxHeartbeats 8000000 in
theorem schema_full (s:List UInt8) (hs:s.length≤1048576):Full Tryd.prog noY 23 [.ptr 0 0 0] [curO s 0,poolO []] (SchR s):=by
 have f0:=want_full s rootW 0 hs (by omega) (by decide)
 unfold WtR at f0
 rw [List.drop_zero] at f0
 unfold SchR
 cases h0:skipP rootW s with
 | none =>
   have hr:readS s=none:=by unfold readS parseS; rw [h0]
   rw [h0] at f0
   rw [hr]
   refine full_of_awp good Tryd.func23 rfl (by kernel_rfl) (by decide) ?_
   conv=>whnf
   refine ⟨[0],false,?_⟩
   conv=>whnf
   refine f0.mono ?_
   rintro o st' ⟨rfl,rfl⟩
   conv=>whnf
   refine ⟨[],true,?_⟩
   conv=>whnf
   exact ⟨_,_,rfl,rfl⟩
 | some s1 =>
 rw [h0] at f0
 simp only at f0
 obtain ⟨a1,a2⟩:=drop_more (n:=0) (Nat.zero_le _) (show s.drop 0=rootW++s1 from (List.drop_zero ..).trans (skipP_some h0))
 generalize hn0:0+rootW.length=n0 at *
 have hnm:=name_full s n0 hs a1
 unfold NmR at hnm
 rw [a2] at hnm
 cases hp:nameP s1 with
 | none =>
   have hr:readS s=none:=by unfold readS parseS; rw [h0]; simp only [hp]
   rw [hp] at hnm
   rw [hr]
   refine full_of_awp good Tryd.func23 rfl (by kernel_rfl) (by decide) ?_
   conv=>whnf
   refine ⟨[0],false,?_⟩
   conv=>whnf
   refine f0.mono ?_
   rintro o st' ⟨rfl,rfl⟩
   conv=>whnf
   refine ⟨[0],false,?_⟩
   conv=>whnf
   refine hnm.mono ?_
   rintro o st' ⟨rfl,rfl⟩
   conv=>whnf
   refine ⟨[],true,?_⟩
   conv=>whnf
   exact ⟨_,_,rfl,rfl⟩
 | some q =>
 obtain ⟨k,r1⟩:=q
 rw [hp] at hnm
 simp only at hnm
 obtain ⟨h1,h2⟩:=drop_more a1 (a2.trans (nameP_some hp))
 generalize hn1:n0+k.length=n1 at *
 have f1:=want_full s [10] n1 hs h1 (by decide)
 unfold WtR at f1
 rw [h2] at f1
 cases h10:skipP [10] r1 with
 | none =>
   have hr:readS s=none:=by unfold readS parseS; rw [h0]; simp only [hp,h10]
   rw [h10] at f1
   rw [hr]
   refine full_of_awp good Tryd.func23 rfl (by kernel_rfl) (by decide) ?_
   conv=>whnf
   refine ⟨[0],false,?_⟩
   conv=>whnf
   refine f0.mono ?_
   rintro o st' ⟨rfl,rfl⟩
   conv=>whnf
   refine ⟨[0],false,?_⟩
   conv=>whnf
   refine hnm.mono ?_
   rintro o st' ⟨rfl,rfl⟩
   conv=>whnf
   refine ⟨[0],false,?_⟩
   conv=>whnf
   refine f1.mono ?_
   rintro o st' ⟨rfl,rfl⟩
   conv=>whnf
   refine ⟨[],true,?_⟩
   conv=>whnf
   exact ⟨_,_,rfl,rfl⟩
 | some s3 =>
 have hru:readS s=ScT k (rulesF s3):=by
  unfold readS parseS
  rw [h0]
  simp only [hp,h10,rulesF]
  cases rulesP (s3.length+1) s3 with
  | none=>rfl
  | some rs=>rfl
 have hpr:∀ rs,rulesF s3=some rs→s=scW ⟨k,rs⟩:=fun rs h=>by
  refine parseS_some ?_
  unfold parseS
  rw [h0]
  unfold rulesF at h
  simp only [hp,h10,h]
 rw [hru]
 clear hru hp h0
 rw [h10] at f1
 simp only at f1
 obtain ⟨e1,e2⟩:=drop_more h1 (h2.trans (skipP_some h10))
 generalize hn3:n1+([10]:List UInt8).length=n3 at *
 simp only [List.length_singleton] at hn3
 refine full_of_awp good Tryd.func23 rfl (by kernel_rfl) (by decide) ?_
 conv=>whnf
 refine ⟨[0],false,?_⟩
 conv=>whnf
 refine f0.mono ?_
 rintro o st' ⟨rfl,rfl⟩
 conv=>whnf
 refine ⟨[0],false,?_⟩
 conv=>whnf
 refine hnm.mono ?_
 rintro o st' ⟨rfl,rfl⟩
 conv=>whnf
 refine ⟨[0],false,?_⟩
 conv=>whnf
 refine f1.mono ?_
 rintro o st' ⟨rfl,rfl⟩
 clear f0 f1 hnm
 conv=>whnf
 refine ⟨(fun m fr st=>∃ (n4:Nat) (Ls:List LR) (h:Option (Nat × Nat)) (es1:List (List V)),m+n4=s.length∧n3≤n4∧rulesF s3=consR (Ls.map LR.ru) (rulesF (s.drop n4))∧ScIn es1 h Ls∧Ls.length≤n4 ∧
   Holds fr [(0,.ptr 0 0 0),(2,.ptr 2 0 0),(3,.ptr 3 0 0)]∧st=[curO s n4,poolO es1,scB [] .nils,scB k (hdV h Ls.length)]),s.length - n3,true,none,?_,?_⟩
 · conv=>whnf
   refine ⟨n3,[],none,[],by omega,by omega,?_,.nil _,by simp,⟨rfl,rfl,rfl,trivial⟩,rfl⟩
   rw [e2]
   cases rulesF s3 with
   | none=>rfl
   | some q=>rfl
 rintro m fr st ⟨n4,Ls,h,es1,j0,j1,j2,j3,j6,hh,rfl⟩
 obtain ⟨fr,rfl⟩:=hh.split
 clear hh
 conv=>whnf
 refine ⟨[0],false,?_⟩
 conv=>whnf
 refine (atEnd_full s n4).mono ?_
 rintro o st' ⟨rfl,rfl⟩
 by_cases hE:n4=s.length
 · rw [decide_eq_true hE]
   have hd:s.drop n4=[]:=List.drop_eq_nil_of_le (by omega)
   rw [hd,rulesF_nil] at j2
   simp only [consR,List.append_nil] at j2
   have hsc:=hpr _ j2
   have hsm:(⟨k,Ls.map LR.ru⟩:Sc).Sm:=scW_sm (by rw [← hsc]; exact hs)
   have hok:=implSchemaOk_pure ⟨k,Ls.map LR.ru⟩ hsm
   have hmu:=must_full s n4 (okS ⟨k,Ls.map LR.ru⟩)
   have hvw:=j3.view
   have hT:ScT k (rulesF s3)=if okS ⟨k,Ls.map LR.ru⟩=true then some ⟨k,Ls.map LR.ru⟩ else none:=by rw [j2]; rfl
   rw [hT]
   clear hT hpr j2
   have hva:=viewL1s (viewA2 (k:=k) hvw)
   have hok:Pure Tryd.prog 12 [.agg [.str k,.sl (rws Ru.cells (Ls.map LR.ru))]] (·=.bool (okS ⟨k,Ls.map LR.ru⟩)):=hok
   generalize hB:okS ⟨k,Ls.map LR.ru⟩=B at *
   rcases h with _ | ⟨b,c⟩
   all_goals
    conv=>whnf
    first
     | refine ⟨_,.inr ⟨es1,[.agg [.str k,.sl (rws Ru.cells (Ls.map LR.ru))]],fun e he=>⟨1,he⟩,hva,rfl,hok.mono fun r hr=>⟨by rw [hr]; rfl,hr⟩⟩,?_⟩
     | trace_state
    conv=>whnf
    refine ⟨[0],false,?_⟩
    conv=>whnf
    refine hmu.mono ?_
    rintro o st' ⟨⟨rfl,rfl⟩ | ⟨rfl,rfl⟩,rfl⟩
    · conv=>whnf
      repeat
       refine And.intro (by (conv=>whnf); first | rfl | exact rfl) ?_
       conv=>whnf
      refine ⟨[],true,?_⟩
      conv=>whnf
      rw [if_pos rfl]
      exact ⟨n4,es1,Ls,_,j3,rfl,rfl,rfl⟩
    · intro fr'
      conv=>whnf
      refine ⟨[],true,?_⟩
      conv=>whnf
      rw [if_neg (by decide)]
      exact ⟨_,_,rfl,rfl⟩
 · rw [decide_eq_false hE]
   have hne:s.drop n4≠[]:=fun e=>by
    have:=congrArg List.length e
    rw [List.length_drop] at this
    simp at this
    omega
   have hrl:=rule_full s n4 es1 hs (by omega)
   unfold RuR at hrl
   rcases h with _ | ⟨b,c⟩
   · conv=>whnf
     refine ⟨[0,1],true,?_⟩
     conv=>whnf
     cases hi:ruleP (s.drop n4) with
     | none =>
       rw [hi] at hrl
       rw [rulesF_bad hne hi] at j2
       simp only [consR] at j2
       have hT:ScT k none=none:=rfl
       rw [j2,hT]
       refine hrl.mono ?_
       rintro o st' ⟨n6,es2,rfl,rfl⟩
       intro fr'
       conv=>whnf
       refine ⟨[],true,?_⟩
       conv=>whnf
       exact ⟨_,_,rfl,rfl⟩
     | some q =>
       obtain ⟨x,s6⟩:=q
       rw [hi] at hrl
       simp only at hrl
       rw [rulesF_more hne hi,← consR_app] at j2
       refine hrl.mono ?_
       rintro o st' ⟨n6,es2,L,rfl,y1,y2,y3,y4,y5,y6,rfl,rfl⟩
       rw [← y3] at j2
       have H1:=y4.sc j3
       have H3:ApartH (none) L.hd:=y5.apart j3.top
       have H4:∀ M∈Ls,ApartH M.hd L.hd:=fun M hM=>y5.apart (j3.kids M hM)
       have j2':rulesF s3=consR ((Ls++[L]).map LR.ru) (rulesF (s.drop n6)):=by rw [j2,List.map_append]; rfl
       obtain ⟨lk,lt,li,lh⟩:=L
       rcases lh with _ | ⟨b0,c0⟩
       · skip
         conv=>whnf
         repeat
          refine And.intro (by (conv=>whnf); first | rfl | exact rfl) ?_
          conv=>whnf
         refine semMore (k:=1) (sz:=3) (by_:=48) (c:=LR.cells) (h:=none) (L:=Ls) (M:=[⟨lk,lt,li,none⟩]) (es:=es2) rfl rfl rfl rfl rfl rfl rfl ⟨by omega,by omega⟩ (fun _=>rfl) rfl rfl H1.top (.inl rfl) (by rw [List.length_singleton]; omega) (fun _ h=>by cases h) (fun b' c' hb=>?_) fun b' c' hf=>?_
         · cases hb
         · have HS:=H1.snoc_new (c:=c') y6 H4 hf
           conv=>whnf
           repeat
            refine And.intro (by (conv=>whnf); first | rfl | exact rfl) ?_
            conv=>whnf
           refine ⟨s.length - n6,by omega,some [0,1,2,3],?_⟩
           conv=>whnf
           exact ⟨n6,_,some (b',c'),_,by omega,by omega,j2',HS,by simp; omega,⟨rfl,rfl,rfl,trivial⟩,rfl⟩
       · skip
         conv=>whnf
         repeat
          refine And.intro (by (conv=>whnf); first | rfl | exact rfl) ?_
          conv=>whnf
         refine semMore (k:=1) (sz:=3) (by_:=48) (c:=LR.cells) (h:=none) (L:=Ls) (M:=[⟨lk,lt,li,some (b0,c0)⟩]) (es:=es2) rfl rfl rfl rfl rfl rfl rfl ⟨by omega,by omega⟩ (fun _=>rfl) rfl rfl H1.top (.inl rfl) (by rw [List.length_singleton]; omega) (fun _ h=>by cases h) (fun b' c' hb=>?_) fun b' c' hf=>?_
         · cases hb
         · have HS:=H1.snoc_new (c:=c') y6 H4 hf
           conv=>whnf
           repeat
            refine And.intro (by (conv=>whnf); first | rfl | exact rfl) ?_
            conv=>whnf
           refine ⟨s.length - n6,by omega,some [0,1,2,3],?_⟩
           conv=>whnf
           exact ⟨n6,_,some (b',c'),_,by omega,by omega,j2',HS,by simp; omega,⟨rfl,rfl,rfl,trivial⟩,rfl⟩
   · conv=>whnf
     refine ⟨[0,1],true,?_⟩
     conv=>whnf
     cases hi:ruleP (s.drop n4) with
     | none =>
       rw [hi] at hrl
       rw [rulesF_bad hne hi] at j2
       simp only [consR] at j2
       have hT:ScT k none=none:=rfl
       rw [j2,hT]
       refine hrl.mono ?_
       rintro o st' ⟨n6,es2,rfl,rfl⟩
       intro fr'
       conv=>whnf
       refine ⟨[],true,?_⟩
       conv=>whnf
       exact ⟨_,_,rfl,rfl⟩
     | some q =>
       obtain ⟨x,s6⟩:=q
       rw [hi] at hrl
       simp only at hrl
       rw [rulesF_more hne hi,← consR_app] at j2
       refine hrl.mono ?_
       rintro o st' ⟨n6,es2,L,rfl,y1,y2,y3,y4,y5,y6,rfl,rfl⟩
       rw [← y3] at j2
       have H1:=y4.sc j3
       have H3:ApartH (some (b,c)) L.hd:=y5.apart j3.top
       have H4:∀ M∈Ls,ApartH M.hd L.hd:=fun M hM=>y5.apart (j3.kids M hM)
       have j2':rulesF s3=consR ((Ls++[L]).map LR.ru) (rulesF (s.drop n6)):=by rw [j2,List.map_append]; rfl
       obtain ⟨lk,lt,li,lh⟩:=L
       rcases lh with _ | ⟨b0,c0⟩
       · skip
         conv=>whnf
         repeat
          refine And.intro (by (conv=>whnf); first | rfl | exact rfl) ?_
          conv=>whnf
         refine semMore (k:=1) (sz:=3) (by_:=48) (c:=LR.cells) (h:=some (b,c)) (L:=Ls) (M:=[⟨lk,lt,li,none⟩]) (es:=es2) rfl rfl rfl rfl rfl rfl rfl ⟨by omega,by omega⟩ (fun _=>rfl) rfl rfl H1.top (.inl rfl) (by rw [List.length_singleton]; omega) (fun _ h=>by cases h) (fun b' c' hb=>?_) fun b' c' hf=>?_
         · cases hb
           have HS:=H1.snoc_in y6 H3 H4
           conv=>whnf
           repeat
            refine And.intro (by (conv=>whnf); first | rfl | exact rfl) ?_
            conv=>whnf
           refine ⟨s.length - n6,by omega,some [0,1,2,3],?_⟩
           conv=>whnf
           exact ⟨n6,_,some (b,c),_,by omega,by omega,j2',HS,by simp; omega,⟨rfl,rfl,rfl,trivial⟩,rfl⟩
         · have HS:=H1.snoc_new (c:=c') y6 H4 hf
           conv=>whnf
           repeat
            refine And.intro (by (conv=>whnf); first | rfl | exact rfl) ?_
            conv=>whnf
           refine ⟨s.length - n6,by omega,some [0,1,2,3],?_⟩
           conv=>whnf
           exact ⟨n6,_,some (b',c'),_,by omega,by omega,j2',HS,by simp; omega,⟨rfl,rfl,rfl,trivial⟩,rfl⟩
       · skip
         conv=>whnf
         repeat
          refine And.intro (by (conv=>whnf); first | rfl | exact rfl) ?_
          conv=>whnf
         refine semMore (k:=1) (sz:=3) (by_:=48) (c:=LR.cells) (h:=some (b,c)) (L:=Ls) (M:=[⟨lk,lt,li,some (b0,c0)⟩]) (es:=es2) rfl rfl rfl rfl rfl rfl rfl ⟨by omega,by omega⟩ (fun _=>rfl) rfl rfl H1.top (.inl rfl) (by rw [List.length_singleton]; omega) (fun _ h=>by cases h) (fun b' c' hb=>?_) fun b' c' hf=>?_
         · cases hb
           have HS:=H1.snoc_in y6 H3 H4
           conv=>whnf
           repeat
            refine And.intro (by (conv=>whnf); first | rfl | exact rfl) ?_
            conv=>whnf
           refine ⟨s.length - n6,by omega,some [0,1,2,3],?_⟩
           conv=>whnf
           exact ⟨n6,_,some (b,c),_,by omega,by omega,j2',HS,by simp; omega,⟨rfl,rfl,rfl,trivial⟩,rfl⟩
         · have HS:=H1.snoc_new (c:=c') y6 H4 hf
           conv=>whnf
           repeat
            refine And.intro (by (conv=>whnf); first | rfl | exact rfl) ?_
            conv=>whnf
           refine ⟨s.length - n6,by omega,some [0,1,2,3],?_⟩
           conv=>whnf
           exact ⟨n6,_,some (b',c'),_,by omega,by omega,j2',HS,by simp; omega,⟨rfl,rfl,rfl,trivial⟩,rfl⟩
end Go.Cod
set_option linter.all false
namespace Go.Cod
variable [Adr]
open Go Go.Proofs Go.RowKit
set_option maxRecDepth 100000
theorem catchPSchema (p:Addr) (x:Bool) (u:TypeId) (pv:Value) (older:List PanicEntry) (w:World) (hc:w.cell? p=some (.bool x)) (hz:w.frozen? p=false) :
  CallsD Tryd.prog 40 #[.pointer (some p)] (.panicking ({ v:=.iface u pv,recovered:=false }::older)) w fun e u' w' =>
   e=.returned (.tuple #[])∧u'=.panicking ({ v:=.iface u pv,recovered:=true }::older)∧w'=w.setCell p (.bool false):=by
 have hn:=fun w=>run_equal_nil_iface (P:=Tryd.prog) (d:=u) (u:=pv) Tryd.underlying20 w
 refine callsD_of_wpS Tryd.func40 rfl fun c₀ cs hu=>?_
 apply wpS_region
 simp [wpOpsS,go_sem,recoverD,hu,Tryd.ntmps40,Exit.thenS,hc,hz,bodyPostS,results,Tryd.results40,binOp,hn]
theorem catchISchema (p:Addr) (x:Bool) (w:World) (hc:w.cell? p=some (.bool x)) (hz:w.frozen? p=false) :
  CallsD Tryd.prog 40 #[.pointer (some p)] .returning w fun e u' w'=>e=.returned (.tuple #[])∧u'=.returning∧w'=w.setCell p (.bool true):=by
 have hn:=fun w=>run_equal_nil_nil (P:=Tryd.prog) Tryd.underlying20 w
 refine callsD_of_wpS Tryd.func40 rfl fun c₀ cs hu=>?_
 apply wpS_region
 simp [wpOpsS,go_sem,recoverD,hu,Tryd.ntmps40,Exit.thenS,hc,hz,bodyPostS,results,Tryd.results40,binOp,hn]
 cases c₀
 simp_all
def svSchema (cv:Value):Prop:=∃ a0 a1,cv=.agg #[a0,a1]∧a0.oneCell'=true∧a1.oneCell'=true
def fitsSchema (cargs gcargs:List Value):Prop:=∃ p,cargs=[.func (.func 23) #[p] #[]]∧gcargs=[p]
set_option maxHeartbeats 4000000 in
theorem bodySchema (w:World) (cargs gcargs:List Value) (Q:World→Ending→World→Prop) (hf:fitsSchema cargs gcargs)
  (hcall:∀ w2,Grew2 w w2→Calls Tryd.prog 23 gcargs.toArray w2 (Q w2))
  (hQ:∀ w2 e W,Grew2 w w2→Q w2 e W→W.heap[w.heap.size]? = w2.heap[w.heap.size]? ∧ W.heap[w.heap.size+1]? = w2.heap[w.heap.size+1]? ∧ ((∃ cv,e=.returned cv∧svSchema cv)∨∃ u v,e=.panicked [{ v:=.iface u v,recovered:=false }])) :
  Calls Tryd.prog 22 cargs.toArray w fun e5 w5=>∃ w2 e W,Grew2 w w2∧Q w2 e W∧Sets w.heap.size W w5∧((∃ cv,e=.returned cv∧e5=.returned (.tuple #[cv,.bool true]))∨∃ u v,e=.panicked [{ v:=.iface u v,recovered:=false }]∧e5=.returned (.tuple #[.agg #[.string ⟨#[]⟩,.slice none 0 0],.bool false])):=by
 have hmf:∀ (fn:Fn) (first cap:Array Value) (w:World),(Instr.makeFunc fn first cap).run Tryd.prog w=.ok (.func fn first cap) w:=fun _ _ _ _=>rfl
 obtain ⟨p,rfl,rfl⟩:=hf
 go_enter_defers Tryd.func22,Tryd.ntmps22
 go_wp2_with (go_at_call 23; refine (hcall _ ?_).mono ?_)
 · exact grew2_alloc _ _ _
 intro e W hq
 obtain ⟨h1,h2,h3⟩:=hQ _ e W (grew2_alloc _ _ _) hq
 have h1:W.heap[w.heap.size]? = some (.cells #[.string ⟨#[]⟩,.slice none 0 0] 26 (0,0)):=h1.trans (alloc2_at0 _ _ _)
 have h2:W.heap[w.heap.size+1]? = some (.cells #[.bool false] 4 (0,0)):=h2.trans (alloc2_at1 _ _ _)
 have cb:W.cell? ⟨w.heap.size+1,0,none⟩=some (.bool false):=by simp [World.cell?,h2]
 have f0:∀ o,W.frozen? ⟨w.heap.size,o,none⟩=false:=fun o=>by simp [World.frozen?,h1]
 have f1:∀ o,W.frozen? ⟨w.heap.size+1,o,none⟩=false:=fun o=>by simp [World.frozen?,h2]
 have c0:W.cell? ⟨w.heap.size,0,none⟩=some (.string ⟨#[]⟩):=by simp [World.cell?,h1]
 have c1:W.cell? ⟨w.heap.size,1,none⟩=some (.slice none 0 0):=by simp [World.cell?,h1]
 rcases h3 with ⟨_,rfl,a0,a1,rfl,g0,g1⟩ | ⟨u,v,rfl⟩
 · have d0:W.cell? ⟨w.heap.size,0,none⟩=some (.string ⟨#[]⟩):=by exact c0
   have s0:=run_store_cell (P:=Tryd.prog) g0 d0 (by exact f0 0)
   have d1:(W.setCell ⟨w.heap.size,0,none⟩ a0).cell? ⟨w.heap.size,1,none⟩=some (.slice none 0 0):=by rw [World.cell?_setCell_other _ _ _ _ (by simp)]; exact c1
   have s1:=run_store_cell (P:=Tryd.prog) g1 d1 (by rw [World.frozen?_setCell]; exact f0 1)
   go_wp2
   refine leaves_cons (f:=40) (args:=#[.pointer (some ⟨w.heap.size+1,0,none⟩)]) (by simp) (by simp [go_sem]) ?_
   refine (catchISchema ⟨w.heap.size+1,0,none⟩ false _ ?_ ?_).mono ?_
   · rw [World.cell?_setCell_other _ _ _ _ (by simp),World.cell?_setCell_other _ _ _ _ (by simp)]; exact cb
   · rw [World.frozen?_setCell,World.frozen?_setCell]; exact f1 0
   rintro e u' w'' ⟨rfl,rfl,rfl⟩
   have r0:(((W.setCell ⟨w.heap.size,0,none⟩ a0).setCell ⟨w.heap.size,1,none⟩ a1).setCell ⟨w.heap.size+1,0,none⟩ (.bool true)).cell? ⟨w.heap.size,0,none⟩=some a0:=by
    rw [World.cell?_setCell_other _ _ _ _ (by simp),World.cell?_setCell_other _ _ _ _ (by simp)]; exact World.cell?_setCell_same _ _ _ d0
   have r1:(((W.setCell ⟨w.heap.size,0,none⟩ a0).setCell ⟨w.heap.size,1,none⟩ a1).setCell ⟨w.heap.size+1,0,none⟩ (.bool true)).cell? ⟨w.heap.size,1,none⟩=some a1:=by
    rw [World.cell?_setCell_other _ _ _ _ (by simp)]; exact World.cell?_setCell_same _ _ _ d1
   have rb:(((W.setCell ⟨w.heap.size,0,none⟩ a0).setCell ⟨w.heap.size,1,none⟩ a1).setCell ⟨w.heap.size+1,0,none⟩ (.bool true)).cell? ⟨w.heap.size+1,0,none⟩=some (.bool true):=by
    refine World.cell?_setCell_same _ _ _ (u:=.bool false) ?_
    rw [World.cell?_setCell_other _ _ _ _ (by simp),World.cell?_setCell_other _ _ _ _ (by simp)]; exact cb
   have hS:=(((Sets.refl w.heap.size W).set ⟨w.heap.size,0,none⟩ a0 (.inl rfl)).set ⟨w.heap.size,1,none⟩ a1 (.inl rfl)).set ⟨w.heap.size+1,0,none⟩ (.bool true) (.inr rfl)
   generalize (((W.setCell ⟨w.heap.size,0,none⟩ a0).setCell ⟨w.heap.size,1,none⟩ a1).setCell ⟨w.heap.size+1,0,none⟩ (.bool true))=W5 at *
   simp [Leaves,settle,results,Tryd.results22,go_sem,r0,r1,rb]
   trace_state
   first | exact ⟨_,grew2_alloc _ _ _,_,W,hq,hS,rfl⟩ | exact ⟨_,W,⟨_,grew2_alloc _ _ _,hq⟩,hS,rfl⟩ | exact ⟨_,_,W,grew2_alloc _ _ _,hq,hS,rfl⟩
 · go_wp2
   refine leaves_cons (f:=40) (args:=#[.pointer (some ⟨w.heap.size+1,0,none⟩)]) (by simp) (by simp [go_sem]) ?_
   refine (catchPSchema ⟨w.heap.size+1,0,none⟩ false u v [] _ cb (f1 0)).mono ?_
   rintro e u' w'' ⟨rfl,rfl,rfl⟩
   have r0:(W.setCell ⟨w.heap.size+1,0,none⟩ (.bool false)).cell? ⟨w.heap.size,0,none⟩=some (.string ⟨#[]⟩):=by
    rw [World.cell?_setCell_other _ _ _ _ (by simp)]; exact c0
   have r1:(W.setCell ⟨w.heap.size+1,0,none⟩ (.bool false)).cell? ⟨w.heap.size,1,none⟩=some (.slice none 0 0):=by
    rw [World.cell?_setCell_other _ _ _ _ (by simp)]; exact c1
   have rb:(W.setCell ⟨w.heap.size+1,0,none⟩ (.bool false)).cell? ⟨w.heap.size+1,0,none⟩=some (.bool false):=World.cell?_setCell_same _ _ _ cb
   have hS:=(Sets.refl w.heap.size W).set ⟨w.heap.size+1,0,none⟩ (.bool false) (.inr rfl)
   generalize (W.setCell ⟨w.heap.size+1,0,none⟩ (.bool false))=W5 at *
   simp [Leaves,settle,results,Tryd.results22,go_sem,r0,r1,rb]
   first | exact ⟨_,grew2_alloc _ _ _,_,W,hq,hS,u,v,rfl⟩ | exact ⟨_,W,⟨_,grew2_alloc _ _ _,hq⟩,hS,u,v,rfl⟩
theorem zeroSchema (Pr γ) (w:World):Rep Pr γ w (.agg [.str [],.nils]) (.agg #[.string ⟨#[]⟩,.slice none 0 0]):=by
 have:=RepL.nil (Pr:=Pr) (γ:=γ) (w:=w)
 have:=RepL.cons (.nils none) this
 have:=RepL.cons (.str []) this
 exact Rep.agg this.1 this.2
theorem readTextSchema {ok:OkY} {st0:St} {p:V} {σ:List Nat} {kn:Bool} {K Z:V→St→Prop} {R:Out→St→Prop} (hA:ACallG Tryd.prog ok 23 [p] st0 σ kn K Z)
  (hK:∀ v st',K v st'→(∃ a0 a1,v=.agg [a0,a1]∧a0.leaf=true∧a1.leaf=true)∧R (.ret (.tup [v,.bool true])) st')
  (hZ:∀ v st',Z v st'→((∃ u x,v=.iface u x)∨∃ u x,v=.raw (.iface u x))∧R (.ret (.tup [.agg [.str [],.nils],.bool false])) st') :
  Full Tryd.prog ok 22 [.bnd 23 p] st0 R:=by
 refine full_frame (Fits:=fitsSchema) (SV:=svSchema) ⟨_,Tryd.func22,by kernel_rfl,by kernel_rfl⟩ hA (fun Pr γ w cargs h=>?_) bodySchema zeroSchema (fun v st' Pr γ w cv h hr=>?_) (fun v st' Pr γ w cv h hr=>?_) (fun v st' h=>(hK v st' h).2) (fun v st' h=>(hZ v st' h).2)
 · obtain ⟨hl,hr⟩:=h
   match cargs,hl with
   | [c],_ =>
     have h0:=hr 0 _ _ rfl rfl
     cases h0 with
     | @bnd _ _ u hu=>exact ⟨[u],RepL.cons hu RepL.nil,u,rfl,rfl⟩
 · obtain ⟨a0,a1,rfl,g0,g1⟩:=(hK v st' h).1
   cases hr with
   | @agg _ us hl hr =>
   match us,hl with
   | [u0,u1],_ =>
     exact ⟨u0,u1,rfl,(hr 0 _ _ rfl rfl).leaf g0,(hr 1 _ _ rfl rfl).leaf g1⟩
 · rcases (hZ v st' h).1 with ⟨u,x,rfl⟩ | ⟨u,x,rfl⟩
   · cases hr; exact ⟨_,_,rfl⟩
   · cases hr; exact ⟨_,_,rfl⟩
end Go.Cod
set_option linter.all false
namespace Go.Cod
variable [Adr]
open Go Go.Proofs
set_option linter.all false
set_option maxRecDepth 10000
def RtS (s:List UInt8) (o:Out) (st':St):Prop:=∃ (n':Nat) (es:List (List V)),st'=[curO s n',poolO es]∧match readS s with
 | none=>o=.ret (.tup [.agg [.str [],.nils],.bool false])
 | some c=>∃ (Ls:List LR) (h:Option (Nat × Nat)),ScIn es h Ls∧Ls.map LR.ru=c.rules∧o=.ret (.tup [.agg [.str c.root,hdV h Ls.length],.bool true])
def SrR (s:List UInt8) (o:Out) (st':St):Prop:=∃ (es:List (List V)),st'=[poolO es]∧match readS s with
 | none=>o=.ret (.tup [.agg [.str [],.nils],.bool false])
 | some c=>∃ (Ls:List LR) (h:Option (Nat × Nat)),ScIn es h Ls∧Ls.map LR.ru=c.rules∧o=.ret (.tup [.agg [.str c.root,hdV h Ls.length],.bool true])
theorem hd_leaf (h:Option (Nat × Nat)) (n:Nat):(hdV h n).leaf=true:=by
 rcases h with _ | ⟨b,c⟩ <;> rfl
theorem readS_full (s:List UInt8) (hs:s.length≤1048576):Full Tryd.prog noY 22 [.bnd 23 (.ptr 0 0 0)] [curO s 0,poolO []] (RtS s):=by
 have hc:=schema_full s hs
 refine readTextSchema (σ:=[0,1]) (kn:=true) (K:=fun v st'=>SchR s (.ret v) st') (Z:=fun v st'=>SchR s (.pan v) st') ?_ ?_ ?_
 · conv=>whnf
   refine hc.mono ?_
   rintro o st' ⟨n',es',h⟩
   cases hi:readS s with
   | none =>
     rw [hi] at h
     obtain ⟨rfl,rfl⟩:=h
     show SchR s (.pan _) _
     refine ⟨n',es',?_⟩
     rw [hi]
     exact ⟨rfl,rfl⟩
   | some c =>
     rw [hi] at h
     obtain ⟨Ls,hh,h1,h2,rfl,rfl⟩:=h
     show SchR s (.ret _) _
     refine ⟨n',es',?_⟩
     rw [hi]
     rcases hh with _ | ⟨b,c0⟩
     · exact ⟨Ls,none,h1,h2,rfl,rfl⟩
     · exact ⟨Ls,some (b,c0),h1,h2,rfl,rfl⟩
 · rintro v st' ⟨n',es',h⟩
   refine ⟨?_,n',es',?_⟩
   · cases hi:readS s with
     | none=>rw [hi] at h; cases h.1
     | some c =>
       rw [hi] at h
       obtain ⟨Ls,hh,h1,h2,h3,h4⟩:=h
       cases h3
       exact ⟨_,_,rfl,rfl,hd_leaf _ _⟩
   · cases hi:readS s with
     | none=>rw [hi] at h; cases h.1
     | some c =>
       rw [hi] at h
       obtain ⟨Ls,hh,h1,h2,h3,h4⟩:=h
       cases h3
       exact ⟨h4,Ls,hh,h1,h2,rfl⟩
 · rintro v st' ⟨n',es',h⟩
   refine ⟨?_,n',es',?_⟩
   · cases hi:readS s with
     | none=>rw [hi] at h; obtain ⟨h1,_⟩:=h; cases h1; exact .inr ⟨_,_,rfl⟩
     | some c =>
       rw [hi] at h
       obtain ⟨Ls,hh,h1,h2,h3,h4⟩:=h
       cases h3
   · cases hi:readS s with
     | none=>rw [hi] at h; exact ⟨h.2,rfl⟩
     | some c =>
       rw [hi] at h
       obtain ⟨Ls,hh,h1,h2,h3,h4⟩:=h
       cases h3
theorem implSchemaRead_pool (s:List UInt8) (hs:s.length≤1048576):Full Tryd.prog noY 6 [.str s] [poolO []] (SrR s):=by
 have h:=readS_full s hs
 refine full_of_awp good Tryd.func6 rfl (by kernel_rfl) (by decide) ?_
 conv=>whnf
 refine ⟨[2,0],true,?_⟩
 conv=>whnf
 refine h.mono ?_
 unfold RtS SrR
 rintro o st' ⟨n',es,rfl,h⟩
 cases hi:readS s with
 | none =>
   rw [hi] at h
   subst h
   conv=>whnf
   refine ⟨[],true,?_⟩
   conv=>whnf
   exact ⟨es,rfl,rfl⟩
 | some c =>
   rw [hi] at h
   obtain ⟨Ls,hh,h1,h2,rfl⟩:=h
   rcases hh with _ | ⟨b,c0⟩
   · conv=>whnf
     refine ⟨[],true,?_⟩
     conv=>whnf
     exact ⟨es,rfl,Ls,none,h1,h2,rfl⟩
   · conv=>whnf
     refine ⟨[],true,?_⟩
     conv=>whnf
     exact ⟨es,rfl,Ls,some (b,c0),h1,h2,rfl⟩
theorem implSchemaRead_full (s:List UInt8) (hs:s.length≤1048576):Full Tryd.prog noY 6 [.str s] [] (SrR s):=Full.start (st0:=[]) (implSchemaRead_pool s hs)
end Go.Cod
set_option linter.all false
namespace Go.Cod
variable [Adr]
open Go Go.Proofs
set_option linter.all false
set_option maxRecDepth 10000
def srows (ss:List (List UInt8)):List (List V):=ss.map fun s=>[.str s]
theorem srows_len (ss:List (List UInt8)):(srows ss).length=ss.length:=by simp [srows]
theorem srows_get (ss:List (List UInt8)) (i:Nat) (h:i < ss.length):(srows ss)[i]? = some [.str ss[i]]:=by simp [srows,h]
theorem srows_snoc (ss:List (List UInt8)) (b:List UInt8):srows (ss++[b])=srows ss++[[.str b]]:=by simp [srows]
def ovV (ss:List (List UInt8)) (k:Nat):V:=match ss with
 | []=>.nils
 | _::_=>.own k
def ovO (ss:List (List UInt8)):List O:=match ss with
 | []=>[]
 | _::_=>[⟨srows ss,1,true,true,false,.cell⟩]
theorem ovO_snoc (a:List UInt8) (ss:List (List UInt8)) (b:List UInt8):ovO ((a::ss)++[b])=[⟨srows (a::ss)++[[.str b]],1,true,true,false,.cell⟩]:=by
 show [O.mk (srows ((a::ss)++[b])) 1 true true false .cell]=_
 rw [show srows ((a::ss)++[b])=srows (a::ss)++[[.str b]] by simp [srows]]
set_option maxHeartbeats 2000000 in
theorem cut_pure (a0:UInt8) (s:List UInt8) (hs:s.length≤1048576):Pure Tryd.prog 24 [.str s,cellB a0] (·=.sl (srows (cutB a0 s))):=by
 refine pure_of_awp good Tryd.func24 rfl (by kernel_rfl) (by decide) ?_
 conv=>whnf
 refine loop_drop (fun n fr st=>∃ (i f:Nat) (acc:List (List UInt8)),n+i=s.length∧f≤i∧acc.length≤i∧cutB a0 s=acc++cutB a0 (s.drop f)∧a0∉(s.take i).drop f ∧
   Holds fr [(0,.str s),(1,cellB a0),(5,ovV acc 0),(6,.int .i64 f),(7,.int .i64 i)]∧st=ovO acc) s.length none
  (by
    conv=>whnf
    exact ⟨0,0,[],by omega,by omega,by simp,by simp,by simp,⟨rfl,rfl,rfl,rfl,rfl,trivial⟩,rfl⟩) ?_
 rintro n fr st ⟨i,f,acc,j1,j2,j3,j4,j5,hh,rfl⟩
 obtain ⟨fr,rfl⟩:=hh.split
 clear hh
 by_cases hlt:i < s.length
 · have hg:s[i]? = some s[i]:=List.getElem?_eq_getElem hlt
   have hsp:s=s.take i++s[i]::s.drop (i+1):=by rw [← List.drop_eq_getElem_cons hlt,List.take_append_drop]
   have hdf:s.drop f=(s.take i).drop f++s[i]::s.drop (i+1):=by
    conv=>lhs; rw [hsp]
    rw [List.drop_append_of_le_length (by simp; omega)]
   have htk:(s.take (i+1)).drop f=(s.take i).drop f++[s[i]]:=by
    rw [List.take_succ_eq_append_getElem hlt,List.drop_append_of_le_length (by simp; omega)]
   by_cases hb:s[i]=a0
   · rw [hb] at hg
     have hc:cutB a0 (s.drop f)=(s.take i).drop f::cutB a0 (s.drop (i+1)):=by rw [hdf,hb,cutB_line a0 _ _ j5]
     have hw:IntKind.i64.wrap ((i:Int)+1)=((i+1:Nat):Int):=by rw [wrap64 (by omega) (by omega)]; omega
     cases acc with
     | nil =>
       conv=>whnf
       rw [ltB_t (by omega)]
       conv=>whnf
       refine ⟨by omega,a0,hg,?_⟩
       conv=>whnf
       rw [eqB_t rfl]
       conv=>whnf
       refine ⟨by omega,by omega,by omega,?_⟩
       conv=>whnf
       refine ⟨by omega,?_⟩
       conv=>whnf
       refine ⟨fun m hm=>by rw [List.mem_singleton.1 hm]; rfl,?_⟩
       conv=>whnf
       refine ⟨by show 1*16≤_; omega,.inr ⟨(by intro e; cases e),?_⟩⟩
       conv=>whnf
       refine ⟨n - 1,by omega,some [1],?_⟩
       conv=>whnf
       refine ⟨i+1,i+1,[]++[(s.take i).drop f],by omega,by omega,?_,?_,?_,⟨rfl,rfl,?_,?_,?_,trivial⟩,?_⟩
       · simp at j3 ⊢ <;> omega
       · rw [j4,hc]; simp
       · simp
       · rfl
       · exact congrArg (V.int .i64) hw
       · exact congrArg (V.int .i64) hw
       · rfl
     | cons a acc =>
       conv=>whnf
       rw [ltB_t (by omega)]
       conv=>whnf
       refine ⟨by omega,a0,hg,?_⟩
       conv=>whnf
       rw [eqB_t rfl]
       conv=>whnf
       refine ⟨by omega,by omega,by omega,?_⟩
       conv=>whnf
       refine ⟨by omega,?_⟩
       conv=>whnf
       refine ⟨fun m hm=>by rw [List.mem_singleton.1 hm]; rfl,?_⟩
       conv=>whnf
       refine ⟨by
        show ((srows (a::acc)).length+1)*16≤_
        rw [srows_len]; omega,?_⟩
       conv=>whnf
       refine ⟨n - 1,by omega,some [2],?_⟩
       conv=>whnf
       refine ⟨i+1,i+1,(a::acc)++[(s.take i).drop f],by omega,by omega,?_,?_,?_,⟨rfl,rfl,?_,?_,?_,trivial⟩,?_⟩
       · simp at j3 ⊢; omega
       · rw [j4,hc]; simp
       · simp
       · rfl
       · exact congrArg (V.int .i64) hw
       · exact congrArg (V.int .i64) hw
       · rw [ovO_snoc]; rfl
   · have hb':((s[i].toNat:Nat):Int)≠(a0.toNat:Int):=fun e=>hb (UInt8.toNat_inj.1 (by omega))
     have hno:a0∉(s.take (i+1)).drop f:=by
      rw [htk]
      simp only [List.mem_append,List.mem_singleton,not_or]
      exact ⟨j5,fun e=>hb e.symm⟩
     have hw:IntKind.i64.wrap ((i:Int)+1)=((i+1:Nat):Int):=by rw [wrap64 (by omega) (by omega)]; omega
     cases acc with
     | nil =>
       conv=>whnf
       rw [ltB_t (by omega)]
       conv=>whnf
       refine ⟨by omega,_,hg,?_⟩
       conv=>whnf
       rw [eqB_f hb']
       conv=>whnf
       refine ⟨n - 1,by omega,none,i+1,f,[],by omega,by omega,by simp,j4,hno,⟨rfl,rfl,rfl,rfl,?_,trivial⟩,rfl⟩
       exact congrArg (V.int .i64) hw
     | cons a acc =>
       conv=>whnf
       rw [ltB_t (by omega)]
       conv=>whnf
       refine ⟨by omega,_,hg,?_⟩
       conv=>whnf
       rw [eqB_f hb']
       conv=>whnf
       refine ⟨n - 1,by omega,none,i+1,f,a::acc,by omega,by omega,by omega,j4,hno,⟨rfl,rfl,rfl,rfl,?_,trivial⟩,rfl⟩
       exact congrArg (V.int .i64) hw
 · obtain rfl:i=s.length:=by omega
   rw [List.take_length] at j5
   rw [cutB_last a0 _ j5] at j4
   cases acc with
   | nil =>
     conv=>whnf
     rw [ltB_f (by omega)]
     conv=>whnf
     refine ⟨by omega,by omega,?_⟩
     conv=>whnf
     refine ⟨fun m hm=>by rw [List.mem_singleton.1 hm]; rfl,?_⟩
     conv=>whnf
     refine ⟨by show 1*16≤_; omega,.inr ⟨(by intro e; cases e),?_⟩⟩
     conv=>whnf
     show V.sl [[.str (List.drop (f:Int).toNat (List.take s.length s))]]=_
     rw [j4,List.take_length]
     rfl
   | cons a acc =>
     conv=>whnf
     rw [ltB_f (by omega)]
     conv=>whnf
     refine ⟨by omega,by omega,?_⟩
     conv=>whnf
     refine ⟨fun m hm=>by rw [List.mem_singleton.1 hm]; rfl,?_⟩
     conv=>whnf
     refine ⟨by
      show ((srows (a::acc)).length+1)*16≤_
      rw [srows_len]; omega,?_⟩
     conv=>whnf
     show V.sl (srows (a::acc)++[[.str (List.drop (f:Int).toNat (List.take s.length s))]])=_
     rw [j4,List.take_length,srows_snoc]
     rfl
end Go.Cod
