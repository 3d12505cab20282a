import Derived.Test.YtnhdaclpfhnbeaaDoorChecked
import Derived.Test.YtnhdaclpfhnbeaaDoorRows
import Derived.WalkKit
import Derived.LaidEql
import Derived.RowKitTokens
import Derived.Stop.LaidErr
import Derived.ProofKit
import Derived.OpenShut
import Derived.JoinedOf
import Derived.Handed
import Derived.Shelf.Strings.BuilderK
import Derived.BigCall
import Derived.Lib.Hide
import Derived.Test.YtnhdaclpfhnbeaaDoorCards
import Derived.Test.YtnhdaclpfhnbeaaDoorTie
import Derived.LaidMore
import Derived.LaidOnce
import Derived.SevenTiedAt
import Derived.Test.YtnhdaclpfhnbeaaDoorCodD
set_option linter.all false
namespace Go.Cod
open Go Go.Proofs
variable [Adr]
instance lam0:Lam:=⟨fun g=>match g with
 | 0=>some (sentCells 96 0)
 | 1=>some (sentCells 96 1)
 | 2=>some (sentCells 96 2)
 | 3=>some (sentCells 96 3)
 | _=>none,fun g=>false,fun g=>false,fun g=>false,fun g=>false⟩
def tauL:List (Nat × TI):=[
 (1,⟨.other,1,8,.raw .nilFunc,[],[],false⟩),
 (2,⟨.int .i64,1,8,.int .i64 0,[],[],false⟩),
 (3,⟨.int .i64,1,8,.int .i64 0,[],[],false⟩),
 (4,⟨.bool,1,1,.bool false,[],[],false⟩),
 (5,⟨.int .u8,1,1,.int .u8 0,[],[],false⟩),
 (6,⟨.int .u8,1,1,.int .u8 0,[],[],false⟩),
 (7,⟨.agg,4,24,.agg [.int .i64 0,.int .i64 0,.bool false,.int .u8 0],[(0,1,false),(1,1,false),(2,1,false),(3,1,false)],[],false⟩),
 (8,⟨.agg,4,24,.agg [.int .i64 0,.int .i64 0,.bool false,.int .u8 0],[(0,1,false),(1,1,false),(2,1,false),(3,1,false)],[],false⟩),
 (9,⟨.str,1,16,.str [],[],[],false⟩),
 (10,⟨.str,1,16,.str [],[],[],false⟩),
 (11,⟨.str,1,16,.str [],[],[],false⟩),
 (12,⟨.int .u64,1,8,.int .u64 0,[],[],false⟩),
 (13,⟨.agg,2,24,.agg [.str [],.int .u64 0],[(0,1,false),(1,1,false)],[],false⟩),
 (14,⟨.agg,2,24,.agg [.str [],.int .u64 0],[(0,1,false),(1,1,false)],[],false⟩),
 (15,⟨.ptr,1,8,.raw (.pointer none),[],[],false⟩),
 (16,⟨.ptr,1,8,.raw (.pointer none),[],[],false⟩),
 (17,⟨.ptr,1,8,.raw (.pointer none),[],[],false⟩),
 (18,⟨.agg,1,8,.agg [.raw (.pointer none)],[(0,1,false)],[],false⟩),
 (19,⟨.agg,1,8,.agg [.raw (.pointer none)],[(0,1,false)],[],false⟩),
 (20,⟨.iface,1,16,.raw .nilIface,[],[],false⟩),
 (21,⟨.int .i32,1,4,.int .i32 0,[],[],false⟩),
 (22,⟨.slice 53,1,24,.nils,[],[],false⟩),
 (23,⟨.agg,2,40,.agg [.str [],.nils],[(0,1,false),(1,1,false)],[],false⟩),
 (24,⟨.agg,2,40,.agg [.str [],.nils],[(0,1,false),(1,1,false)],[],false⟩),
 (25,⟨.other,1,8,.raw .nilFunc,[],[],false⟩),
 (26,⟨.other,1,8,.raw .nilFunc,[],[],false⟩),
 (27,⟨.slice 38,1,24,.nils,[],[],false⟩),
 (28,⟨.agg,2,40,.agg [.str [],.nils],[(0,1,false),(1,1,false)],[],false⟩),
 (29,⟨.agg,2,40,.agg [.str [],.nils],[(0,1,false),(1,1,false)],[],false⟩),
 (30,⟨.other,1,8,.raw .nilFunc,[],[],false⟩),
 (31,⟨.other,1,8,.raw .nilFunc,[],[],false⟩),
 (32,⟨.other,1,8,.raw .nilFunc,[],[],false⟩),
 (33,⟨.other,1,8,.raw .nilFunc,[],[],false⟩),
 (34,⟨.other,1,8,.raw .nilFunc,[],[],false⟩),
 (35,⟨.other,1,8,.raw .nilFunc,[],[],false⟩),
 (36,⟨.slice 58,1,24,.nils,[],[],false⟩),
 (37,⟨.agg,3,48,.agg [.str [],.bool false,.nils],[(0,1,false),(1,1,false),(2,1,false)],[],false⟩),
 (38,⟨.agg,3,48,.agg [.str [],.bool false,.nils],[(0,1,false),(1,1,false),(2,1,false)],[],false⟩),
 (39,⟨.other,1,8,.raw .nilFunc,[],[],false⟩),
 (40,⟨.ptr,1,8,.raw (.pointer none),[],[],false⟩),
 (41,⟨.slice 5,1,24,.nils,[],[],false⟩),
 (42,⟨.agg,2,32,.agg [.raw (.pointer none),.nils],[(0,1,false),(1,1,false)],[],false⟩),
 (43,⟨.agg,2,32,.agg [.raw (.pointer none),.nils],[(0,1,false),(1,1,false)],[],false⟩),
 (44,⟨.iface,1,16,.raw .nilIface,[],[],false⟩),
 (45,⟨.iface,1,16,.raw .nilIface,[],[],false⟩),
 (47,⟨.other,1,8,.raw .nilFunc,[],[],false⟩),
 (48,⟨.other,1,8,.raw .nilFunc,[],[],false⟩),
 (49,⟨.other,1,8,.raw .nilFunc,[],[],false⟩),
 (50,⟨.other,1,8,.raw .nilFunc,[],[],false⟩),
 (51,⟨.slice 72,1,24,.nils,[],[],false⟩),
 (52,⟨.agg,3,48,.agg [.str [],.bool false,.nils],[(0,1,false),(1,1,false),(2,1,false)],[],false⟩),
 (53,⟨.agg,3,48,.agg [.str [],.bool false,.nils],[(0,1,false),(1,1,false),(2,1,false)],[],false⟩),
 (54,⟨.other,1,8,.raw .nilFunc,[],[],false⟩),
 (55,⟨.other,1,8,.raw .nilFunc,[],[],false⟩),
 (56,⟨.other,1,8,.raw .nilFunc,[],[],false⟩),
 (57,⟨.agg,3,24,.agg [.str [],.bool false,.bool false],[(0,1,false),(1,1,false),(2,1,false)],[],false⟩),
 (58,⟨.agg,3,24,.agg [.str [],.bool false,.bool false],[(0,1,false),(1,1,false),(2,1,false)],[],false⟩),
 (59,⟨.other,1,8,.raw .nilFunc,[],[],false⟩),
 (60,⟨.other,1,8,.raw .nilFunc,[],[],false⟩),
 (61,⟨.other,1,8,.raw .nilFunc,[],[],false⟩),
 (62,⟨.ptr,1,8,.raw (.pointer none),[],[],false⟩),
 (63,⟨.other,1,8,.raw .nilFunc,[],[],false⟩),
 (64,⟨.other,1,8,.raw .nilFunc,[],[],false⟩),
 (65,⟨.other,1,8,.raw .nilFunc,[],[],false⟩),
 (66,⟨.other,1,8,.raw .nilFunc,[],[],false⟩),
 (67,⟨.other,1,8,.raw .nilFunc,[],[],false⟩),
 (69,⟨.other,1,8,.raw .nilFunc,[],[],false⟩),
 (70,⟨.other,1,8,.raw .nilFunc,[],[],false⟩),
 (71,⟨.other,1,8,.raw .nilFunc,[],[],false⟩),
 (72,⟨.agg,3,24,.agg [.str [],.bool false,.bool false],[(0,1,false),(1,1,false),(2,1,false)],[],false⟩),
 (73,⟨.other,1,8,.raw .nilFunc,[],[],false⟩),
 (74,⟨.other,1,8,.raw .nilFunc,[],[],false⟩),
 (75,⟨.other,1,8,.raw .nilFunc,[],[],false⟩),
 (77,⟨.other,1,8,.raw .nilFunc,[],[],false⟩),
 (78,⟨.other,1,8,.raw .nilFunc,[],[],false⟩),
 (79,⟨.other,1,8,.raw .nilFunc,[],[],false⟩),
 (80,⟨.iface,1,16,.raw .nilIface,[],[],false⟩),
 (81,⟨.iface,1,16,.raw .nilIface,[],[],false⟩),
 (82,⟨.other,1,8,.raw .nilFunc,[],[],false⟩),
 (83,⟨.other,1,8,.raw .nilFunc,[],[],false⟩),
 (84,⟨.other,1,8,.raw .nilFunc,[],[],false⟩),
 (85,⟨.agg,1,8,.agg [.raw (.pointer none)],[(0,1,false)],[],false⟩),
 (86,⟨.agg,1,8,.agg [.raw (.pointer none)],[(0,1,false)],[],false⟩),
 (87,⟨.ptr,1,8,.raw (.pointer none),[],[],false⟩),
 (88,⟨.iface,1,16,.raw .nilIface,[],[],false⟩),
 (90,⟨.other,1,8,.raw .nilFunc,[],[],false⟩),
 (91,⟨.iface,1,16,.raw .nilIface,[],[],false⟩),
 (92,⟨.other,1,8,.raw .nilFunc,[],[],false⟩),
 (93,⟨.iface,1,16,.raw .nilIface,[],[],false⟩),
 (94,⟨.slice 45,1,24,.nils,[],[],false⟩),
 (95,⟨.other,1,8,.raw .nilFunc,[],[],false⟩),
 (96,⟨.ptr,1,8,.raw (.pointer none),[],[],false⟩),
 (97,⟨.agg,4,40,.agg [.raw (.pointer none),.raw (.pointer none),.raw (.pointer none),.str []],[(0,1,false),(1,1,false),(2,1,false),(3,1,false)],[],false⟩),
 (98,⟨.agg,4,40,.agg [.raw (.pointer none),.raw (.pointer none),.raw (.pointer none),.str []],[(0,1,false),(1,1,false),(2,1,false),(3,1,false)],[],false⟩),
 (102,⟨.other,1,8,.raw .nilFunc,[],[],false⟩),
 (103,⟨.int .u32,1,4,.int .u32 0,[],[],false⟩),
 (104,⟨.int .u8,1,1,.int .u8 0,[],[],false⟩),
 (105,⟨.int .u8,1,1,.int .u8 0,[],[],false⟩),
 (106,⟨.other,1,8,.raw .nilFunc,[],[],false⟩),
 (107,⟨.int .i32,1,4,.int .i32 0,[],[],false⟩),
 (108,⟨.int .i32,1,4,.int .i32 0,[],[],false⟩),
 (109,⟨.agg,11,48,.agg [.int .u64 0,.int .u64 0,.int .u32 0,.int .u8 0,.int .u8 0,.int .u8 0,.int .u8 0,.raw .nilFunc,.raw (.pointer none),.int .i32 0,.int .i32 0],[(0,1,false),(1,1,false),(2,1,false),(3,1,false),(4,1,false),(5,1,false),(6,1,false),(7,1,false),(8,1,false),(9,1,false),(10,1,false)],[],false⟩),
 (110,⟨.agg,11,48,.agg [.int .u64 0,.int .u64 0,.int .u32 0,.int .u8 0,.int .u8 0,.int .u8 0,.int .u8 0,.raw .nilFunc,.raw (.pointer none),.int .i32 0,.int .i32 0],[(0,1,false),(1,1,false),(2,1,false),(3,1,false),(4,1,false),(5,1,false),(6,1,false),(7,1,false),(8,1,false),(9,1,false),(10,1,false)],[],false⟩),
 (111,⟨.other,1,8,.raw .nilFunc,[],[],false⟩),
 (112,⟨.other,1,8,.raw .nilFunc,[],[],false⟩),
 (113,⟨.other,1,8,.raw .nilFunc,[],[],false⟩),
 (114,⟨.other,1,8,.raw .nilFunc,[],[],false⟩),
 (115,⟨.other,1,8,.raw .nilFunc,[],[],false⟩),
 (116,⟨.other,1,8,.raw .nilFunc,[],[],false⟩),
 (117,⟨.agg,2,24,.agg [.str [],.int .u8 0],[(0,1,false),(1,1,false)],[],false⟩),
 (118,⟨.agg,2,24,.agg [.str [],.int .u8 0],[(0,1,false),(1,1,false)],[],false⟩),
 (119,⟨.agg,1,16,.agg [.str []],[(0,1,false)],[],false⟩),
 (120,⟨.agg,1,16,.agg [.str []],[(0,1,false)],[],false⟩),
 (121,⟨.ptr,1,8,.raw (.pointer none),[],[],false⟩),
 (122,⟨.other,1,8,.raw .nilFunc,[],[],false⟩),
 (123,⟨.int .u16,1,2,.int .u16 0,[],[],false⟩),
 (124,⟨.agg,5,16,.agg [.int .i32 0,.int .u16 0,.int .u16 0,.int .u32 0,.int .u32 0],[(0,1,false),(1,1,false),(2,1,false),(3,1,false),(4,1,false)],[],false⟩),
 (125,⟨.agg,5,16,.agg [.int .i32 0,.int .u16 0,.int .u16 0,.int .u32 0,.int .u32 0],[(0,1,false),(1,1,false),(2,1,false),(3,1,false),(4,1,false)],[],false⟩),
 (126,⟨.slice 129,1,24,.nils,[],[],false⟩),
 (127,⟨.int .i32,1,4,.int .i32 0,[],[],false⟩),
 (128,⟨.agg,4,16,.agg [.int .i32 0,.int .i32 0,.int .i32 0,.int .i32 0],[(0,1,false),(1,1,false),(2,1,false),(3,1,false)],[],false⟩),
 (129,⟨.agg,4,16,.agg [.int .i32 0,.int .i32 0,.int .i32 0,.int .i32 0],[(0,1,false),(1,1,false),(2,1,false),(3,1,false)],[],false⟩),
 (130,⟨.other,1,8,.raw .nilFunc,[],[],false⟩)]
set_option maxRecDepth 100000 in
theorem good:TauGood Tryd.prog (tauOf tauL):=tauGood (by kernel_rfl) (by kernel_rfl) (by decide)
end Go.Cod
set_option linter.all false
namespace Go.Cod
variable [Adr]
open Go Go.Proofs Go.ChangeShapes Go.RowKit
set_option maxRecDepth 100000
def compM : Array Value → Sem Value := Extern.ReflectliteType.method fun t => do Extern.Rtype.noPackHeld "Comparable" t; pure (.bool (← typeInfo t).comparable)
theorem is_same (a:Addr) (w:World) :
  Calls Tryd.prog 39 #[.iface 96 (.pointer (some a)),.iface 96 (.pointer (some a))] w fun e w'=>e=.returned (.bool true)∧w'=w:=by
 obtain ⟨i,hi,hcmp⟩:=Option.map_eq_some_iff.1 (show (Tryd.prog.info? 96).map (·.comparable)=some true by kernel_rfl)
 obtain ⟨j,hj,hjs⟩:=Option.map_eq_some_iff.1 (show (Tryd.prog.info? 120).map (·.size)=some 1 by kernel_rfl)
 have h8:=@run_callFunc_extern Tryd.prog 41 _ Extern.ReflectliteType.typeOf Tryd.func41 (by kernel_rfl) (by kernel_rfl) (by kernel_rfl) (by kernel_rfl)
 have h32:=@run_callFunc_extern Tryd.prog 62 _ compM Tryd.func62 (by kernel_rfl) (by kernel_rfl) (by kernel_rfl) (by kernel_rfl)
 have tT:∀ (v:Value) (w:World),(Extern.ReflectliteType.typeOf #[.iface 96 v]).run Tryd.prog w=.ok (.iface 86 (.agg #[.pointer (some ⟨4,96,none⟩)])) w:=fun v w=>by kernel_rfl
 have cT:∀ (w:World),(compM #[.agg #[.pointer (some ⟨4,96,none⟩)]]).run Tryd.prog w=.ok (.bool true) w:=fun w=>by kernel_rfl
 have mR : ∀ (v : Value) (w : World), (Go.method 231 86 v "Comparable").run Tryd.prog w = .ok (62, v) w := fun v w => by kernel_rfl
 have heq:=run_eql_iface_ptr_same (P:=Tryd.prog) w a Tryd.underlying45 Tryd.underlying96 hi hcmp hj
 go_enter Tryd.func39,Tryd.ntmps39
 go_wp2
 refine wp_loop_rounds 1 ?_
 rw [rounds_succ]
 go_wp2
 go_ret
 exact ⟨rfl,rfl⟩
theorem is_nil (b:Addr) (w:World) :
  Calls Tryd.prog 39 #[.nilIface,.iface 96 (.pointer (some b))] w fun e w'=>e=.returned (.bool false)∧w'=w:=by
 have hn:=run_eql_iface_nil_left (P:=Tryd.prog) w 96 (.pointer (some b)) Tryd.underlying45
 go_enter Tryd.func39,Tryd.ntmps39
 go_wp2
 go_ret
 exact ⟨rfl,rfl⟩
abbrev errV (g:Nat):V:=.raw (.iface 96 (.pointer (some (Adr.a g))))
abbrev nilErr:V:=.raw .nilIface
theorem repL_raw2 {Pr:Nat→Nat→Prop} {γ:List G} {w:World} {a b:Value} {cs:List Value} (h:RepL Pr γ w [.raw a,.raw b] cs):cs=[a,b]:=by
 have:=h.1
 match cs,this with
 | [x,y],_ =>
   have h0:=h.2 0 _ _ rfl rfl
   have h1:=h.2 1 _ _ rfl rfl
   cases h0
   cases h1
   rfl
theorem errorsIs_same (g:Nat):Pure Tryd.prog 39 [errV g,errV g] (·=.bool true):=by
 refine pure_of_still (r:=.bool true) ⟨_,Tryd.func39,by kernel_rfl,by kernel_rfl⟩ rfl fun Pr γ w cs h=>?_
 obtain rfl:=repL_raw2 h
 exact ⟨.bool true,fun _=>.bool true,is_same _ w⟩
theorem errorsIs_nil (g:Nat):Pure Tryd.prog 39 [nilErr,errV g] (·=.bool false):=by
 refine pure_of_still (r:=.bool false) ⟨_,Tryd.func39,by kernel_rfl,by kernel_rfl⟩ rfl fun Pr γ w cs h=>?_
 obtain rfl:=repL_raw2 h
 exact ⟨.bool false,fun _=>.bool false,is_nil _ w⟩
omit [Adr] in
theorem star : "*" ++ "errors.errorString" = "*errors.errorString" := by decide
omit [Adr] in
theorem rowErr (u : TypeId) (h : Tryd.prog.typeName? 3 u = some "*errors.errorString") : u = 96 :=
 typeName_ptr_named (nm := "errors.errorString") (by rw [star]; kernel_rfl) (by kernel_rfl) (by decide) u (by rw [star]; exact h)
omit [Adr] in
theorem laid_err {n : String} {text : List UInt8} {r : List (String × DataW Unit)} {W : World} {g : Nat} (h : laidMet Tryd.prog ((n, .iface "*errors.errorString" (.ptr (.agg [.lit (.string text)]))) :: r) W) (hg : Tryd.prog.globalNamed n = some g)
  (ht:(Tryd.prog.globals[g]?).map (·.type)=some 45):(∃ a:Addr,W.cell? ⟨g,0,none⟩=some (.iface 96 (.pointer (some a)))∧g < W.heap.size∧W.cell? ⟨g,1,none⟩=none)∧laidMet Tryd.prog r W:=by
 obtain ⟨a,s,hv,_⟩:=laid_sentinel h hg ht Tryd.underlying45 rowErr Tryd.underlying96 Tryd.underlying120 rfl rfl Tryd.underlying9 (by kernel_rfl) (by kernel_rfl)
 exact ⟨⟨a,laid_cell hg hv⟩,h.tail⟩
omit [Adr] in
theorem globals_ok:∀ (g:Nat) x,Tryd.prog.globals[g]? = some x→x.type < Tryd.prog.types.size:=by
 intro g x h
 have h1:(Tryd.prog.globals.toList.all fun x=>decide (x.type < Tryd.prog.types.size))=true:=by kernel_rfl
 exact of_decide_eq_true (List.all_eq_true.1 h1 x (by simpa using Array.mem_of_getElem? h))
end Go.Cod
set_option linter.all false
namespace Go.Cod
variable [Adr]
open Go Go.Proofs
set_option maxRecDepth 10000
theorem l1In_pure (a b c:Int):Pure Tryd.prog 19 [.int .i64 a,.int .i64 b,.int .i64 c] (·=.bool (decide (b≤a∧a≤c))):=by
 refine pure_of_awp good Tryd.func19 rfl (by kernel_rfl) (by decide) ?_
 conv=>whnf
 by_cases h1:b≤a
 · rw [leB_t h1]
   conv=>whnf
   simp [h1,leB_def]
 · rw [leB_f (by omega)]
   conv=>whnf
   simp [h1]
def lowerB (c:UInt8):Bool:=decide (97≤c.toNat∧c.toNat≤122)
def lower (s:List UInt8):Bool:=s.all lowerB
def nameL (s:List UInt8):Bool:=lower s&&decide (1≤(s.length:Int)∧(s.length:Int)≤8)
theorem take_all {p:UInt8→Bool} {s:List UInt8} {i:Nat} (h:i < s.length):(s.take (i+1)).all p=((s.take i).all p&&p s[i]):=by
 rw [List.take_succ_eq_append_getElem h,List.all_append]; simp
theorem l2Name_pure (s:List UInt8) (hs:s.length≤9223372036854775806):Pure Tryd.prog 21 [.str s] (·=.bool (nameL s)):=by
 refine pure_of_awp good Tryd.func21 rfl (by kernel_rfl) (by decide) ?_
 conv=>whnf
 refine loop_intro (fun n fr st=>st=[]∧∃ i:Nat,n+i=s.length∧lower (s.take i)=true∧Holds fr [(0,.str s),(3,.int .i64 i)]) s.length ⟨rfl,0,rfl,rfl,rfl,rfl,trivial⟩ ?_
 rintro n fr st ⟨rfl,i,hi,hlow,hh⟩
 obtain ⟨fr,rfl⟩:=hh.split
 clear hh
 conv=>whnf
 by_cases hlt:i < s.length
 · rw [ltB_t (by omega)]
   have hstep:=take_all (p:=lowerB) hlt
   conv=>whnf
   refine ⟨by omega,s[i],by simp [hlt],?_⟩
   conv=>whnf
   by_cases h1:(97:Int)≤(s[i].toNat:Int)
   · rw [ltB_f (by omega)]
     conv=>whnf
     refine ⟨by omega,s[i],by simp [hlt],?_⟩
     conv=>whnf
     by_cases h2:(s[i].toNat:Int)≤122
     · rw [ltB_f (by omega)]
       conv=>whnf
       refine ⟨n - 1,by omega,rfl,i+1,by omega,?_,?_⟩
       · unfold lower at *; rw [hstep,hlow]; simp [lowerB]; omega
       · refine ⟨rfl,?_,trivial⟩
         show V.int .i64 (IntKind.i64.wrap (i+1))=_
         rw [wrap64 (by omega) (by omega)]; simp
     · rw [ltB_t (by omega)]
       conv=>whnf
       have hf:lower s=false:=by
        unfold lower
        rw [List.all_eq_false]
        exact ⟨s[i],List.getElem_mem _,by simp only [lowerB,decide_eq_true_eq]; omega⟩
       simp only [nameL,hf,Bool.false_and]
   · rw [ltB_t (by omega)]
     conv=>whnf
     have hf:lower s=false:=by
      unfold lower
      rw [List.all_eq_false]
      exact ⟨s[i],List.getElem_mem _,by simp only [lowerB,decide_eq_true_eq]; omega⟩
     simp only [nameL,hf,Bool.false_and]
 · rw [ltB_f (by omega)]
   conv=>whnf
   refine .inl ((l1In_pure _ _ _).mono ?_)
   rintro r rfl
   conv=>whnf
   have:s.take i=s:=List.take_of_length_le (by omega)
   rw [this] at hlow
   simp [nameL,hlow]
end Go.Cod
set_option linter.all false
namespace Go.Cod
variable [Adr]
open Go Go.Proofs Go.ChangeShapes Go.WideShapes Go.ChangeAt Go.RowKit
set_option maxRecDepth 10000
theorem kids:Kids Tryd.prog (· < Tryd.prog.types.size):=kids_rows (by kernel_rfl) (by kernel_rfl)
theorem full:∀ t e,t < Tryd.prog.types.size→Tryd.prog.underlying t=some (.slice e)→0 < Tryd.prog.cellsOf e:=slices_full_of Tryd.prog (by kernel_rfl)
end Go.Cod
set_option linter.all false
namespace Go.Cod
variable [Adr]
open Go Go.Proofs
set_option maxRecDepth 10000
end Go.Cod
set_option linter.all false
namespace Go.Cod
variable [Adr]
open Go Go.Proofs
set_option maxRecDepth 10000
end Go.Cod
set_option linter.all false
namespace Go.Cod
variable [Adr]
open Go Go.Proofs
set_option maxRecDepth 10000
theorem eqB_refl (a:Int):eqB a a=true:=by rw [eqB_def]; simp
theorem eqS_refl (a:List UInt8):eqS a a=true:=by rw [eqS_def]; simp
end Go.Cod
set_option linter.all false
namespace Go.Cod
variable [Adr]
open Go Go.Proofs
set_option maxRecDepth 10000
end Go.Cod
set_option linter.all false
namespace Go.Cod
variable [Adr]
open Go Go.Proofs
set_option maxRecDepth 10000
end Go.Cod
set_option linter.all false
namespace Go.Cod
variable [Adr]
open Go Go.Proofs
set_option maxRecDepth 10000
end Go.Cod
set_option linter.all false
namespace Go.Cod
variable [Adr]
open Go Go.Proofs
set_option maxRecDepth 10000
theorem textHasOnly_pure (s:List UInt8) (hs:s.length≤9223372036854775806) (g:Nat) (p:UInt8→Bool) (hp:∀ b:UInt8,Pure Tryd.prog g [cellB b] (·=.bool (p b))) :
  Pure Tryd.prog 36 [.str s,.fn g []] (·=.bool (s.all p)):=by
 refine pure_of_awp good Tryd.func36 rfl (by kernel_rfl) (by decide) ?_
 conv=>whnf
 refine loop_intro (fun n fr st=>st=[]∧∃ i:Nat,n+i=s.length∧(s.take i).all p=true∧Holds fr [(0,.str s),(1,.fn g []),(7,.int .i64 s.length),(8,.int .i64 i)]) s.length ⟨rfl,0,rfl,rfl,rfl,rfl,rfl,rfl,trivial⟩ ?_
 rintro n fr st ⟨rfl,i,hi,hx,hh⟩
 obtain ⟨fr,rfl⟩:=hh.split
 clear hh
 conv=>whnf
 by_cases hlt:i < s.length
 · rw [ltB_t (by omega)]
   conv=>whnf
   refine ⟨by omega,s[i],by simp [hlt],?_⟩
   conv=>whnf
   have hst:=take_all (p:=p) hlt
   have hno:p s[i]=false→s.all p=false:=by
    intro h; rw [List.all_eq_false]; exact ⟨s[i],List.getElem_mem _,by simp [h]⟩
   refine .inl ((hp s[i]).mono ?_)
   rintro r rfl
   cases a:p s[i]
   · conv=>whnf
     rw [hno a]
   conv=>whnf
   refine ⟨n - 1,by omega,rfl,i+1,by omega,by rw [hst,hx,a]; rfl,rfl,rfl,rfl,?_,trivial⟩
   show V.int .i64 (IntKind.i64.wrap (i+1))=_
   rw [wrap64 (by omega) (by omega)]; simp
 · rw [ltB_f (by omega)]
   conv=>whnf
   rw [List.take_of_length_le (by omega)] at hx
   rw [hx]
theorem isLetter_pure (b:UInt8):Pure Tryd.prog 37 [cellB b] (·=.bool (lowerB b)):=by
 refine pure_of_awp good Tryd.func37 rfl (by kernel_rfl) (by decide) ?_
 conv=>whnf
 by_cases h1:(97:Int)≤(b.toNat:Int)
 · rw [leB_t (by omega)]
   conv=>whnf
   congr 1
   rw [leB_def,lowerB]
   exact decide_eq_decide.2 (by omega)
 · rw [leB_f (by omega)]
   conv=>whnf
   have:lowerB b=false:=by unfold lowerB; simp; omega
   rw [this]
theorem nameOk_pure (s:List UInt8) (hs:s.length≤9223372036854775806):Pure Tryd.prog 29 [.str s] (·=.bool (nameL s)):=by
 refine pure_of_awp good Tryd.func29 rfl (by kernel_rfl) (by decide) ?_
 conv=>whnf
 by_cases h1:(1:Int)≤(s.length:Int)
 case neg =>
  rw [leB_f (by omega)]
  conv=>whnf
  simp [nameL]; omega
 rw [leB_t (by omega)]
 conv=>whnf
 by_cases h2:(s.length:Int)≤8
 case neg =>
  rw [leB_f (by omega)]
  conv=>whnf
  simp [nameL]; omega
 rw [leB_t (by omega)]
 conv=>whnf
 refine .inl ((textHasOnly_pure s hs _ lowerB isLetter_pure).mono ?_)
 rintro r rfl
 conv=>whnf
 simp [nameL,lower,h1,h2]
end Go.Cod
set_option linter.all false
namespace Go.Cod
variable [Adr]
open Go Go.Proofs Go.ChangeShapes Go.WideShapes Go.ChangeAt Go.RowKit
set_option maxRecDepth 10000
def rws {α:Type} (c:α→List V) (ys:List α):List (List V):=ys.map c
theorem rws_len {α:Type} (c:α→List V) (ys:List α):(rws c ys).length=ys.length:=by simp [rws]
theorem rws_get {α:Type} (c:α→List V) (ys:List α) (i:Nat) (h:i < ys.length):(rws c ys)[i]? = some (c ys[i]):=by simp [rws,h]
theorem rws_take {α:Type} (c:α→List V) (ys:List α) (i:Nat):(rws c ys).take i=rws c (ys.take i):=by simp [rws]
theorem rws_wid {α:Type} (c:α→List V) {k:Nat} (hk:∀ a,(c a).length=k) (ys:List α):∀ r∈rws c ys,r.length=k:=fun r hr=>by
 obtain ⟨a,_,rfl⟩:=List.mem_map.1 hr
 exact hk a
def mixR {α:Type} (c:α→List V) (z:List V) (ys:List α) (i:Nat):List (List V):=(rws c ys).take i++List.replicate (ys.length - i) z
theorem mixR_get {α:Type} (c:α→List V) (z:List V) (ys:List α) (i:Nat) (h:i < ys.length):(mixR c z ys i)[i]? = some z:=by
 unfold mixR
 rw [List.getElem?_append_right (by rw [List.length_take,rws_len]; omega),List.length_take,rws_len,Nat.min_eq_left (by omega),Nat.sub_self,List.getElem?_replicate,if_pos (by omega)]
theorem mixR_set {α:Type} (c:α→List V) (z:List V) (ys:List α) (i:Nat) (h:i < ys.length):(mixR c z ys i).set i (c ys[i])=mixR c z ys (i+1):=by
 unfold mixR
 rw [List.set_append_right _ _ (by rw [List.length_take,rws_len]; omega),List.length_take,rws_len,Nat.min_eq_left (by omega),Nat.sub_self]
 rw [show ys.length - i=(ys.length - (i+1))+1 by omega,List.replicate_succ,List.set_cons_zero,List.take_add_one,rws_get c ys i h]
 simp
theorem mixR_all {α:Type} (c:α→List V) (z:List V) (ys:List α) (i:Nat) (h:ys.length≤i):mixR c z ys i=rws c ys:=by
 unfold mixR
 rw [show ys.length - i=0 by omega,List.take_of_length_le (by rw [rws_len]; omega)]
 simp
theorem mixR_none {α:Type} (c:α→List V) (z:List V) (ys:List α):mixR c z ys 0=List.replicate ys.length z:=by simp [mixR]
def szW {α:Type} (f:α→Int→Int):List α→Int→Int
 | [],l=>l
 | a::ys,l=>if f a l < 0 then -1 else szW f ys (f a l)
def szWL {α:Type} (f:α→Int→Int) (ys:List α) (l:Int):Int:=if l - ys.length < 0 then -1 else szW f ys (l - ys.length)
theorem szW_drop {α:Type} (f:α→Int→Int) (ys:List α) (i:Nat) (h:i < ys.length) (l:Int):szW f (ys.drop i) l=if f ys[i] l < 0 then -1 else szW f (ys.drop (i+1)) (f ys[i] l):=by
 rw [List.drop_eq_getElem_cons h]; rfl
theorem szW_le {α:Type} {f:α→Int→Int} (hf:∀ a l,0≤l→f a l≤l∧-1≤f a l):∀ (ys:List α) (l:Int),0≤l→szW f ys l≤l∧-1≤szW f ys l
 | [],l,h=>by simp only [szW]; omega
 | a::ys,l,h=>by
   simp only [szW]
   have h1:=hf a l h
   split
   · omega
   · have:=szW_le hf ys (f a l) (by omega); omega
theorem szWL_le {α:Type} {f:α→Int→Int} (hf:∀ a l,0≤l→f a l≤l∧-1≤f a l) (ys:List α) (l:Int) (h:0≤l):szWL f ys l≤l∧-1≤szWL f ys l:=by
 unfold szWL
 split
 · omega
 · have:=szW_le hf ys (l - ys.length) (by omega); omega
theorem szW_small {α:Type} {f:α→Int→Int} (hf:∀ a l,0≤l→f a l≤l∧-1≤f a l):∀ (ys:List α) (l:Int),0≤l→0≤szW f ys l→∀ a∈ys,∃ m,0≤m∧m≤l∧0≤f a m
 | [],_,_,_=>fun s h=>(by cases h)
 | a::ys,l,h0,h=>by
   simp only [szW] at h
   split at h
   · omega
   rename_i hn
   have h1:=hf a l h0
   intro u hu
   rcases List.mem_cons.1 hu with rfl | hu
   · exact ⟨l,h0,by omega,by omega⟩
   · obtain ⟨m,a1,a2,a3⟩:=szW_small hf ys (f a l) (by omega) h u hu
     exact ⟨m,a1,by omega,a3⟩
theorem szWL_small {α:Type} {f:α→Int→Int} (hf:∀ a l,0≤l→f a l≤l∧-1≤f a l) (ys:List α) (l:Int) (h0:0≤l) (h:0≤szWL f ys l):(ys.length:Int)≤l∧∀ a∈ys,∃ m,0≤m∧m≤l∧0≤f a m:=by
 unfold szWL at h
 split at h
 · omega
 refine ⟨by omega,fun a ha=>?_⟩
 obtain ⟨m,a1,a2,a3⟩:=szW_small hf ys _ (by omega) h a ha
 exact ⟨m,a1,by omega,a3⟩
theorem rws_of {α:Type} (c:α→List V) {p:α→Prop}:∀ (es:List (List V)),(∀ r∈es,∃ a,r=c a∧p a)→∃ ys:List α,es=rws c ys∧∀ a∈ys,p a
 | [],_=>⟨[],rfl,fun s h=>(by cases h)⟩
 | r::rs,h=>by
   obtain ⟨s,rfl,hs⟩:=h r (by simp)
   obtain ⟨ss,rfl,hl⟩:=rws_of c rs fun r hr=>h r (List.mem_cons_of_mem _ hr)
   refine ⟨s::ss,rfl,fun u hu=>?_⟩
   rcases List.mem_cons.1 hu with rfl | hu
   · exact hs
   · exact hl u hu
structure It where
 kind:List UInt8
 many:Bool
 may:Bool
 deriving DecidableEq
def It.cells (a:It):List V:=[.str a.kind,.bool a.many,.bool a.may]
structure Ru where
 kind:List UInt8
 text:Bool
 kids:List It
 deriving DecidableEq
def Ru.cells (a:Ru):List V:=[.str a.kind,.bool a.text,.sl (rws It.cells a.kids)]
structure Sc where
 root:List UInt8
 rules:List Ru
 deriving DecidableEq
def Sc.cells (a:Sc):List V:=[.str a.root,.sl (rws Ru.cells a.rules)]
def It.Ok (a:It):Prop:=a.kind.length≤maxLen
def Ru.Ok (a:Ru):Prop:=a.kind.length≤maxLen∧a.kids.length≤maxLen∧∀ x∈a.kids,x.Ok
def Sc.Ok (a:Sc):Prop:=a.root.length≤maxLen∧a.rules.length≤maxLen∧∀ x∈a.rules,x.Ok
theorem Ru.len (a:Ru):a.cells.length=3:=rfl
theorem reads_item {H:Type} {enc:TypeId × Value→H} {w:World} (n:Nat):Reads enc Tryd.prog w n 72 fun vs=>∃ a:It,vs=a.cells∧a.Ok:=by
 have hS:=reads_struct (enc:=enc) (P:=Tryd.prog) (w:=w) (n:=n) (t:=72)
  (Ss:=[fun vs=>∃ s,vs=[.str s]∧s.length≤maxLen,fun vs=>∃ b,vs=[.bool b],fun vs=>∃ b,vs=[.bool b]])
  kids (by decide +kernel) Tryd.underlying72 rfl ?_
 · intro cs x h
   obtain ⟨vs,⟨_,_,rfl,⟨s,rfl,hs⟩,_,_,rfl,⟨b,rfl⟩,_,_,rfl,⟨d,rfl⟩,rfl⟩,h2⟩:=hS cs x h
   exact ⟨_,⟨⟨s,b,d⟩,by simp [It.cells],hs⟩,h2⟩
 · intro m hm j f S h1 h2
   match j with
   | 0=>simp at h1 h2; subst h1 h2; exact reads_str Tryd.underlying9
   | 1=>obtain rfl:=Option.some.inj h1; obtain rfl:=Option.some.inj h2; exact reads_bool Tryd.underlying4
   | 2=>obtain rfl:=Option.some.inj h1; obtain rfl:=Option.some.inj h2; exact reads_bool Tryd.underlying4
   | j+3=>simp at h1
theorem reads_rule {H:Type} {enc:TypeId × Value→H} {w:World} (n:Nat):Reads enc Tryd.prog w n 53 fun vs=>∃ a:Ru,vs=a.cells∧a.Ok:=by
 have hS:=reads_struct (enc:=enc) (P:=Tryd.prog) (w:=w) (n:=n) (t:=53)
  (Ss:=[fun vs=>∃ s,vs=[.str s]∧s.length≤maxLen,fun vs=>∃ b,vs=[.bool b],
    fun vs=>∃ es,vs=[.sl es]∧es.length≤maxLen∧∀ r∈es,(∃ a:It,r=a.cells∧a.Ok)∧r.length=Tryd.prog.cellsOf 72∧(∀ v∈r,v.leaf=true)∧V.clean.cleanL 0 r=true])
  kids (by decide +kernel) Tryd.underlying53 rfl ?_
 · intro cs x h
   obtain ⟨vs,⟨_,_,rfl,⟨s,rfl,hs⟩,_,_,rfl,⟨b,rfl⟩,_,_,rfl,⟨es,rfl,hel,her⟩,rfl⟩,h2⟩:=hS cs x h
   obtain ⟨ys,rfl,has⟩:=rws_of It.cells es fun r hr=>(her r hr).1
   exact ⟨_,⟨⟨s,b,ys⟩,by simp [Ru.cells],hs,by rw [rws_len] at hel; exact hel,has⟩,h2⟩
 · intro m hm j f S h1 h2
   match j with
   | 0=>simp at h1 h2; subst h1 h2; exact reads_str Tryd.underlying9
   | 1=>obtain rfl:=Option.some.inj h1; obtain rfl:=Option.some.inj h2; exact reads_bool Tryd.underlying4
   | 2=>simp at h1 h2; subst h1 h2; exact reads_slice Tryd.underlying51 (by decide +kernel) fun m _=>reads_item m
   | j+3=>simp at h1
theorem reads_schema {H:Type} {enc:TypeId × Value→H} {w:World} (n:Nat):Reads enc Tryd.prog w n 24 fun vs=>∃ a:Sc,vs=a.cells∧a.Ok:=by
 have hS:=reads_struct (enc:=enc) (P:=Tryd.prog) (w:=w) (n:=n) (t:=24)
  (Ss:=[fun vs=>∃ s,vs=[.str s]∧s.length≤maxLen,
    fun vs=>∃ es,vs=[.sl es]∧es.length≤maxLen∧∀ r∈es,(∃ a:Ru,r=a.cells∧a.Ok)∧r.length=Tryd.prog.cellsOf 53∧(∀ v∈r,v.leaf=true)∧V.clean.cleanL 0 r=true])
  kids (by decide +kernel) Tryd.underlying24 rfl ?_
 · intro cs x h
   obtain ⟨vs,⟨_,_,rfl,⟨s,rfl,hs⟩,_,_,rfl,⟨es,rfl,hel,her⟩,rfl⟩,h2⟩:=hS cs x h
   obtain ⟨ys,rfl,has⟩:=rws_of Ru.cells es fun r hr=>(her r hr).1
   exact ⟨_,⟨⟨s,ys⟩,by simp [Sc.cells],hs,by rw [rws_len] at hel; exact hel,has⟩,h2⟩
 · intro m hm j f S h1 h2
   match j with
   | 0=>simp at h1 h2; subst h1 h2; exact reads_str Tryd.underlying9
   | 1=>simp at h1 h2; subst h1 h2; exact reads_slice Tryd.underlying22 (by decide +kernel) fun m _=>reads_rule m
   | j+2=>simp at h1
theorem argSchema {H:Type} {enc:TypeId × Value→H} {W:World}:ReadsA enc Tryd.prog W 24 fun x=>∃ vs,x=.agg vs∧∃ c:Sc,vs=c.cells∧c.Ok:=readsA_agg Tryd.underlying24 fun n=>reads_schema n
end Go.Cod
set_option linter.all false
namespace Go.Cod
variable [Adr]
open Go Go.Proofs
set_option maxRecDepth 10000
def szStr (s:List UInt8) (l:Int):Int:=if l - s.length < 0 then -1 else l - s.length
def szIt (a:It) (l:Int):Int:=szStr a.kind l
def szRu (a:Ru) (l:Int):Int:=if szStr a.kind l < 0 then -1 else szWL szIt a.kids (szStr a.kind l)
def szSc (a:Sc) (l:Int):Int:=if szStr a.root l < 0 then -1 else szWL szRu a.rules (szStr a.root l)
theorem szStr_le (s:List UInt8) (l:Int) (h:0≤l):szStr s l≤l∧-1≤szStr s l:=by
 unfold szStr
 split <;> omega
theorem szStr_small (s:List UInt8) (l:Int) (h:0≤szStr s l):(s.length:Int)≤l:=by
 unfold szStr at h
 split at h <;> omega
theorem szIt_le (a:It) (l:Int) (h:0≤l):szIt a l≤l∧-1≤szIt a l:=szStr_le a.kind l h
theorem szRu_le (a:Ru) (l:Int) (h:0≤l):szRu a l≤l∧-1≤szRu a l:=by
 unfold szRu
 have h1:=szStr_le a.kind l h
 split
 · omega
 · have:=szWL_le szIt_le a.kids _ (show 0≤szStr a.kind l by omega); omega
def It.Sm (a:It):Prop:=a.kind.length≤1048576
def Ru.Sm (a:Ru):Prop:=a.kind.length≤1048576∧a.kids.length≤1048576∧∀ x∈a.kids,x.Sm
def Sc.Sm (a:Sc):Prop:=a.root.length≤1048576∧a.rules.length≤1048576∧∀ x∈a.rules,x.Sm
theorem szRu_small (a:Ru) (l:Int) (h0:0≤l) (hl:l≤1048576) (h:0≤szRu a l):a.Sm:=by
 unfold szRu at h
 have h1:=szStr_le a.kind l h0
 split at h
 · omega
 rename_i hn
 have h2:=szStr_small a.kind l (by omega)
 obtain ⟨h3,h4⟩:=szWL_small szIt_le a.kids _ (by omega) h
 refine ⟨by omega,by omega,fun x hx=>?_⟩
 obtain ⟨m,a1,a2,a3⟩:=h4 x hx
 have:=szStr_small x.kind m a3
 unfold It.Sm
 omega
theorem szSc_small (a:Sc) (l:Int) (h0:0≤l) (hl:l≤1048576) (h:0≤szSc a l):a.Sm:=by
 unfold szSc at h
 have h1:=szStr_le a.root l h0
 split at h
 · omega
 rename_i hn
 have h2:=szStr_small a.root l (by omega)
 obtain ⟨h3,h4⟩:=szWL_small szRu_le a.rules _ (by omega) h
 refine ⟨by omega,by omega,fun x hx=>?_⟩
 obtain ⟨m,a1,a2,a3⟩:=h4 x hx
 exact szRu_small x m a1 (by omega) a3
theorem szItem_pure (a:It) (ha:a.Ok) (left:Int) (h0:0≤left) (h1:left≤1048576):Pure Tryd.prog 34 [.agg a.cells,.int .i64 left] (·=.int .i64 (szIt a left)):=by
 have hd:szIt a left=if left - a.kind.length < 0 then -1 else left - a.kind.length:=rfl
 have hk:a.kind.length≤maxLen:=ha
 simp only [maxLen] at hk
 generalize szIt a left=res at *
 obtain ⟨kind,many,may⟩:=a
 simp only [It.cells] at hk hd ⊢
 refine pure_of_awp good Tryd.func34 rfl (by kernel_rfl) (by decide) ?_
 conv=>whnf
 rw [wrap64 (by omega) (by omega)]
 by_cases a1:left - kind.length < 0
 · rw [ltB_t a1]
   conv=>whnf
   rw [hd,if_pos a1]
 rw [ltB_f (by omega)]
 conv=>whnf
 rw [hd,if_neg a1]
theorem toItem_pure (a:It):Pure Tryd.prog 35 [.agg a.cells] (·=.agg a.cells):=by
 obtain ⟨kind,many,may⟩:=a
 simp only [It.cells]
 refine pure_of_awp good Tryd.func35 rfl (by kernel_rfl) (by decide) ?_
 conv=>whnf
 rfl
theorem eqItem_pure (a:It):Pure Tryd.prog 40 [.agg a.cells,.agg a.cells] (·=.bool true):=by
 obtain ⟨kind,many,may⟩:=a
 simp only [It.cells]
 refine pure_of_awp good Tryd.func40 rfl (by kernel_rfl) (by decide) ?_
 conv=>whnf
 rw [eqS_refl]
 cases many <;> cases may <;> conv=>whnf
set_option maxHeartbeats 4000000 in
theorem szItemS_pure (ys:List It) (hl:ys.length≤maxLen) (ho:∀ s∈ys,s.Ok) (left:Int) (h0:0≤left) (h1:left≤1048576):Pure Tryd.prog 27 [.sl (rws It.cells ys),.int .i64 left] (·=.int .i64 (szWL szIt ys left)):=by
 have hlen:=rws_len It.cells ys
 have hget:=rws_get It.cells ys
 have hd:szWL szIt ys left=if left - ys.length < 0 then -1 else szW szIt (ys.drop 0) (left - ys.length):=rfl
 have hml:(ys.length:Int)≤9223372036854775807:=by simp only [maxLen] at hl; omega
 generalize szWL szIt ys left=res at *
 generalize rws It.cells ys=rows at *
 refine pure_of_awp good Tryd.func27 rfl (by kernel_rfl) (by decide) ?_
 conv=>whnf
 rw [hlen,wrap64 (by omega) (by omega)]
 by_cases a1:left - ys.length < 0
 · rw [ltB_t a1]
   conv=>whnf
   rw [hd,if_pos a1]
 rw [ltB_f (by omega)]
 conv=>whnf
 rw [if_neg a1] at hd
 refine loop_intro (fun n fr st=>∃ (i:Nat) (l:Int),n+i=ys.length∧0≤l∧l≤1048576∧res=szW szIt (ys.drop i) l∧st=[]∧Holds fr [(0,.sl rows),(1,.int .i64 l),(5,.int .i64 i)]) ys.length
  ⟨0,_,rfl,by omega,by omega,hd,rfl,rfl,rfl,rfl,trivial⟩ ?_
 rintro n fr st ⟨i,l,hi,l0,l1,hr,rfl,hh⟩
 obtain ⟨fr,rfl⟩:=hh.split
 clear hh
 conv=>whnf
 by_cases hlt:i < ys.length
 · rw [hlen,ltB_t (by omega)]
   have hg:=hget i hlt
   have hs:=szW_drop szIt ys i hlt l
   have hm:=ho ys[i] (List.getElem_mem _)
   generalize ys[i]=s at *
   have hle:=szIt_le s l l0
   have hc:=szItem_pure s hm l l0 l1
   generalize szIt s l=v at *
   obtain ⟨kind,many,may⟩:=s
   simp only [It.cells] at hg hc
   conv=>whnf
   refine ⟨by omega,rows,_,3,rfl,hg,rfl,rfl,?_⟩
   conv=>whnf
   refine .inl (hc.mono ?_)
   rintro r rfl
   conv=>whnf
   by_cases a2:v < 0
   · rw [ltB_t a2]
     conv=>whnf
     rw [hr,hs,if_pos a2]
   rw [ltB_f (by omega)]
   conv=>whnf
   rw [if_neg a2] at hs
   refine ⟨n - 1,by omega,i+1,v,by omega,by omega,by omega,hr.trans hs,rfl,rfl,rfl,?_,trivial⟩
   show V.int .i64 (IntKind.i64.wrap (i+1))=_
   rw [wrap64 (by omega) (by omega)]; simp
 · rw [hlen,ltB_f (by omega)]
   conv=>whnf
   rw [hr,List.drop_of_length_le (by omega)]
   rfl
set_option maxHeartbeats 4000000 in
theorem toItemS_pure (ys:List It) (hl:ys.length≤1048576):Pure Tryd.prog 28 [.sl (rws It.cells ys)] (·=.sl (rws It.cells ys)):=by
 have hlen:=rws_len It.cells ys
 have hget:=rws_get It.cells ys
 have hz:=mixR_get It.cells [.str [],.bool false,.bool false] ys
 have hset:=mixR_set It.cells [.str [],.bool false,.bool false] ys
 have hall:=mixR_all It.cells [.str [],.bool false,.bool false] ys ys.length (Nat.le_refl _)
 have hini:=mixR_none It.cells [.str [],.bool false,.bool false] ys
 refine pure_of_awp good Tryd.func28 rfl (by kernel_rfl) (by decide) ?_
 conv=>whnf
 refine ⟨by omega,by omega,?_⟩
 conv=>whnf
 refine ⟨by show (Int.toNat _)*24≤_; omega,by omega,?_⟩
 conv=>whnf
 refine loop_drop (fun n fr st=>∃ i:Nat,n+i=ys.length∧st=[⟨mixR It.cells [.str [],.bool false,.bool false] ys i,3,true,true,false,.cell⟩]∧Holds fr [(0,.sl (rws It.cells ys)),(3,.own 0),(4,.int .i64 i)]) ys.length none
  ⟨0,rfl,by rw [hini,← hlen]; rfl,rfl,rfl,rfl,trivial⟩ ?_
 rintro n fr st ⟨i,hi,rfl,hh⟩
 obtain ⟨fr,rfl⟩:=hh.split
 clear hh
 conv=>whnf
 by_cases hlt:i < ys.length
 · rw [ltB_t (by omega)]
   conv=>whnf
   have hg:=hget i hlt
   have hzi:=hz i hlt
   have hsi:=hset i hlt
   have hc:=toItem_pure ys[i]
   generalize ys[i]=s at *
   obtain ⟨kind,many,may⟩:=s
   simp only [It.cells] at hg hc hsi
   refine ⟨by omega,_,_,3,rfl,hg,rfl,rfl,?_⟩
   conv=>whnf
   refine .inl (hc.mono ?_)
   rintro r rfl
   conv=>whnf
   refine ⟨by omega,_,_,3,rfl,hzi,rfl,rfl,?_⟩
   conv=>whnf
   refine AtRow_intro _ hzi ?_
   conv=>whnf
   refine ⟨n - 1,by omega,none,i+1,by omega,?_,rfl,rfl,?_,trivial⟩
   · rw [← hsi]; rfl
   · show V.int .i64 (IntKind.i64.wrap (i+1))=_
     rw [wrap64 (by omega) (by omega)]; simp
 · rw [ltB_f (by omega)]
   have hil:i=ys.length:=by omega
   subst hil
   rw [hall]
   conv=>whnf
set_option maxHeartbeats 4000000 in
theorem eqItemS_pure (ys:List It) (hl:ys.length≤1048576):Pure Tryd.prog 33 [.sl (rws It.cells ys),.sl (rws It.cells ys)] (·=.bool true):=by
 have hlr:=rws_len It.cells ys
 have hget:=rws_get It.cells ys
 generalize rws It.cells ys=rows at *
 refine pure_of_awp good Tryd.func33 rfl (by kernel_rfl) (by decide) ?_
 conv=>whnf
 rw [eqB_refl]
 conv=>whnf
 refine loop_intro (fun n fr st=>∃ i:Nat,n+i=ys.length∧st=[]∧Holds fr [(0,.sl rows),(1,.sl rows),(5,.int .i64 i)]) ys.length
  ⟨0,rfl,rfl,rfl,rfl,rfl,trivial⟩ ?_
 rintro n fr st ⟨i,hi,rfl,hh⟩
 obtain ⟨fr,rfl⟩:=hh.split
 clear hh
 conv=>whnf
 by_cases hlt:i < ys.length
 · rw [hlr,ltB_t (by omega)]
   conv=>whnf
   have hg:=hget i hlt
   have hc:=eqItem_pure ys[i]
   generalize ys[i]=s at *
   obtain ⟨kind,many,may⟩:=s
   simp only [It.cells] at hg hc
   refine ⟨by omega,rows,_,3,rfl,hg,rfl,rfl,?_⟩
   conv=>whnf
   refine ⟨by omega,rows,_,3,rfl,hg,rfl,rfl,?_⟩
   conv=>whnf
   refine ⟨_,.inl hc,?_⟩
   conv=>whnf
   refine ⟨n - 1,by omega,i+1,by omega,rfl,rfl,rfl,?_,trivial⟩
   show V.int .i64 (IntKind.i64.wrap (i+1))=_
   rw [wrap64 (by omega) (by omega)]; simp
 · rw [hlr,ltB_f (by omega)]
   conv=>whnf
theorem szRule_pure (a:Ru) (ha:a.Ok) (left:Int) (h0:0≤left) (h1:left≤1048576):Pure Tryd.prog 18 [.agg a.cells,.int .i64 left] (·=.int .i64 (szRu a left)):=by
 have hd:szRu a left=if (if left - a.kind.length < 0 then -1 else left - a.kind.length) < 0 then -1 else szWL szIt a.kids (if left - a.kind.length < 0 then -1 else left - a.kind.length):=rfl
 obtain ⟨hk,hn,hx⟩:=ha
 have hc:=fun h1 h2=>szItemS_pure a.kids hn hx (left - a.kind.length) h1 h2
 have hle:=fun h=>szWL_le szIt_le a.kids (left - a.kind.length) h
 simp only [maxLen] at hk
 generalize szRu a left=res at *
 obtain ⟨kind,text,kids⟩:=a
 simp only [Ru.cells] at hk hd hc hle ⊢
 generalize rws It.cells kids=rows at *
 refine pure_of_awp good Tryd.func18 rfl (by kernel_rfl) (by decide) ?_
 conv=>whnf
 rw [wrap64 (by omega) (by omega)]
 by_cases a1:left - kind.length < 0
 · rw [ltB_t a1]
   conv=>whnf
   rw [hd,if_pos a1]; rfl
 rw [ltB_f (by omega)]
 rw [if_neg a1,if_neg a1] at hd
 have hc:=hc (by omega) (by omega)
 have hle:=hle (by omega)
 generalize szWL szIt kids (left - kind.length)=v at *
 conv=>whnf
 refine .inl (hc.mono ?_)
 rintro r rfl
 conv=>whnf
 by_cases a2:v < 0
 · rw [ltB_t a2]
   conv=>whnf
   rw [hd,show v=-1 by omega]
 rw [ltB_f (by omega)]
 conv=>whnf
 rw [hd]
theorem toRule_pure (a:Ru) (ha:a.Sm):Pure Tryd.prog 22 [.agg a.cells] (·=.agg a.cells):=by
 obtain ⟨_,hn,hx⟩:=ha
 have hc:=toItemS_pure a.kids hn
 obtain ⟨kind,text,kids⟩:=a
 simp only [Ru.cells] at hc ⊢
 generalize rws It.cells kids=rows at *
 refine pure_of_awp good Tryd.func22 rfl (by kernel_rfl) (by decide) ?_
 conv=>whnf
 refine .inl (hc.mono ?_)
 rintro r rfl
 conv=>whnf
 rfl
theorem eqRule_pure (a:Ru) (ha:a.Sm):Pure Tryd.prog 26 [.agg a.cells,.agg a.cells] (·=.bool true):=by
 obtain ⟨_,hn,hx⟩:=ha
 have hc:=eqItemS_pure a.kids hn
 obtain ⟨kind,text,kids⟩:=a
 simp only [Ru.cells] at hc ⊢
 generalize rws It.cells kids=rows at *
 refine pure_of_awp good Tryd.func26 rfl (by kernel_rfl) (by decide) ?_
 conv=>whnf
 rw [eqS_refl]
 cases text
 all_goals (conv=>whnf)
 all_goals (refine .inl (hc.mono ?_))
 all_goals (rintro r rfl)
 all_goals (conv=>whnf)
set_option maxHeartbeats 4000000 in
theorem szRuleS_pure (ys:List Ru) (hl:ys.length≤maxLen) (ho:∀ s∈ys,s.Ok) (left:Int) (h0:0≤left) (h1:left≤1048576):Pure Tryd.prog 9 [.sl (rws Ru.cells ys),.int .i64 left] (·=.int .i64 (szWL szRu ys left)):=by
 have hlen:=rws_len Ru.cells ys
 have hget:=rws_get Ru.cells ys
 have hd:szWL szRu ys left=if left - ys.length < 0 then -1 else szW szRu (ys.drop 0) (left - ys.length):=rfl
 have hml:(ys.length:Int)≤9223372036854775807:=by simp only [maxLen] at hl; omega
 generalize szWL szRu ys left=res at *
 generalize rws Ru.cells ys=rows at *
 refine pure_of_awp good Tryd.func9 rfl (by kernel_rfl) (by decide) ?_
 conv=>whnf
 rw [hlen,wrap64 (by omega) (by omega)]
 by_cases a1:left - ys.length < 0
 · rw [ltB_t a1]
   conv=>whnf
   rw [hd,if_pos a1]
 rw [ltB_f (by omega)]
 conv=>whnf
 rw [if_neg a1] at hd
 refine loop_intro (fun n fr st=>∃ (i:Nat) (l:Int),n+i=ys.length∧0≤l∧l≤1048576∧res=szW szRu (ys.drop i) l∧st=[]∧Holds fr [(0,.sl rows),(1,.int .i64 l),(5,.int .i64 i)]) ys.length
  ⟨0,_,rfl,by omega,by omega,hd,rfl,rfl,rfl,rfl,trivial⟩ ?_
 rintro n fr st ⟨i,l,hi,l0,l1,hr,rfl,hh⟩
 obtain ⟨fr,rfl⟩:=hh.split
 clear hh
 conv=>whnf
 by_cases hlt:i < ys.length
 · rw [hlen,ltB_t (by omega)]
   have hg:=hget i hlt
   have hs:=szW_drop szRu ys i hlt l
   have hm:=ho ys[i] (List.getElem_mem _)
   generalize ys[i]=s at *
   have hle:=szRu_le s l l0
   have hc:=szRule_pure s hm l l0 l1
   generalize szRu s l=v at *
   obtain ⟨kind,text,kids⟩:=s
   simp only [Ru.cells] at hg hc
   conv=>whnf
   refine ⟨by omega,rows,_,3,rfl,hg,rfl,rfl,?_⟩
   conv=>whnf
   refine .inl (hc.mono ?_)
   rintro r rfl
   conv=>whnf
   by_cases a2:v < 0
   · rw [ltB_t a2]
     conv=>whnf
     rw [hr,hs,if_pos a2]
   rw [ltB_f (by omega)]
   conv=>whnf
   rw [if_neg a2] at hs
   refine ⟨n - 1,by omega,i+1,v,by omega,by omega,by omega,hr.trans hs,rfl,rfl,rfl,?_,trivial⟩
   show V.int .i64 (IntKind.i64.wrap (i+1))=_
   rw [wrap64 (by omega) (by omega)]; simp
 · rw [hlen,ltB_f (by omega)]
   conv=>whnf
   rw [hr,List.drop_of_length_le (by omega)]
   rfl
set_option maxHeartbeats 4000000 in
theorem toRuleS_pure (ys:List Ru) (hl:ys.length≤1048576) (hs:∀ s∈ys,s.Sm):Pure Tryd.prog 12 [.sl (rws Ru.cells ys)] (·=.sl (rws Ru.cells ys)):=by
 have hlen:=rws_len Ru.cells ys
 have hget:=rws_get Ru.cells ys
 have hz:=mixR_get Ru.cells [.str [],.bool false,.nils] ys
 have hset:=mixR_set Ru.cells [.str [],.bool false,.nils] ys
 have hall:=mixR_all Ru.cells [.str [],.bool false,.nils] ys ys.length (Nat.le_refl _)
 have hini:=mixR_none Ru.cells [.str [],.bool false,.nils] ys
 refine pure_of_awp good Tryd.func12 rfl (by kernel_rfl) (by decide) ?_
 conv=>whnf
 refine ⟨by omega,by omega,?_⟩
 conv=>whnf
 refine ⟨by show (Int.toNat _)*48≤_; omega,by omega,?_⟩
 conv=>whnf
 refine loop_drop (fun n fr st=>∃ i:Nat,n+i=ys.length∧st=[⟨mixR Ru.cells [.str [],.bool false,.nils] ys i,3,true,true,false,.cell⟩]∧Holds fr [(0,.sl (rws Ru.cells ys)),(3,.own 0),(4,.int .i64 i)]) ys.length none
  ⟨0,rfl,by rw [hini,← hlen]; rfl,rfl,rfl,rfl,trivial⟩ ?_
 rintro n fr st ⟨i,hi,rfl,hh⟩
 obtain ⟨fr,rfl⟩:=hh.split
 clear hh
 conv=>whnf
 by_cases hlt:i < ys.length
 · rw [ltB_t (by omega)]
   conv=>whnf
   have hg:=hget i hlt
   have hzi:=hz i hlt
   have hsi:=hset i hlt
   have hc:=toRule_pure ys[i] (hs _ (List.getElem_mem _))
   generalize ys[i]=s at *
   obtain ⟨kind,text,kids⟩:=s
   simp only [Ru.cells] at hg hc hsi
   refine ⟨by omega,_,_,3,rfl,hg,rfl,rfl,?_⟩
   conv=>whnf
   refine .inl (hc.mono ?_)
   rintro r rfl
   conv=>whnf
   refine ⟨by omega,_,_,3,rfl,hzi,rfl,rfl,?_⟩
   conv=>whnf
   refine AtRow_intro _ hzi ?_
   conv=>whnf
   refine ⟨n - 1,by omega,none,i+1,by omega,?_,rfl,rfl,?_,trivial⟩
   · rw [← hsi]; rfl
   · show V.int .i64 (IntKind.i64.wrap (i+1))=_
     rw [wrap64 (by omega) (by omega)]; simp
 · rw [ltB_f (by omega)]
   have hil:i=ys.length:=by omega
   subst hil
   rw [hall]
   conv=>whnf
set_option maxHeartbeats 4000000 in
theorem eqRuleS_pure (ys:List Ru) (hl:ys.length≤1048576) (hs:∀ s∈ys,s.Sm):Pure Tryd.prog 17 [.sl (rws Ru.cells ys),.sl (rws Ru.cells ys)] (·=.bool true):=by
 have hlr:=rws_len Ru.cells ys
 have hget:=rws_get Ru.cells ys
 generalize rws Ru.cells ys=rows at *
 refine pure_of_awp good Tryd.func17 rfl (by kernel_rfl) (by decide) ?_
 conv=>whnf
 rw [eqB_refl]
 conv=>whnf
 refine loop_intro (fun n fr st=>∃ i:Nat,n+i=ys.length∧st=[]∧Holds fr [(0,.sl rows),(1,.sl rows),(5,.int .i64 i)]) ys.length
  ⟨0,rfl,rfl,rfl,rfl,rfl,trivial⟩ ?_
 rintro n fr st ⟨i,hi,rfl,hh⟩
 obtain ⟨fr,rfl⟩:=hh.split
 clear hh
 conv=>whnf
 by_cases hlt:i < ys.length
 · rw [hlr,ltB_t (by omega)]
   conv=>whnf
   have hg:=hget i hlt
   have hc:=eqRule_pure ys[i] (hs _ (List.getElem_mem _))
   generalize ys[i]=s at *
   obtain ⟨kind,text,kids⟩:=s
   simp only [Ru.cells] at hg hc
   refine ⟨by omega,rows,_,3,rfl,hg,rfl,rfl,?_⟩
   conv=>whnf
   refine ⟨by omega,rows,_,3,rfl,hg,rfl,rfl,?_⟩
   conv=>whnf
   refine ⟨_,.inl hc,?_⟩
   conv=>whnf
   refine ⟨n - 1,by omega,i+1,by omega,rfl,rfl,rfl,?_,trivial⟩
   show V.int .i64 (IntKind.i64.wrap (i+1))=_
   rw [wrap64 (by omega) (by omega)]; simp
 · rw [hlr,ltB_f (by omega)]
   conv=>whnf
theorem szSchema_pure (a:Sc) (ha:a.Ok) (left:Int) (h0:0≤left) (h1:left≤1048576):Pure Tryd.prog 4 [.agg a.cells,.int .i64 left] (·=.int .i64 (szSc a left)):=by
 have hd:szSc a left=if (if left - a.root.length < 0 then -1 else left - a.root.length) < 0 then -1 else szWL szRu a.rules (if left - a.root.length < 0 then -1 else left - a.root.length):=rfl
 obtain ⟨hk,hn,hx⟩:=ha
 have hc:=fun h1 h2=>szRuleS_pure a.rules hn hx (left - a.root.length) h1 h2
 have hle:=fun h=>szWL_le szRu_le a.rules (left - a.root.length) h
 simp only [maxLen] at hk
 generalize szSc a left=res at *
 obtain ⟨root,rules⟩:=a
 simp only [Sc.cells] at hk hd hc hle ⊢
 generalize rws Ru.cells rules=rows at *
 refine pure_of_awp good Tryd.func4 rfl (by kernel_rfl) (by decide) ?_
 conv=>whnf
 rw [wrap64 (by omega) (by omega)]
 by_cases a1:left - root.length < 0
 · rw [ltB_t a1]
   conv=>whnf
   rw [hd,if_pos a1]; rfl
 rw [ltB_f (by omega)]
 rw [if_neg a1,if_neg a1] at hd
 have hc:=hc (by omega) (by omega)
 have hle:=hle (by omega)
 generalize szWL szRu rules (left - root.length)=v at *
 conv=>whnf
 refine .inl (hc.mono ?_)
 rintro r rfl
 conv=>whnf
 by_cases a2:v < 0
 · rw [ltB_t a2]
   conv=>whnf
   rw [hd,show v=-1 by omega]
 rw [ltB_f (by omega)]
 conv=>whnf
 rw [hd]
theorem toSchema_pure (a:Sc) (ha:a.Sm):Pure Tryd.prog 6 [.agg a.cells] (·=.agg a.cells):=by
 obtain ⟨_,hn,hx⟩:=ha
 have hc:=toRuleS_pure a.rules hn hx
 obtain ⟨root,rules⟩:=a
 simp only [Sc.cells] at hc ⊢
 generalize rws Ru.cells rules=rows at *
 refine pure_of_awp good Tryd.func6 rfl (by kernel_rfl) (by decide) ?_
 conv=>whnf
 refine .inl (hc.mono ?_)
 rintro r rfl
 conv=>whnf
 rfl
theorem eqSchema_pure (a:Sc) (ha:a.Sm):Pure Tryd.prog 8 [.agg a.cells,.agg a.cells] (·=.bool true):=by
 obtain ⟨_,hn,hx⟩:=ha
 have hc:=eqRuleS_pure a.rules hn hx
 obtain ⟨root,rules⟩:=a
 simp only [Sc.cells] at hc ⊢
 generalize rws Ru.cells rules=rows at *
 refine pure_of_awp good Tryd.func8 rfl (by kernel_rfl) (by decide) ?_
 conv=>whnf
 rw [eqS_refl]
 skip
 all_goals (conv=>whnf)
 all_goals (refine .inl (hc.mono ?_))
 all_goals (rintro r rfl)
 all_goals (conv=>whnf)
end Go.Cod
set_option linter.all false
namespace Go.Cod
variable [Adr]
open Go Go.Proofs
set_option maxRecDepth 10000
def hasR (rs:List Ru) (k:List UInt8):Bool:=rs.any fun r=>decide (r.kind=k)
def idxR (k:List UInt8):List Ru→Int→Int
 | [],_=>-1
 | r::rs,n=>if r.kind=k then n else idxR k rs (n+1)
def textW:List UInt8:=[116,101,120,116]
def itemB (rs:List Ru) (x:It):Bool:=hasR rs x.kind&&!(x.many&&x.may)
def ruleB (rs:List Ru) (r:Ru):Bool:=nameL r.kind&&decide (r.kind≠textW)&&decide (r.kids.length≤4)&&r.kids.all (itemB rs)
def okS (s:Sc):Bool:=decide (s.rules.length≤6)&&hasR s.rules s.root&&s.rules.all (ruleB s.rules)&&decide ((s.rules.map (·.kind)).Nodup)
theorem idxR_drop (k:List UInt8) (rs:List Ru) (i:Nat) (h:i < rs.length) (n:Int):idxR k (rs.drop i) n=if rs[i].kind=k then n else idxR k (rs.drop (i+1)) (n+1):=by
 rw [List.drop_eq_getElem_cons h]; rfl
theorem idxR_has (k:List UInt8):∀ (rs:List Ru) (n:Int),0≤n→(idxR k rs n < 0↔hasR rs k=false)∧(hasR rs k=true→n≤idxR k rs n)
 | [],n,h=>by simp [idxR,hasR]
 | r::rs,n,h=>by
   have ih:=idxR_has k rs (n+1) (by omega)
   have he:hasR (r::rs) k=(decide (r.kind=k)||hasR rs k):=rfl
   simp only [idxR]
   rw [he]
   by_cases hk:r.kind=k
   · simp [hk]; omega
   · rw [if_neg hk]
     simp only [hk,decide_false,Bool.false_or]
     exact ⟨ih.1,fun h=>by have:=ih.2 h; omega⟩
theorem idxR_neg (k:List UInt8) (rs:List Ru):idxR k rs 0 < 0↔hasR rs k=false:=(idxR_has k rs 0 (by omega)).1
theorem hasR_get {rs:List Ru} {i:Nat} (h:i < rs.length):hasR rs rs[i].kind=true:=by
 unfold hasR
 rw [List.any_eq_true]
 exact ⟨rs[i],List.getElem_mem _,by simp⟩
theorem hasR_iff (rs:List Ru) (k:List UInt8):hasR rs k=true↔k∈rs.map (·.kind):=by
 unfold hasR
 rw [List.any_eq_true]
 simp only [List.mem_map,decide_eq_true_eq]
theorem idxR_at (k:List UInt8):∀ (rs:List Ru) (n:Int),0≤n→hasR rs k=true→∃ (i:Nat) (h:i < rs.length),idxR k rs n=n+i∧rs[i].kind=k∧hasR (rs.take i) k=false
 | [],n,_,h=>by simp [hasR] at h
 | r::rs,n,hn,h=>by
   have he:hasR (r::rs) k=(decide (r.kind=k)||hasR rs k):=rfl
   rw [he] at h
   by_cases hk:r.kind=k
   · exact ⟨0,by simp,by simp [idxR,hk],by simpa using hk,rfl⟩
   · simp only [hk,decide_false,Bool.false_or] at h
     obtain ⟨i,hi,h1,h2,h3⟩:=idxR_at k rs (n+1) (by omega) h
     refine ⟨i+1,by simpa using hi,?_,by simpa using h2,?_⟩
     · simp only [idxR,if_neg hk,h1]; omega
     · have:hasR ((r::rs).take (i+1)) k=(decide (r.kind=k)||hasR (rs.take i) k):=rfl
       rw [this,h3]; simp [hk]
theorem idxR_first (rs:List Ru) (i:Nat) (h:i < rs.length):idxR rs[i].kind rs 0=i↔hasR (rs.take i) rs[i].kind=false:=by
 obtain ⟨j,hj,h1,h2,h3⟩:=idxR_at rs[i].kind rs 0 (by omega) (hasR_get h)
 rw [h1]
 constructor
 · intro e
   obtain rfl:j=i:=by omega
   exact h3
 · intro e
   rcases Nat.lt_trichotomy j i with hlt | rfl | hlt
   · exfalso
     have:hasR (rs.take i) rs[i].kind=true:=by
      unfold hasR
      rw [List.any_eq_true]
      exact ⟨rs[j],List.mem_take_iff_getElem.2 ⟨j,by omega,rfl⟩,by simpa using h2⟩
     rw [e] at this; cases this
   · omega
   · exfalso
     have:hasR (rs.take j) rs[i].kind=true:=by
      unfold hasR
      rw [List.any_eq_true]
      exact ⟨rs[i],List.mem_take_iff_getElem.2 ⟨i,by omega,rfl⟩,by simp⟩
     rw [h3] at this; cases this
theorem kinds_take {rs:List Ru} {i:Nat} (h:i < rs.length):((rs.take (i+1)).map (·.kind)).Nodup↔((rs.take i).map (·.kind)).Nodup∧hasR (rs.take i) rs[i].kind=false:=by
 rw [List.take_succ_eq_append_getElem h,List.map_append,List.nodup_append]
 simp only [List.map_cons,List.map_nil,List.nodup_cons,List.not_mem_nil,not_false_eq_true,List.nodup_nil,and_self,List.mem_singleton,forall_eq,true_and]
 rw [← Bool.not_eq_true,hasR_iff]
 exact ⟨fun ⟨a,b⟩=>⟨a,fun h=>b _ h rfl⟩,fun ⟨a,b⟩=>⟨a,fun x hx e=>b (e ▸ hx)⟩⟩
theorem kinds_no {rs:List Ru} {i:Nat} (h:i < rs.length) (hh:hasR (rs.take i) rs[i].kind=true):¬ (rs.map (·.kind)).Nodup:=fun hd=>by
 have h3:((rs.take (i+1)).map (·.kind)).Nodup:=hd.sublist ((List.take_sublist _ _).map _)
 rw [(kinds_take h).1 h3 |>.2] at hh; cases hh
theorem all_take {α:Type} {p:α→Bool} {s:List α} {i:Nat} (h:i < s.length):(s.take (i+1)).all p=((s.take i).all p&&p s[i]):=by
 rw [List.take_succ_eq_append_getElem h,List.all_append]; simp
theorem all_no {α:Type} {p:α→Bool} {s:List α} {i:Nat} (h:i < s.length) (hp:p s[i]=false):s.all p=false:=by
 rw [List.all_eq_false]; exact ⟨s[i],List.getElem_mem _,by simp [hp]⟩
set_option maxHeartbeats 4000000 in
theorem l3Rule_pure (s:Sc) (k:List UInt8) (hn:s.rules.length≤1048576):Pure Tryd.prog 20 [.agg s.cells,.str k] (·=.int .i64 (idxR k s.rules 0)):=by
 have hd:idxR k s.rules 0=idxR k (s.rules.drop 0) ((0:Nat):Int):=rfl
 generalize idxR k s.rules 0=res at *
 obtain ⟨root,rules⟩:=s
 simp only [Sc.cells] at hn hd ⊢
 have hlr:=rws_len Ru.cells rules
 have hgr:=rws_get Ru.cells rules
 generalize rws Ru.cells rules=rows at *
 refine pure_of_awp good Tryd.func20 rfl (by kernel_rfl) (by decide) ?_
 conv=>whnf
 refine loop_intro (fun n fr st=>st=[⟨[[.str root,.sl rows]],2,true,true,true,.cell⟩]∧∃ i:Nat,n+i=rules.length∧res=idxR k (rules.drop i) i∧Holds fr [(1,.str k),(2,.ptr 0 0 0),(5,.int .i64 i)]) rules.length ⟨rfl,0,rfl,hd,rfl,rfl,rfl,trivial⟩ ?_
 rintro n fr st ⟨rfl,i,hi,hr,hh⟩
 obtain ⟨fr,rfl⟩:=hh.split
 clear hh
 conv=>whnf
 by_cases hlt:i < rules.length
 · rw [hlr,ltB_t (by omega)]
   conv=>whnf
   have hg:=hgr i hlt
   have hs:=idxR_drop k rules i hlt i
   generalize rules[i]=x at *
   obtain ⟨kind,text,kids⟩:=x
   simp only [Ru.cells] at hg hs
   refine ⟨by omega,rows,_,3,rfl,hg,rfl,rfl,?_⟩
   conv=>whnf
   by_cases hk:kind=k
   · rw [eqS_t hk]
     conv=>whnf
     rw [hr,hs,if_pos hk]
   · rw [eqS_f hk]
     conv=>whnf
     refine ⟨n - 1,by omega,rfl,i+1,by omega,?_,rfl,rfl,?_,trivial⟩
     · rw [hr,hs,if_neg hk]; rfl
     · show V.int .i64 (IntKind.i64.wrap (i+1))=_
       rw [wrap64 (by omega) (by omega)]; simp
 · rw [hlr,ltB_f (by omega)]
   conv=>whnf
   rw [hr,List.drop_of_length_le (by omega)]
   rfl
end Go.Cod
set_option linter.all false
namespace Go.Cod
variable [Adr]
open Go Go.Proofs
set_option maxRecDepth 10000
theorem itemB_def (rs:List Ru) (x:It):itemB rs x=(hasR rs x.kind&&!(x.many&&x.may)):=rfl
theorem okS_def (s:Sc):okS s=(decide (s.rules.length≤6)&&hasR s.rules s.root&&s.rules.all (ruleB s.rules)&&decide ((s.rules.map (·.kind)).Nodup)):=rfl
set_option maxHeartbeats 8000000 in
theorem specSchemaOk_pure (s:Sc) (hs:s.Sm):Pure Tryd.prog 10 [.agg s.cells] (·=.bool (okS s)):=by
 have f1:=fun k=>l3Rule_pure s k hs.2.1
 have hO:=okS_def s
 generalize okS s=res at *
 obtain ⟨root,rules⟩:=s
 obtain ⟨_,hn,hx⟩:=hs
 simp only [Sc.cells] at f1 hn hx hO ⊢
 have hlr:=rws_len Ru.cells rules
 have hgr:=rws_get Ru.cells rules
 have hneg:=fun k=>idxR_neg k rules
 have hfst:=idxR_first rules
 have hkt:=fun i (h:i < rules.length)=>kinds_take h
 have hkn:=fun i (h:i < rules.length)=>kinds_no h
 generalize rws Ru.cells rules=rows at *
 refine pure_of_awp good Tryd.func10 rfl (by kernel_rfl) (by decide) ?_
 conv=>whnf
 refine .inl ((l1In_pure _ _ _).mono ?_)
 rintro r rfl
 rw [hlr]
 by_cases hA:1≤(rules.length:Int)∧(rules.length:Int)≤6
 case neg =>
  rw [decide_eq_false hA]
  conv=>whnf
  rw [hO]
  by_cases h6:rules.length≤6
  · have:rules=[]:=List.length_eq_zero_iff.1 (by omega)
    subst this
    rfl
  · rw [decide_eq_false h6]; rfl
 rw [decide_eq_true hA]
 conv=>whnf
 refine .inl ((f1 root).mono ?_)
 rintro r rfl
 by_cases hB:idxR root rules 0 < 0
 · have hb:=(hneg root).1 hB
   generalize idxR root rules 0=v at *
   conv=>whnf
   rw [ltB_t hB]
   conv=>whnf
   rw [hO,hb]; simp
 have hb:hasR rules root=true:=by
  cases h:hasR rules root with
  | true=>rfl
  | false=>exact absurd ((hneg root).2 h) hB
 generalize idxR root rules 0=v at *
 conv=>whnf
 rw [ltB_f (by omega)]
 rw [hb,decide_eq_true (show rules.length≤6 by omega),Bool.true_and,Bool.true_and] at hO
 conv=>whnf
 refine loop_drop (fun n fr st=>∃ i:Nat,n+i=rules.length∧(rules.take i).all (ruleB rules)=true∧((rules.take i).map (·.kind)).Nodup∧st=[⟨[[.str root,.sl rows]],2,true,true,true,.cell⟩]∧Holds fr [(1,.ptr 0 0 0),(3,.int .i64 i)]) rules.length none ⟨0,rfl,rfl,by simp,rfl,rfl,rfl,trivial⟩ ?_
 rintro n fr st ⟨i,hi,hal,hnd,rfl,hh⟩
 obtain ⟨fr,rfl⟩:=hh.split
 clear hh
 conv=>whnf
 by_cases hlt:i < rules.length
 · rw [hlr,ltB_t (by omega)]
   conv=>whnf
   have hg:=hgr i hlt
   have hxi:=hx rules[i] (List.getElem_mem _)
   have hat:=all_take (p:=ruleB rules) hlt
   have hano:=all_no (p:=ruleB rules) hlt
   have hf:=hfst i hlt
   have hk1:=hkt i hlt
   have hk2:=hkn i hlt
   have hrd:ruleB rules rules[i]=(nameL rules[i].kind&&decide (rules[i].kind≠textW)&&decide (rules[i].kids.length≤4)&&rules[i].kids.all (itemB rules)):=rfl
   generalize rules[i]=x at *
   obtain ⟨kind,text,kids⟩:=x
   obtain ⟨g1,g2,g3⟩:=hxi
   simp only [Ru.cells] at hg hat hano hf hk1 hk2 hrd g1 g2 g3
   have hlk:=rws_len It.cells kids
   have hgk:=rws_get It.cells kids
   generalize rws It.cells kids=krows at *
   refine ⟨by omega,rows,_,3,rfl,hg,rfl,rfl,?_⟩
   conv=>whnf
   refine .inl ((l2Name_pure kind (by omega)).mono ?_)
   rintro r rfl
   cases hN:nameL kind with
   | false =>
     conv=>whnf
     rw [hO,hano (by rw [hrd,hN]; rfl)]; rfl
   | true =>
     conv=>whnf
     by_cases hT:kind=[116,101,120,116]
     · rw [eqS_t hT]
       conv=>whnf
       rw [hO,hano (by rw [hrd,hN,decide_eq_false (by simp [textW,hT])]; rfl)]; rfl
     rw [eqS_f hT]
     rw [hN,decide_eq_true (show kind≠textW from hT),Bool.true_and,Bool.true_and] at hrd
     conv=>whnf
     refine .inl ((f1 kind).mono ?_)
     rintro r rfl
     by_cases hF:idxR kind rules 0=i
     case neg =>
      have hh:hasR (rules.take i) kind=true:=by
       cases h:hasR (rules.take i) kind with
       | true=>rfl
       | false=>exact absurd (hf.2 h) hF
      generalize idxR kind rules 0=v at *
      conv=>whnf
      rw [eqB_f hF]
      conv=>whnf
      rw [hO,decide_eq_false (hk2 hh)]; simp
     have hh:=hf.1 hF
     generalize idxR kind rules 0=v at *
     subst hF
     conv=>whnf
     rw [eqB_refl]
     conv=>whnf
     rw [hlk]
     by_cases hK:(kids.length:Int)≤4
     case neg =>
      rw [ltB_t (by omega)]
      conv=>whnf
      rw [hO,hano (by rw [hrd,decide_eq_false (by omega)]; rfl)]; rfl
     rw [ltB_f (by omega)]
     rw [decide_eq_true (show kids.length≤4 by omega),Bool.true_and] at hrd
     conv=>whnf
     refine loop_intro (fun n fr st=>∃ j:Nat,n+j=kids.length∧(kids.take j).all (itemB rules)=true∧st=[⟨[[.str root,.sl rows]],2,true,true,true,.cell⟩,⟨[[.str kind,.bool text,.sl krows]],3,true,true,true,.cell⟩]∧Holds fr [(1,.ptr 0 0 0),(3,.int .i64 i),(4,.ptr 1 0 0),(5,.int .i64 j)]) kids.length ⟨0,rfl,rfl,rfl,rfl,rfl,rfl,rfl,trivial⟩ ?_
     rintro n2 fr st ⟨j,hj,hja,rfl,hh2⟩
     obtain ⟨fr,rfl⟩:=hh2.split
     clear hh2
     conv=>whnf
     by_cases hjt:j < kids.length
     · rw [hlk,ltB_t (by omega)]
       conv=>whnf
       have hgj:=hgk j hjt
       have hjs:=all_take (p:=itemB rules) hjt
       have hjno:=all_no (p:=itemB rules) hjt
       have hjd:=itemB_def rules kids[j]
       generalize kids[j]=y at *
       obtain ⟨yk,ym,yy⟩:=y
       simp only [It.cells] at hgj hjd
       repeat (first
        | (refine ⟨by omega,krows,_,3,rfl,hgj,rfl,rfl,?_⟩
           conv=>whnf)
        | (refine ⟨_,.inl (f1 yk),?_⟩
           conv=>whnf))
       by_cases hY:idxR yk rules 0 < 0
       · have hy0:=(hneg yk).1 hY
         generalize idxR yk rules 0=v at *
         rw [ltB_t hY]
         conv=>whnf
         rw [hO,hano (by rw [hrd,hjno (by rw [hjd,hy0]; rfl)])]; rfl
       have hy1:hasR rules yk=true:=by
        cases h:hasR rules yk with
        | true=>rfl
        | false=>exact absurd ((hneg yk).2 h) hY
       generalize idxR yk rules 0=v at *
       rw [ltB_f (by omega)]
       rw [hy1,Bool.true_and] at hjd
       conv=>whnf
       refine ⟨by omega,krows,_,3,rfl,hgj,rfl,rfl,?_⟩
       cases ym with
       | false =>
         conv=>whnf
         refine ⟨n2 - 1,by omega,j+1,by omega,by rw [hjs,hja,hjd]; rfl,rfl,rfl,rfl,rfl,?_,trivial⟩
         show V.int .i64 (IntKind.i64.wrap (j+1))=_
         rw [wrap64 (by omega) (by omega)]; simp
       | true =>
         conv=>whnf
         refine ⟨by omega,krows,_,3,rfl,hgj,rfl,rfl,?_⟩
         cases yy with
         | true =>
           conv=>whnf
           rw [hO,hano (by rw [hrd,hjno (by rw [hjd]; rfl)])]; rfl
         | false =>
           conv=>whnf
           refine ⟨n2 - 1,by omega,j+1,by omega,by rw [hjs,hja,hjd]; rfl,rfl,rfl,rfl,rfl,?_,trivial⟩
           show V.int .i64 (IntKind.i64.wrap (j+1))=_
           rw [wrap64 (by omega) (by omega)]; simp
     · rw [hlk,ltB_f (by omega)]
       conv=>whnf
       rw [List.take_of_length_le (by omega)] at hja
       rw [hja] at hrd
       refine ⟨n - 1,by omega,some [0],i+1,by omega,?_,hk1.2 ⟨hnd,hh⟩,rfl,rfl,?_,trivial⟩
       · rw [hat,hal,hrd]; rfl
       · show V.int .i64 (IntKind.i64.wrap (i+1))=_
         rw [wrap64 (by omega) (by omega)]; simp
 · rw [hlr,ltB_f (by omega)]
   conv=>whnf
   rw [List.take_of_length_le (by omega)] at hal hnd
   rw [hO,hal,decide_eq_true hnd]; rfl
end Go.Cod
set_option linter.all false
namespace Go.Cod
variable [Adr]
open Go Go.Proofs
set_option maxRecDepth 10000
def noRule:List V:=[.str [],.bool false,.sl []]
def ruleOf (rs:List Ru) (k:List UInt8):List V:=match rs.find? fun r=>decide (r.kind=k) with
 | some r=>r.cells
 | none=>noRule
def ruleErr (rs:List Ru) (k:List UInt8):V:=if hasR rs k=true then nilErr else errV 2
theorem find_drop (rs:List Ru) (k:List UInt8) (i:Nat) (h:i < rs.length):ruleOf (rs.drop i) k=if rs[i].kind=k then rs[i].cells else ruleOf (rs.drop (i+1)) k:=by
 rw [List.drop_eq_getElem_cons h]
 unfold ruleOf
 by_cases hk:rs[i].kind=k
 · simp [List.find?,hk]
 · simp [List.find?,hk]
theorem hasR_drop (rs:List Ru) (k:List UInt8) (i:Nat) (h:i < rs.length):hasR (rs.drop i) k=(decide (rs[i].kind=k)||hasR (rs.drop (i+1)) k):=by
 rw [List.drop_eq_getElem_cons h]; rfl
set_option maxHeartbeats 4000000 in
theorem schemaRule_pure (rs:List Ru) (k:List UInt8) (hn:rs.length≤1048576):Pure Tryd.prog 38 [.sl (rws Ru.cells rs),.str k] (·=.tup [.agg (ruleOf rs k),ruleErr rs k]):=by
 have hlr:=rws_len Ru.cells rs
 have hgr:=rws_get Ru.cells rs
 have hd:ruleOf rs k=ruleOf (rs.drop 0) k:=rfl
 have hd2:hasR rs k=hasR (rs.drop 0) k:=rfl
 have he:ruleErr rs k=if hasR rs k=true then nilErr else errV 2:=rfl
 generalize ruleErr rs k=er at *
 generalize ruleOf rs k=res at *
 generalize hasR rs k=hb at *
 generalize rws Ru.cells rs=rows at *
 refine pure_of_awp good Tryd.func38 rfl (by kernel_rfl) (by decide) ?_
 conv=>whnf
 refine loop_drop (fun n fr st=>∃ i:Nat,n+i=rs.length∧res=ruleOf (rs.drop i) k∧hb=hasR (rs.drop i) k∧st=[⟨[[.str [],.bool false,.nils]],3,true,true,true,.cell⟩]∧Holds fr [(1,.str k),(4,.ptr 0 0 0),(5,nilErr),(8,.sl rows),(9,.int .i64 rs.length),(10,.int .i64 i)]) rs.length none ⟨0,rfl,hd,hd2,rfl,rfl,rfl,rfl,rfl,by rw [← hlr]; rfl,rfl,trivial⟩ ?_
 rintro n fr st ⟨i,hi,hr,hr2,rfl,hh⟩
 obtain ⟨fr,rfl⟩:=hh.split
 clear hh
 conv=>whnf
 by_cases hlt:i < rs.length
 · rw [ltB_t (by omega)]
   conv=>whnf
   have hg:=hgr i hlt
   have hs:=find_drop rs k i hlt
   have hs2:=hasR_drop rs k i hlt
   generalize rs[i]=x at *
   obtain ⟨kind,text,kids⟩:=x
   simp only [Ru.cells] at hg hs hs2
   refine ⟨by omega,rows,_,3,rfl,hg,rfl,rfl,?_⟩
   conv=>whnf
   by_cases hk:kind=k
   · rw [eqS_t hk]
     conv=>whnf
     rw [hr,hs,if_pos hk]
     rw [hr2,hs2,decide_eq_true hk] at he
     rw [he]; rfl
   · rw [eqS_f hk]
     conv=>whnf
     refine ⟨n - 1,by omega,some [0],i+1,by omega,?_,?_,rfl,rfl,rfl,rfl,rfl,rfl,?_,trivial⟩
     · rw [hr,hs,if_neg hk]
     · rw [hr2,hs2,decide_eq_false hk]; rfl
     · show V.int .i64 (IntKind.i64.wrap (i+1))=_
       rw [wrap64 (by omega) (by omega)]; simp
 · rw [ltB_f (by omega)]
   rw [List.drop_of_length_le (by omega)] at hr hr2
   rw [hr2] at he
   have hr:res=noRule:=hr
   have he:er=errV 2:=he
   conv=>whnf
   refine And.intro (by (conv=>whnf); first | done | rfl) ?_
   conv=>whnf
   rw [hr,he]; rfl
end Go.Cod
set_option linter.all false
namespace Go.Cod
variable [Adr]
open Go Go.Proofs
set_option maxRecDepth 10000
theorem ruleOf_cells (rs:List Ru) (k:List UInt8):∃ r:Ru,ruleOf rs k=r.cells:=by
 unfold ruleOf
 split
 · exact ⟨_,rfl⟩
 · exact ⟨⟨[],false,[]⟩,rfl⟩
theorem schemaHas_pure (rs:List Ru) (k:List UInt8) (hn:rs.length≤1048576):Pure Tryd.prog 30 [.sl (rws Ru.cells rs),.str k] (·=.bool (hasR rs k)):=by
 have f1:=schemaRule_pure rs k hn
 have he:ruleErr rs k=if hasR rs k=true then nilErr else errV 2:=rfl
 obtain ⟨r0,hr0⟩:=ruleOf_cells rs k
 rw [hr0] at f1
 generalize ruleErr rs k=er at *
 generalize hasR rs k=hb at *
 generalize rws Ru.cells rs=rows at *
 obtain ⟨a,b,c⟩:=r0
 simp only [Ru.cells] at f1
 refine pure_of_awp good Tryd.func30 rfl (by kernel_rfl) (by decide) ?_
 conv=>whnf
 refine .inl (f1.mono ?_)
 rintro r rfl
 cases hb with
 | true =>
   rw [he]
   conv=>whnf
   refine .inl ((errorsIs_nil 2).mono ?_)
   rintro r rfl
   conv=>whnf
   rfl
 | false =>
   rw [he]
   conv=>whnf
   refine .inl ((errorsIs_same 2).mono ?_)
   rintro r rfl
   conv=>whnf
   rfl
def isErr (x:V):Prop:=∃ a:Addr,x=.raw (.iface 96 (.pointer (some a)))
def faultIs (b:Bool) (x:V):Prop:=match b with
 | true=>x=nilErr
 | false=>isErr x
set_option maxHeartbeats 8000000 in
theorem itemsFault_pure (s:Sc) (hs:s.Sm) (xs:List It) (hx:xs.length≤1048576):Pure Tryd.prog 31 [.agg s.cells,.sl (rws It.cells xs)] (faultIs (decide (xs.length≤4)&&xs.all (itemB s.rules))):=by
 have f1:=fun k=>schemaHas_pure s.rules k hs.2.1
 have hd:∀ x:It,itemB s.rules x=(hasR s.rules x.kind&&!(x.many&&x.may)):=fun x=>rfl
 obtain ⟨root,rules⟩:=s
 simp only [Sc.cells] at f1 hd ⊢
 generalize rws Ru.cells rules=rrows at *
 generalize itemB rules=p at *
 have hF:faultIs (decide (xs.length≤4)&&xs.all p)=fun x=>faultIs (decide (xs.length≤4)&&xs.all p) x:=rfl
 generalize hres:(decide (xs.length≤4)&&xs.all p)=res at *
 have hlr:=rws_len It.cells xs
 have hgr:=rws_get It.cells xs
 generalize rws It.cells xs=rows at *
 refine pure_of_awp good Tryd.func31 rfl (by kernel_rfl) (by decide) ?_
 conv=>whnf
 rw [hlr]
 by_cases a1:(4:Int) < (xs.length:Int)
 · rw [ltB_t a1]
   rw [decide_eq_false (by omega),Bool.false_and] at hres
   subst hres
   conv=>whnf
   exact ⟨_,rfl⟩
 rw [ltB_f (by omega)]
 rw [decide_eq_true (by omega),Bool.true_and] at hres
 conv=>whnf
 refine loop_drop (fun n fr st=>∃ i:Nat,n+i=xs.length∧(xs.take i).all p=true∧st=[⟨[[.str root,.sl rrows]],2,true,true,true,.cell⟩]∧Holds fr [(2,.ptr 0 0 0),(11,.sl rows),(12,.int .i64 xs.length),(13,.int .i64 i)]) xs.length none ⟨0,rfl,rfl,rfl,rfl,rfl,by rw [← hlr]; rfl,rfl,trivial⟩ ?_
 rintro n fr st ⟨i,hi,hal,rfl,hh⟩
 obtain ⟨fr,rfl⟩:=hh.split
 clear hh
 conv=>whnf
 by_cases hlt:i < xs.length
 · rw [ltB_t (by omega)]
   conv=>whnf
   have hg:=hgr i hlt
   have hat:=all_take (p:=p) hlt
   have hano:=all_no (p:=p) hlt
   have hx:=hd xs[i]
   generalize xs[i]=y at *
   obtain ⟨yk,ym,yy⟩:=y
   simp only [It.cells] at hg hx
   refine ⟨by omega,rows,_,3,rfl,hg,rfl,rfl,?_⟩
   have h2:∀ b c,(b&&c)=true∨(b&&c)=false:=fun b c=>by cases b <;> cases c <;> simp
   have key:(∀ fr0:Nat→V,True):=fun _=>trivial
   cases ym <;> cases yy
   case true.true =>
    conv=>whnf
    rw [← hres,hano (by rw [hx]; cases hasR rules yk <;> rfl)]
    exact ⟨_,rfl⟩
   all_goals
    conv=>whnf
    refine .inl ((f1 yk).mono ?_)
    rintro r rfl
    generalize hasR rules yk=hb at *
    cases hb with
    | false =>
      conv=>whnf
      rw [← hres,hano (by rw [hx]; rfl)]
      exact ⟨_,rfl⟩
    | true =>
      conv=>whnf
      refine ⟨n - 1,by omega,some [0],i+1,by omega,by rw [hat,hal,hx]; rfl,rfl,rfl,rfl,rfl,?_,trivial⟩
      show V.int .i64 (IntKind.i64.wrap (i+1))=_
      rw [wrap64 (by omega) (by omega)]; simp
 · rw [ltB_f (by omega)]
   rw [List.take_of_length_le (by omega)] at hal
   rw [hal] at hres
   subst hres
   conv=>whnf
set_option maxHeartbeats 8000000 in
theorem schemaFault_pure (s:Sc) (hs:s.Sm):Pure Tryd.prog 23 [.agg s.cells] (faultIs (okS s)):=by
 have f1:=fun k=>schemaHas_pure s.rules k hs.2.1
 have f1t:=fun i k=>schemaHas_pure (s.rules.take i) k (by rw [List.length_take]; have:=hs.2.1; omega)
 have f2:=itemsFault_pure s hs
 have hO:=okS_def s
 generalize okS s=res at *
 obtain ⟨root,rules⟩:=s
 obtain ⟨_,hn,hx⟩:=hs
 simp only [Sc.cells] at f1 f1t f2 hn hx hO ⊢
 have hlr:=rws_len Ru.cells rules
 have hgr:=rws_get Ru.cells rules
 have htk:=rws_take Ru.cells rules
 have hwid:=rws_wid Ru.cells Ru.len rules
 have hkt:=fun i (h:i < rules.length)=>kinds_take h
 have hkn:=fun i (h:i < rules.length)=>kinds_no h
 simp only [← htk] at f1t
 generalize rws Ru.cells rules=rows at *
 refine pure_of_awp good Tryd.func23 rfl (by kernel_rfl) (by decide) ?_
 conv=>whnf
 rw [hlr]
 by_cases a1:(6:Int) < (rules.length:Int)
 · rw [ltB_t a1]
   rw [decide_eq_false (by omega)] at hO
   conv=>whnf
   rw [hO]
   exact ⟨_,rfl⟩
 rw [ltB_f (by omega)]
 rw [decide_eq_true (by omega),Bool.true_and] at hO
 conv=>whnf
 refine loop_drop (fun n fr st=>∃ i:Nat,n+i=rules.length∧(rules.take i).all (ruleB rules)=true∧((rules.take i).map (·.kind)).Nodup∧st=[⟨[[.str root,.sl rows]],2,true,true,true,.cell⟩]∧Holds fr [(1,.ptr 0 0 0),(12,.sl rows),(13,.int .i64 rules.length),(14,.int .i64 i)]) rules.length none ⟨0,rfl,rfl,by simp,rfl,rfl,rfl,by rw [← hlr]; rfl,rfl,trivial⟩ ?_
 rintro n fr st ⟨i,hi,hal,hnd,rfl,hh⟩
 obtain ⟨fr,rfl⟩:=hh.split
 clear hh
 conv=>whnf
 by_cases hlt:i < rules.length
 · rw [ltB_t (by omega)]
   conv=>whnf
   have hg:=hgr i hlt
   have hxi:=hx rules[i] (List.getElem_mem _)
   have hat:=all_take (p:=ruleB rules) hlt
   have hano:=all_no (p:=ruleB rules) hlt
   have hk1:=hkt i hlt
   have hk2:=hkn i hlt
   have hrd:ruleB rules rules[i]=(nameL rules[i].kind&&decide (rules[i].kind≠textW)&&decide (rules[i].kids.length≤4)&&rules[i].kids.all (itemB rules)):=rfl
   generalize rules[i]=x at *
   obtain ⟨kind,text,kids⟩:=x
   obtain ⟨g1,g2,g3⟩:=hxi
   simp only [Ru.cells] at hg hat hano hk1 hk2 hrd g1 g2 g3
   have f2:=f2 kids (by omega)
   have f4:=f1t i kind
   generalize rws It.cells kids=krows at *
   refine ⟨by omega,rows,_,3,rfl,hg,rfl,rfl,?_⟩
   conv=>whnf
   refine ⟨_,.inl (nameOk_pure kind (by omega)),?_⟩
   cases hN:nameL kind with
   | false =>
     conv=>whnf
     rw [hO,hano (by rw [hrd,hN]; rfl),Bool.and_false,Bool.false_and]
     exact ⟨_,rfl⟩
   | true =>
     conv=>whnf
     by_cases hT:kind=[116,101,120,116]
     · rw [eqS_t hT]
       conv=>whnf
       rw [hO,hano (by rw [hrd,hN,decide_eq_false (by simp [textW,hT])]; rfl),Bool.and_false,Bool.false_and]
       exact ⟨_,rfl⟩
     rw [eqS_f hT]
     rw [hN,decide_eq_true (show kind≠textW from hT),Bool.true_and,Bool.true_and] at hrd
     conv=>whnf
     refine ⟨hwid,?_⟩
     conv=>whnf
     refine ⟨by omega,by omega,?_⟩
     conv=>whnf
     refine ⟨rfl,?_⟩
     conv=>whnf
     refine ⟨_,.inl f4,?_⟩
     generalize hasR (rules.take i) kind=hb at *
     cases hb with
     | true =>
       conv=>whnf
       rw [hO,decide_eq_false (hk2 rfl),Bool.and_false]
       exact ⟨_,rfl⟩
     | false =>
       conv=>whnf
       refine .inl (f2.mono ?_)
       intro r hr
       generalize hbb:(decide (kids.length≤4)&&kids.all (itemB rules))=bb at *
       cases bb with
       | true =>
         obtain rfl:r=nilErr:=hr
         conv=>whnf
         refine ⟨n - 1,by omega,some [0],i+1,by omega,by rw [hat,hal,hrd]; rfl,hk1.2 ⟨hnd,rfl⟩,rfl,rfl,rfl,rfl,?_,trivial⟩
         show V.int .i64 (IntKind.i64.wrap (i+1))=_
         rw [wrap64 (by omega) (by omega)]; simp
       | false =>
         obtain ⟨a,rfl⟩:isErr r:=hr
         conv=>whnf
         rw [hO,hano (by rw [hrd]),Bool.and_false,Bool.false_and]
         exact ⟨_,rfl⟩
 · rw [ltB_f (by omega)]
   rw [List.take_of_length_le (by omega)] at hal hnd
   rw [hal,decide_eq_true hnd,Bool.and_true,Bool.and_true] at hO
   have f1:=f1 root
   generalize hasR rules root=hb at *
   subst hO
   conv=>whnf
   refine .inl (f1.mono ?_)
   rintro r rfl
   cases res with
   | false =>
     conv=>whnf
     exact ⟨_,rfl⟩
   | true =>
     conv=>whnf
theorem implSchemaOk_pure (s:Sc) (hs:s.Sm):Pure Tryd.prog 13 [.agg s.cells] (·=.bool (okS s)):=by
 have f1:=schemaFault_pure s hs
 generalize okS s=res at *
 obtain ⟨root,rules⟩:=s
 simp only [Sc.cells] at f1 ⊢
 generalize rws Ru.cells rules=rows at *
 refine pure_of_awp good Tryd.func13 rfl (by kernel_rfl) (by decide) ?_
 conv=>whnf
 refine .inl (f1.mono ?_)
 intro r hr
 cases res with
 | true =>
   obtain rfl:r=nilErr:=hr
   conv=>whnf
 | false =>
   obtain ⟨a,rfl⟩:isErr r:=hr
   conv=>whnf
end Go.Cod
set_option linter.all false
namespace Go.Cod
variable [Adr]
open Go Go.Proofs
set_option maxRecDepth 10000
def itW (x:It):List UInt8:=x.kind++((if x.many then [42] else [])++(if x.may then [63] else []))
def itsW (xs:List It):List UInt8:=xs.flatMap fun x=>[32]++itW x
def ruW (r:Ru):List UInt8:=r.kind++((if r.text then [32,116,101,120,116] else [])++([58]++(itsW r.kids++[10])))
def scW (s:Sc):List UInt8:=[114,111,111,116,32]++(s.root++([10]++s.rules.flatMap ruW))
theorem schemaItemWord_pure (x:It) (h:¬ (x.many=true∧x.may=true)) (hk:x.kind.length≤1048576):Pure Tryd.prog 25 [.agg x.cells] (·=.str (itW x)):=by
 obtain ⟨k,m,y⟩:=x
 refine pure_of_awp good Tryd.func25 rfl (by kernel_rfl) (by decide) ?_
 simp only at h hk
 cases m <;> cases y
 · conv=>whnf
   simp [itW]
 · conv=>whnf
   refine ⟨by show k.length+1≤_; omega,?_⟩
   conv=>whnf
   simp [itW]
 · conv=>whnf
   refine ⟨by show k.length+1≤_; omega,?_⟩
   conv=>whnf
   simp [itW]
 · exact absurd ⟨rfl,rfl⟩ h
theorem itW_len (x:It) (hk:x.kind.length≤1048576):(itW x).length≤1048578:=by
 unfold itW
 simp only [List.length_append]
 split <;> split <;> simp <;> omega
theorem flatMap_take {α:Type} (f:α→List UInt8) (xs:List α) (i:Nat) (h:i < xs.length):(xs.take (i+1)).flatMap f=(xs.take i).flatMap f++f xs[i]:=by
 rw [List.take_succ_eq_append_getElem h,List.flatMap_append]
 simp
theorem schemaRuleLine_pure (r:Ru) (hl:r.kids.length≤1048576) (h:∀ x∈r.kids,¬ (x.many=true∧x.may=true)∧x.kind.length≤1048576) (hk:r.kind.length≤1048576):Pure Tryd.prog 15 [.agg r.cells] (·=.str (ruW r)):=by
 have hc:=fun x hx=>schemaItemWord_pure x (h x hx).1 (h x hx).2
 have hil:=fun x hx=>itW_len x (h x hx).2
 obtain ⟨k,t,xs⟩:=r
 simp only at hl h hc hil hk
 have hlr:=rws_len It.cells xs
 have hgr:=rws_get It.cells xs
 show Pure Tryd.prog _ [.agg [.str k,.bool t,.sl (rws It.cells xs)]] _
 generalize rws It.cells xs=rows at *
 have hw:ruW ⟨k,t,xs⟩=(k++(if t then [32,116,101,120,116] else []))++[58]++itsW xs++[10]:=by simp [ruW]
 rw [hw]
 refine pure_of_awp good Tryd.func15 rfl (by kernel_rfl) (by decide) ?_
 cases t
 · conv=>whnf
   refine ⟨by show k.length+1≤_; omega,?_⟩
   conv=>whnf
   refine loop_drop (fun n fr st=>∃ i:Nat,n+i=xs.length∧st=[⟨[[.str k,.bool false,.sl rows]],3,true,true,true,.cell⟩]∧(itsW (xs.take i)).length≤1048600*i∧Holds fr [(1,.ptr 0 0 0),(3,.str ((k++[58])++itsW (xs.take i))),(15,.sl rows),(16,.int .i64 xs.length),(17,.int .i64 i)]) xs.length none
    ⟨0,rfl,rfl,by simp [itsW],rfl,by simp [itsW]; rfl,rfl,by rw [← hlr]; rfl,rfl,trivial⟩ ?_
   rintro n fr st ⟨i,hi,rfl,hlen,hh⟩
   obtain ⟨fr,rfl⟩:=hh.split
   clear hh
   conv=>whnf
   by_cases hlt:i < xs.length
   · rw [ltB_t (by omega)]
     conv=>whnf
     have hg:=hgr i hlt
     have hmem:xs[i]∈xs:=List.getElem_mem _
     have htk:itsW (xs.take (i+1))=itsW (xs.take i)++([32]++itW xs[i]):=flatMap_take _ xs i hlt
     have hc1:=hc _ hmem
     have hl1:=hil _ hmem
     generalize xs[i]=x at *
     generalize itsW (xs.take i)=acc at *
     generalize itW x=wx at *
     obtain ⟨xk,xm,xy⟩:=x
     refine ⟨by omega,rows,_,3,rfl,hg,rfl,rfl,?_⟩
     conv=>whnf
     refine .inl (hc1.mono ?_)
     rintro r rfl
     conv=>whnf
     refine ⟨by show 1+wx.length≤_; omega,?_⟩
     conv=>whnf
     refine ⟨by simp; omega,?_⟩
     conv=>whnf
     refine ⟨n - 1,by omega,some [0],?_⟩
     conv=>whnf
     refine ⟨i+1,by omega,rfl,?_,rfl,?_,rfl,rfl,?_,trivial⟩
     · rw [htk]; simp; omega
     · show V.str _=_
       rw [htk]; simp
     · show V.int .i64 (IntKind.i64.wrap (i+1))=_
       rw [wrap64 (by omega) (by omega)]; simp
   · rw [ltB_f (by omega)]
     conv=>whnf
     rw [List.take_of_length_le (by omega)]
     rw [List.take_of_length_le (by omega)] at hlen
     refine ⟨by simp; omega,?_⟩
     conv=>whnf
     show V.str _=_
     simp
 · conv=>whnf
   refine ⟨by show k.length+5≤_; omega,?_⟩
   conv=>whnf
   refine ⟨by simp; omega,?_⟩
   conv=>whnf
   refine loop_drop (fun n fr st=>∃ i:Nat,n+i=xs.length∧st=[⟨[[.str k,.bool true,.sl rows]],3,true,true,true,.cell⟩]∧(itsW (xs.take i)).length≤1048600*i∧Holds fr [(1,.ptr 0 0 0),(3,.str (((k++[32,116,101,120,116])++[58])++itsW (xs.take i))),(15,.sl rows),(16,.int .i64 xs.length),(17,.int .i64 i)]) xs.length none
    ⟨0,rfl,rfl,by simp [itsW],rfl,by simp [itsW]; rfl,rfl,by rw [← hlr]; rfl,rfl,trivial⟩ ?_
   rintro n fr st ⟨i,hi,rfl,hlen,hh⟩
   obtain ⟨fr,rfl⟩:=hh.split
   clear hh
   conv=>whnf
   by_cases hlt:i < xs.length
   · rw [ltB_t (by omega)]
     conv=>whnf
     have hg:=hgr i hlt
     have hmem:xs[i]∈xs:=List.getElem_mem _
     have htk:itsW (xs.take (i+1))=itsW (xs.take i)++([32]++itW xs[i]):=flatMap_take _ xs i hlt
     have hc1:=hc _ hmem
     have hl1:=hil _ hmem
     generalize xs[i]=x at *
     generalize itsW (xs.take i)=acc at *
     generalize itW x=wx at *
     obtain ⟨xk,xm,xy⟩:=x
     refine ⟨by omega,rows,_,3,rfl,hg,rfl,rfl,?_⟩
     conv=>whnf
     refine .inl (hc1.mono ?_)
     rintro r rfl
     conv=>whnf
     refine ⟨by show 1+wx.length≤_; omega,?_⟩
     conv=>whnf
     refine ⟨by simp; omega,?_⟩
     conv=>whnf
     refine ⟨n - 1,by omega,some [0],?_⟩
     conv=>whnf
     refine ⟨i+1,by omega,rfl,?_,rfl,?_,rfl,rfl,?_,trivial⟩
     · rw [htk]; simp; omega
     · show V.str _=_
       rw [htk]; simp
     · show V.int .i64 (IntKind.i64.wrap (i+1))=_
       rw [wrap64 (by omega) (by omega)]; simp
   · rw [ltB_f (by omega)]
     conv=>whnf
     rw [List.take_of_length_le (by omega)]
     rw [List.take_of_length_le (by omega)] at hlen
     refine ⟨by simp; omega,?_⟩
     conv=>whnf
     show V.str _=_
     simp
set_option maxHeartbeats 4000000 in
theorem l3Write_pure (r:Ru) (hl:r.kids.length≤1048576) (h:∀ x∈r.kids,x.kind.length≤1048576) (hk:r.kind.length≤1048576):Pure Tryd.prog 11 [.agg r.cells] (·=.str (ruW r)):=by
 obtain ⟨k,t,xs⟩:=r
 simp only at hl h hk
 have hlr:=rws_len It.cells xs
 have hgr:=rws_get It.cells xs
 show Pure Tryd.prog _ [.agg [.str k,.bool t,.sl (rws It.cells xs)]] _
 generalize rws It.cells xs=rows at *
 have hw:ruW ⟨k,t,xs⟩=(k++(if t then [32,116,101,120,116] else []))++[58]++itsW xs++[10]:=by simp [ruW]
 rw [hw]
 refine pure_of_awp good Tryd.func11 rfl (by kernel_rfl) (by decide) ?_
 cases t
 · conv=>whnf
   refine ⟨by show k.length+1≤_; omega,?_⟩
   conv=>whnf
   refine loop_intro (fun n fr st=>∃ i:Nat,n+i=xs.length∧st=[⟨[[.str k,.bool false,.sl rows]],3,true,true,true,.cell⟩]∧(itsW (xs.take i)).length≤1048600*i∧Holds fr [(1,.ptr 0 0 0),(3,.str ((k++[58])++itsW (xs.take i))),(4,.int .i64 i)]) xs.length
    ⟨0,rfl,rfl,by simp [itsW],rfl,by simp [itsW]; rfl,rfl,trivial⟩ ?_
   rintro n fr st ⟨i,hi,rfl,hlen,hh⟩
   obtain ⟨fr,rfl⟩:=hh.split
   clear hh
   conv=>whnf
   rw [hlr]
   by_cases hlt:i < xs.length
   · rw [ltB_t (by omega)]
     conv=>whnf
     have hg:=hgr i hlt
     have hmem:xs[i]∈xs:=List.getElem_mem _
     have htk:itsW (xs.take (i+1))=itsW (xs.take i)++([32]++itW xs[i]):=flatMap_take _ xs i hlt
     have hl1:=h _ hmem
     generalize xs[i]=x at *
     generalize itsW (xs.take i)=acc at *
     obtain ⟨xk,xm,xy⟩:=x
     simp only at hl1
     refine ⟨by simp; omega,?_⟩
     conv=>whnf
     refine ⟨by omega,rows,_,3,rfl,hg,rfl,rfl,?_⟩
     conv=>whnf
     refine ⟨by simp; omega,?_⟩
     conv=>whnf
     refine ⟨by omega,rows,_,3,rfl,hg,rfl,rfl,?_⟩
     conv=>whnf
     have hwl:=itW_len ⟨xk,xm,xy⟩ hl1
     cases xm with
     | true =>
       conv=>whnf
       refine ⟨by simp; omega,?_⟩
       conv=>whnf
       refine ⟨by omega,rows,_,3,rfl,hg,rfl,rfl,?_⟩
       conv=>whnf
       cases xy with
       | true =>
         conv=>whnf
         refine ⟨by simp; omega,?_⟩
         conv=>whnf
         refine ⟨n - 1,by omega,i+1,by omega,rfl,?_,rfl,?_,?_,trivial⟩
         · rw [htk]; simp; omega
         · show V.str _=_
           rw [htk]; simp [itW]
         · show V.int .i64 (IntKind.i64.wrap (i+1))=_
           rw [wrap64 (by omega) (by omega)]; simp
       | false =>
         conv=>whnf
         refine ⟨n - 1,by omega,i+1,by omega,rfl,?_,rfl,?_,?_,trivial⟩
         · rw [htk]; simp; omega
         · show V.str _=_
           rw [htk]; simp [itW]
         · show V.int .i64 (IntKind.i64.wrap (i+1))=_
           rw [wrap64 (by omega) (by omega)]; simp
     | false =>
       conv=>whnf
       refine ⟨by omega,rows,_,3,rfl,hg,rfl,rfl,?_⟩
       conv=>whnf
       cases xy with
       | true =>
         conv=>whnf
         refine ⟨by simp; omega,?_⟩
         conv=>whnf
         refine ⟨n - 1,by omega,i+1,by omega,rfl,?_,rfl,?_,?_,trivial⟩
         · rw [htk]; simp; omega
         · show V.str _=_
           rw [htk]; simp [itW]
         · show V.int .i64 (IntKind.i64.wrap (i+1))=_
           rw [wrap64 (by omega) (by omega)]; simp
       | false =>
         conv=>whnf
         refine ⟨n - 1,by omega,i+1,by omega,rfl,?_,rfl,?_,?_,trivial⟩
         · rw [htk]; simp; omega
         · show V.str _=_
           rw [htk]; simp [itW]
         · show V.int .i64 (IntKind.i64.wrap (i+1))=_
           rw [wrap64 (by omega) (by omega)]; simp
   · rw [ltB_f (by omega)]
     conv=>whnf
     rw [List.take_of_length_le (by omega)]
     rw [List.take_of_length_le (by omega)] at hlen
     refine ⟨by simp; omega,?_⟩
     conv=>whnf
     show V.str _=_
     simp
 · conv=>whnf
   refine ⟨by show k.length+5≤_; omega,?_⟩
   conv=>whnf
   refine ⟨by simp; omega,?_⟩
   conv=>whnf
   refine loop_intro (fun n fr st=>∃ i:Nat,n+i=xs.length∧st=[⟨[[.str k,.bool true,.sl rows]],3,true,true,true,.cell⟩]∧(itsW (xs.take i)).length≤1048600*i∧Holds fr [(1,.ptr 0 0 0),(3,.str (((k++[32,116,101,120,116])++[58])++itsW (xs.take i))),(4,.int .i64 i)]) xs.length
    ⟨0,rfl,rfl,by simp [itsW],rfl,by simp [itsW]; rfl,rfl,trivial⟩ ?_
   rintro n fr st ⟨i,hi,rfl,hlen,hh⟩
   obtain ⟨fr,rfl⟩:=hh.split
   clear hh
   conv=>whnf
   rw [hlr]
   by_cases hlt:i < xs.length
   · rw [ltB_t (by omega)]
     conv=>whnf
     have hg:=hgr i hlt
     have hmem:xs[i]∈xs:=List.getElem_mem _
     have htk:itsW (xs.take (i+1))=itsW (xs.take i)++([32]++itW xs[i]):=flatMap_take _ xs i hlt
     have hl1:=h _ hmem
     generalize xs[i]=x at *
     generalize itsW (xs.take i)=acc at *
     obtain ⟨xk,xm,xy⟩:=x
     simp only at hl1
     refine ⟨by simp; omega,?_⟩
     conv=>whnf
     refine ⟨by omega,rows,_,3,rfl,hg,rfl,rfl,?_⟩
     conv=>whnf
     refine ⟨by simp; omega,?_⟩
     conv=>whnf
     refine ⟨by omega,rows,_,3,rfl,hg,rfl,rfl,?_⟩
     conv=>whnf
     have hwl:=itW_len ⟨xk,xm,xy⟩ hl1
     cases xm with
     | true =>
       conv=>whnf
       refine ⟨by simp; omega,?_⟩
       conv=>whnf
       refine ⟨by omega,rows,_,3,rfl,hg,rfl,rfl,?_⟩
       conv=>whnf
       cases xy with
       | true =>
         conv=>whnf
         refine ⟨by simp; omega,?_⟩
         conv=>whnf
         refine ⟨n - 1,by omega,i+1,by omega,rfl,?_,rfl,?_,?_,trivial⟩
         · rw [htk]; simp; omega
         · show V.str _=_
           rw [htk]; simp [itW]
         · show V.int .i64 (IntKind.i64.wrap (i+1))=_
           rw [wrap64 (by omega) (by omega)]; simp
       | false =>
         conv=>whnf
         refine ⟨n - 1,by omega,i+1,by omega,rfl,?_,rfl,?_,?_,trivial⟩
         · rw [htk]; simp; omega
         · show V.str _=_
           rw [htk]; simp [itW]
         · show V.int .i64 (IntKind.i64.wrap (i+1))=_
           rw [wrap64 (by omega) (by omega)]; simp
     | false =>
       conv=>whnf
       refine ⟨by omega,rows,_,3,rfl,hg,rfl,rfl,?_⟩
       conv=>whnf
       cases xy with
       | true =>
         conv=>whnf
         refine ⟨by simp; omega,?_⟩
         conv=>whnf
         refine ⟨n - 1,by omega,i+1,by omega,rfl,?_,rfl,?_,?_,trivial⟩
         · rw [htk]; simp; omega
         · show V.str _=_
           rw [htk]; simp [itW]
         · show V.int .i64 (IntKind.i64.wrap (i+1))=_
           rw [wrap64 (by omega) (by omega)]; simp
       | false =>
         conv=>whnf
         refine ⟨n - 1,by omega,i+1,by omega,rfl,?_,rfl,?_,?_,trivial⟩
         · rw [htk]; simp; omega
         · show V.str _=_
           rw [htk]; simp [itW]
         · show V.int .i64 (IntKind.i64.wrap (i+1))=_
           rw [wrap64 (by omega) (by omega)]; simp
   · rw [ltB_f (by omega)]
     conv=>whnf
     rw [List.take_of_length_le (by omega)]
     rw [List.take_of_length_le (by omega)] at hlen
     refine ⟨by simp; omega,?_⟩
     conv=>whnf
     show V.str _=_
     simp
theorem ruW_len (r:Ru) (hl:r.kids.length≤4) (h:∀ x∈r.kids,x.kind.length≤1048576) (hk:r.kind.length≤1048576):(ruW r).length≤6000000:=by
 have:∀ xs:List It,(∀ x∈xs,x.kind.length≤1048576)→(itsW xs).length≤1048579*xs.length:=by
  intro xs
  induction xs with
  | nil=>intro _; simp [itsW]
  | cons a bs ih =>
    intro h
    have h1:=itW_len a (h a (by simp))
    have h2:=ih fun x hx=>h x (by simp [hx])
    have e:itsW (a::bs)=[32]++itW a++itsW bs:=by simp [itsW]
    rw [e]
    simp only [List.length_append,List.length_cons,List.length_nil]
    omega
 have h1:=this r.kids h
 unfold ruW
 simp only [List.length_append]
 split <;> simp <;> omega
set_option maxHeartbeats 4000000 in
theorem specSchemaWrite_pure (s:Sc) (ok:Bool) (f0:Pure Tryd.prog 10 [.agg s.cells] (·=.bool ok)) (hn:s.rules.length≤1048576) (hroot:s.root.length≤1048576)
  (hr:ok=true→∀ r∈s.rules,r.kids.length≤4∧(∀ x∈r.kids,x.kind.length≤1048576)∧r.kind.length≤1048576) :
  Pure Tryd.prog 5 [.agg s.cells] (·=.str (if ok=true then scW s else [])):=by
 obtain ⟨root,rs⟩:=s
 simp only at hn hr hroot
 have hlr:=rws_len Ru.cells rs
 have hgr:=rws_get Ru.cells rs
 have f0:Pure Tryd.prog _ [.agg [.str root,.sl (rws Ru.cells rs)]] _:=f0
 show Pure Tryd.prog _ [.agg [.str root,.sl (rws Ru.cells rs)]] _
 generalize rws Ru.cells rs=rows at *
 have hw:scW ⟨root,rs⟩=(([114,111,111,116,32]++root)++[10])++rs.flatMap ruW:=by simp [scW]
 rw [hw]
 refine pure_of_awp good Tryd.func5 rfl (by kernel_rfl) (by decide) ?_
 conv=>whnf
 refine .inl (f0.mono ?_)
 rintro r rfl
 cases ok with
 | false =>
   conv=>whnf
   rfl
 | true =>
   have hr:=hr rfl
   have hc:=fun r hm=>l3Write_pure r (by have:=(hr r hm).1; omega) (hr r hm).2.1 (hr r hm).2.2
   have hrl:=fun r hm=>ruW_len r (hr r hm).1 (hr r hm).2.1 (hr r hm).2.2
   conv=>whnf
   refine ⟨by show 5+root.length≤_; omega,?_⟩
   conv=>whnf
   refine ⟨by simp; omega,?_⟩
   conv=>whnf
   refine loop_intro (fun n fr st=>∃ i:Nat,n+i=rs.length∧st=[⟨[[.str root,.sl rows]],2,true,true,true,.cell⟩]∧((rs.take i).flatMap ruW).length≤6000000*i∧Holds fr [(1,.ptr 0 0 0),(3,.str ((([114,111,111,116,32]++root)++[10])++(rs.take i).flatMap ruW)),(4,.int .i64 i)]) rs.length
    ⟨0,rfl,rfl,by simp,rfl,by simp; rfl,rfl,trivial⟩ ?_
   rintro n fr st ⟨i,hi,rfl,hlen,hh⟩
   obtain ⟨fr,rfl⟩:=hh.split
   clear hh
   conv=>whnf
   rw [hlr]
   by_cases hlt:i < rs.length
   · rw [ltB_t (by omega)]
     conv=>whnf
     have hg:=hgr i hlt
     have hmem:rs[i]∈rs:=List.getElem_mem _
     have htk:(rs.take (i+1)).flatMap ruW=(rs.take i).flatMap ruW++ruW rs[i]:=flatMap_take _ rs i hlt
     have hc1:=hc _ hmem
     have hl1:=hrl _ hmem
     generalize rs[i]=x at *
     generalize (rs.take i).flatMap ruW=acc at *
     generalize ruW x=wx at *
     obtain ⟨xk,xt,xs⟩:=x
     refine ⟨by omega,rows,_,3,rfl,hg,rfl,rfl,?_⟩
     conv=>whnf
     refine .inl (hc1.mono ?_)
     rintro r rfl
     conv=>whnf
     refine ⟨by simp; omega,?_⟩
     conv=>whnf
     refine ⟨n - 1,by omega,i+1,by omega,rfl,?_,rfl,?_,?_,trivial⟩
     · rw [htk]; simp; omega
     · show V.str _=_
       rw [htk]; simp
     · show V.int .i64 (IntKind.i64.wrap (i+1))=_
       rw [wrap64 (by omega) (by omega)]; simp
   · rw [ltB_f (by omega)]
     conv=>whnf
     rw [List.take_of_length_le (by omega)]
     rfl
end Go.Cod
set_option linter.all false
namespace Go.Cod
variable [Adr]
open Go Go.Proofs Go.ChangeShapes Go.WideShapes Go.ChangeAt Go.RowKit
set_option maxRecDepth 10000
omit [Adr] in
theorem okS_four {s:Sc} (h:okS s=true):∀ r∈s.rules,r.kids.length≤4∧∀ x∈r.kids,¬ (x.many=true∧x.may=true):=by
 intro r hr
 unfold okS at h
 simp only [Bool.and_eq_true] at h
 have h1:=List.all_eq_true.1 h.1.2 r hr
 unfold ruleB at h1
 simp only [Bool.and_eq_true,decide_eq_true_eq] at h1
 refine ⟨h1.1.2,fun x hx=>?_⟩
 have h2:=List.all_eq_true.1 h1.2 x hx
 unfold itemB at h2
 simp only [Bool.and_eq_true,Bool.not_eq_true',Bool.and_eq_false_iff] at h2
 rintro ⟨a,b⟩
 rcases h2.2 with q | q <;> simp_all
theorem law_schemaWrite (hW:∀ s:Sc,s.Sm→Pure Tryd.prog 7 [.agg s.cells] (·=.str (if okS s=true then scW s else []))) (s:Sc) (hs:s.Ok):Pure Tryd.prog 3 [.agg s.cells] (·=.bool true):=by
 have hsz:=szSchema_pure s hs 1048576 (by omega) (by omega)
 have hsm:=szSc_small s 1048576 (by omega) (by omega)
 have f1:=toSchema_pure s
 have f2:=fun (h:s.Sm)=>specSchemaWrite_pure s (okS s) (specSchemaOk_pure s h) h.2.1 h.1 (fun ho r hr=>⟨(okS_four ho r hr).1,(h.2.2 r hr).2.2,(h.2.2 r hr).1⟩)
 have f3:=hW s
 have f4:=eqSchema_pure s
 generalize szSc s 1048576=left at *
 generalize (if okS s=true then scW s else [])=w at *
 clear hW
 obtain ⟨root,rules⟩:=s
 simp only [Sc.cells] at hsz f1 f2 f3 f4 ⊢
 generalize rws Ru.cells rules=rows at *
 refine pure_of_awp good Tryd.func3 rfl (by kernel_rfl) (by decide) ?_
 conv=>whnf
 refine .inl (hsz.mono ?_)
 rintro r rfl
 conv=>whnf
 by_cases a1:left < 0
 · rw [ltB_t a1]
   conv=>whnf
 rw [ltB_f (by omega)]
 have hS:=hsm (by omega)
 have f1:=f1 hS
 have f2:=f2 hS
 have f3:=f3 hS
 have f4:=f4 hS
 conv=>whnf
 refine .inl (f1.mono ?_)
 rintro r rfl
 conv=>whnf
 refine .inl (f2.mono ?_)
 rintro r rfl
 conv=>whnf
 refine .inl (f1.mono ?_)
 rintro r rfl
 conv=>whnf
 refine .inl (f3.mono ?_)
 rintro r rfl
 conv=>whnf
 rw [eqS_refl]
 conv=>whnf
 refine ⟨_,.inl f1,?_⟩
 conv=>whnf
 refine ⟨_,.inl f4,?_⟩
 conv=>whnf
end Go.Cod
set_option linter.all false
set_option linter.all false
namespace Go.Cod
variable [Adr]
open Go Go.Proofs Go.Shelf Go.RowKit
def layRen:Go.Shelf.Ren:=⟨fun | 166=>14 | 169=>16 | 240=>24 | 276=>32 | n=>n,fun | 3=>3 | 4=>4 | 5=>5 | 9=>9 | 20=>20 | 37=>41 | 70=>40 | 72=>43 | 75=>45 | 80=>48 | 127=>62 | 164=>68 | n=>n,fun n=>n⟩
theorem lay_Lays_n166:Lays.n166 Tryd.prog layRen:={
 mixed:=by kernel_rfl,
 f166:=Tryd.func14.trans (congrArg some (by kernel_rfl)),
 f240:=Tryd.func24.trans (congrArg some (by kernel_rfl)),
 f276:=Tryd.func32.trans (congrArg some (by kernel_rfl)),
 t0:=Tryd.underlying0,
 a0:=Tryd.isAgg0,
 z0:=Tryd.sizeOf0,
 v0:=Tryd.zeroValue0,
 t3:=Tryd.underlying3,
 a3:=Tryd.isAgg3,
 z3:=Tryd.sizeOf3,
 v3:=Tryd.zeroValue3,
 t4:=Tryd.underlying4,
 a4:=Tryd.isAgg4,
 z4:=Tryd.sizeOf4,
 v4:=Tryd.zeroValue4,
 t9:=Tryd.underlying9,
 a9:=Tryd.isAgg9,
 z9:=Tryd.sizeOf9,
 v9:=Tryd.zeroValue9,
 t20:=Tryd.underlying20,
 a20:=Tryd.isAgg20,
 z20:=Tryd.sizeOf20,
 v20:=Tryd.zeroValue20,
 t37:=Tryd.underlying41,
 a37:=Tryd.isAgg41,
 z37:=Tryd.sizeOf41,
 v37:=Tryd.zeroValue41,
 t70:=Tryd.underlying40,
 a70:=Tryd.isAgg40,
 z70:=Tryd.sizeOf40,
 v70:=Tryd.zeroValue40,
 t72:=Tryd.underlying43,
 a72:=Tryd.isAgg43,
 z72:=Tryd.sizeOf43,
 v72:=Tryd.zeroValue43,
 t75:=Tryd.underlying45,
 a75:=Tryd.isAgg45,
 z75:=Tryd.sizeOf45,
 v75:=Tryd.zeroValue45,
 t164:=Tryd.underlying68,
 a164:=Tryd.isAgg68,
 z164:=Tryd.sizeOf68,
 v164:=Tryd.zeroValue68 }
theorem lay_Lays_n169:Lays.n169 Tryd.prog layRen:={
 mixed:=by kernel_rfl,
 f169:=Tryd.func16.trans (congrArg some (by kernel_rfl)),
 t0:=Tryd.underlying0,
 a0:=Tryd.isAgg0,
 z0:=Tryd.sizeOf0,
 v0:=Tryd.zeroValue0,
 t3:=Tryd.underlying3,
 a3:=Tryd.isAgg3,
 z3:=Tryd.sizeOf3,
 v3:=Tryd.zeroValue3,
 t9:=Tryd.underlying9,
 a9:=Tryd.isAgg9,
 z9:=Tryd.sizeOf9,
 v9:=Tryd.zeroValue9,
 t37:=Tryd.underlying41,
 a37:=Tryd.isAgg41,
 z37:=Tryd.sizeOf41,
 v37:=Tryd.zeroValue41,
 t70:=Tryd.underlying40,
 a70:=Tryd.isAgg40,
 z70:=Tryd.sizeOf40,
 v70:=Tryd.zeroValue40,
 t72:=Tryd.underlying43,
 a72:=Tryd.isAgg43,
 z72:=Tryd.sizeOf43,
 v72:=Tryd.zeroValue43,
 t127:=Tryd.underlying62,
 a127:=Tryd.isAgg62,
 z127:=Tryd.sizeOf62,
 v127:=Tryd.zeroValue62 }
theorem layX:Builder.Extra Tryd.prog layRen:={
 sizeBuilder:=by kernel_rfl,
 liesBuilder:=by kernel_rfl,
 t5:=Tryd.underlying5,
 a5:=Tryd.isAgg5,
 z5:=Tryd.sizeOf5,
 v5:=Tryd.zeroValue5,
 infoByte:=by kernel_rfl,
 cellsByte:=by kernel_rfl,
 sizeByte:=by kernel_rfl,
 neB5:=by decide }
def Bld (B b:Nat) (l:List UInt8) (w:World):Prop:=Lib.IsBuilderF 43 5 B b (Lib.byteCells l) w
theorem bld_write (B b:Nat) (l:List UInt8) (s:ByteArray) (w:World) (h:Bld B b l w) (hlen:l.length+s.size≤140737488355328) (hB:B≤w.heap.size) :
  Calls Tryd.prog 14 #[.pointer (some ⟨b,0,none⟩),.string s] w fun e w'=>e=.returned (.tuple #[.int .i64 s.size,.nilIface])∧Bld B b (l++s.data.toList) w'∧Below B w w':=by
 refine (Any.Builder_WriteString_k lay_Lays_n166 layX B b (Lib.byteCells l) s w h (by rw [Lib.byteCells_length]; exact hlen) hB).mono ?_
 rintro e w' ⟨rfl,h1,h2,_⟩
 refine ⟨rfl,?_,h2⟩
 unfold Bld
 rw [Lib.byteCells_append]
 exact Or.inr h1
theorem bld_string (B b:Nat) (l:List UInt8) (w:World) (h:Bld B b l w) (hB:B≤w.heap.size) :
  Calls Tryd.prog 16 #[.pointer (some ⟨b,0,none⟩)] w fun e w'=>e=.returned (.string ⟨l.toArray⟩)∧Below B w w':=by
 refine (Any.Builder_String_any_k lay_Lays_n169 layX B b l w h hB).mono ?_
 rintro e w' ⟨rfl,_,h2,_⟩
 exact ⟨rfl,h2⟩
theorem bldAt_below {T e:TypeId} {B b:Nat} {q:Value} {bs:List Value} {w w':World} (h:Lib.BuilderAtF T e B b q bs w) (hb:Below w.heap.size w w'):Lib.BuilderAtF T e B b q bs w':=by
 have hl:=h.lt
 obtain ⟨h1,r,h2,h3,h4⟩:=h
 exact ⟨h1,r,(hb.block b hl).trans h2,h3.kept (row:=none) ⟨hb.os,hb.tape,hb.output,hb.size,fun k hk _=>hb.block k hk⟩ (Classical.em _),h4⟩
theorem bld_below {B b:Nat} {l:List UInt8} {w w':World} (h:Bld B b l w) (hb:Below w.heap.size w w'):Bld B b l w':=Or.imp (bldAt_below · hb) (bldAt_below · hb) h
theorem bld_alloc {B b:Nat} {l:List UInt8} {w:World} (h:Bld B b l w) (o:Obj):Bld B b l (w.alloc o):=Lib.IsBuilderF.alloc h o
theorem bld_fresh (w:World):Bld w.heap.size w.heap.size [] (w.alloc (.cells #[.pointer none,.slice none 0 0] 43)):=Lib.IsBuilderF.of (Lib.fresh_isBuilder _ _ w)
theorem below_new {w w1:World} {o:Obj} (h:Below (w.alloc o).heap.size (w.alloc o) w1):Below w.heap.size w w1∧w1.heap[w.heap.size]? = some o :=
 ⟨((Below.refl _ w).alloc (Nat.le_refl _) o).trans (h.mono (by rw [size_alloc]; omega)),(h.block _ (by rw [size_alloc]; omega)).trans (by rw [heap_alloc,if_pos rfl])⟩
theorem cells_at {w:World} {b:Nat} {cs:Array Value} {t:TypeId} (h:w.heap[b]? = some (.cells cs t)) (n:Nat):w.cell? ⟨b,n,none⟩=cs[n]? := by
 simp [World.cell?,h]
theorem repL_one {Pr:Nat→Nat→Prop} {w:World} {x:V} {cs:List Value} (h:RepL Pr [] w [x] cs):∃ c,cs=[c]∧Rep Pr [] w x c:=by
 match cs,h with
 | [c],h=>exact ⟨c,rfl,h.2 0 x c rfl rfl⟩
 | [],h=>cases h.1
 | _::_::_,h=>exact absurd h.1 (by simp)
theorem rep_sl {Pr:Nat→Nat→Prop} {w:World} {es:List (List V)} {sv:Value} {c:Nat} (h:Rep Pr [] w (.sl es) sv) (hc:∀ e∈es,e.length=c) :
  ∃ ad cap,sv=.slice ad es.length cap∧es.length≤cap∧∀ (i:Nat) e,es[i]? = some e→∃ b off,ad=some ⟨b,off,none⟩∧∀ (j:Nat) x,e[j]? = some x→∃ u,w.cell? ⟨b,off+(i*c+j),none⟩=some u∧Pr b (off+(i*c+j))∧Rep Pr [] w x u:=by
 generalize hx:V.sl es=x at h
 cases h <;> first | (cases hx; done) | skip
 · cases hx
   rename_i a cap
   exact ⟨a,cap,rfl,Nat.zero_le _,fun i e he=>by simp at he⟩
 · cases hx
   rename_i b off cap c' u hcl hn hcc hlf hm hr
   refine ⟨_,_,rfl,hn,fun i e he=>⟨b,off,rfl,fun j x hj=>?_⟩⟩
   have hmem:=List.mem_of_getElem? he
   have e1:c=c':=(hc e hmem).symm.trans (hcc e hmem)
   subst e1
   exact ⟨u i j,(hm i e j x he hj).1,(hm i e j x he hj).2,hr i e j x he hj⟩
end Go.Cod
set_option linter.all false
set_option linter.all false
namespace Go.Cod
variable [Adr]
open Go Go.Proofs Go.RowKit
set_option maxHeartbeats 800000 in
set_option maxRecDepth 1000000 in
theorem schemaWrite_walk (Pr:Nat→Nat→Prop) (root:List UInt8) (rs:List Ru) (w:World) (ad:Option Addr) (cap:Nat) (hlow:∀ b n,Pr b n→b < w.heap.size) (hl:Laid Pr w) (hsv:Rep Pr [] w (.sl (rws Ru.cells rs)) (.slice ad rs.length cap))
  (hrules:∀ r∈rs,Pure Tryd.prog 15 [.agg r.cells] (·=.str (ruW r))∧(ruW r).length≤6000000) (hnum:rs.length≤1048576) (hroot:root.length≤1048576) (hok:Pure Tryd.prog 13 [.agg [.str root,.sl (rws Ru.cells rs)]] (·=.bool true)) :
  Calls Tryd.prog 7 #[.agg #[.string ⟨root.toArray⟩,.slice ad rs.length cap]] w fun e w'=>e=.returned (.string ⟨(scW ⟨root,rs⟩).toArray⟩)∧Below w.heap.size w w':=by
 go_enter Tryd.func7,Tryd.ntmps7
 have K1:∀ (w':World),Below w.heap.size w w'→Keep Pr Pr [] [] w w':=fun w' hb=>⟨fun _ _ h=>h,fun b n h=>cell_of_heap (hb.block b (hlow b n h)),fun _ _ h=>h⟩
 have bA0:Below w.heap.size w (w.alloc (.cells #[.string ⟨root.toArray⟩,.slice ad rs.length cap] 29)):=(Below.refl _ w).alloc (Nat.le_refl _) _
 have hrep:RepL Pr [] w [.agg [.str root,.sl (rws Ru.cells rs)]] [.agg #[.string ⟨root.toArray⟩,.slice ad rs.length cap]]:=by
  have h:=RepL.cons (.str root) (RepL.cons hsv RepL.nil)
  exact RepL.cons (Rep.agg h.1 h.2) RepL.nil
 have q1:RepL Pr [] (w.alloc (.cells #[.string ⟨root.toArray⟩,.slice ad rs.length cap] 29)) [.agg [.str root,.sl (rws Ru.cells rs)]] [.agg #[.string ⟨root.toArray⟩,.slice ad rs.length cap]]:=hrep.keep (K1 _ bA0)
 have q2:∀ b n,Pr b n→b < (w.alloc (.cells #[.string ⟨root.toArray⟩,.slice ad rs.length cap] 29)).heap.size:=fun b n h=>Nat.lt_of_lt_of_le (hlow b n h) bA0.size
 have q3:Laid Pr (w.alloc (.cells #[.string ⟨root.toArray⟩,.slice ad rs.length cap] 29)):=hl.keep (K1 _ bA0)
 go_wp2_with (go_at_call 13; refine (hok.callsBool (Pr:=Pr) (cargs:=[.agg #[.string ⟨root.toArray⟩,.slice ad rs.length cap]]) q1 q2 q3).mono ?_; rintro e w1 ⟨rfl,b1⟩; refine Hid.out ?_)
 refine Lib.hid ?_
 obtain ⟨bB,hb1⟩:=below_new b1
 have hs1:w.heap.size < w1.heap.size:=(Array.getElem?_eq_some_iff.1 hb1).1
 have c0:∀ o,(w1.alloc o).cell? ⟨w.heap.size,0,none⟩=some (.string ⟨root.toArray⟩):=fun o=>(cell_of_heap (Below.heap_alloc w1 o _ hs1)).trans ((cells_at hb1 0).trans rfl)
 have c1:∀ o,(w1.alloc o).cell? ⟨w.heap.size,1,none⟩=some (.slice ad rs.length cap):=fun o=>(cell_of_heap (Below.heap_alloc w1 o _ hs1)).trans ((cells_at hb1 1).trans rfl)
 have hbld:=bld_fresh w1
 clear b1 q1 q2 q3 hrep bA0
 have n1:¬ 9223372036854775807 < 5+root.length:=by omega
 have n2:¬ 9223372036854775807 < 5+root.length+1:=by omega
 go_wp2_with (go_at_call 14; refine (bld_write w1.heap.size w1.heap.size [] _ _ hbld (by simp [ByteArray.size]; omega) (by rw [size_alloc]; omega)).mono ?_; rintro e w2 ⟨rfl,hbld2,b2⟩; refine Hid.out ?_)
 refine Lib.hid ?_
 have d1:w2.cell? ⟨w.heap.size,1,none⟩=some (.slice ad rs.length cap):=(cell_of_heap (b2.block _ hs1)).trans (c1 _)
 have hpre:([]++(({ data:=#[114,111,111,116,32] }:ByteArray)++{ data:=root.toArray }++{ data:=#[10] }).data.toList)=[114,111,111,116,32]++(root++[10]):=by simp
 rw [hpre] at hbld2
 clear hbld hpre c0 c1
 have hlen:=rws_len Ru.cells rs
 have hget:=rws_get Ru.cells rs
 have hwid:∀ e∈rws Ru.cells rs,e.length=3:=fun e he=>by
  obtain ⟨x,_,rfl⟩:=List.mem_map.1 he
  rfl
 generalize rws Ru.cells rs=rows at *
 obtain ⟨ad',cap',e1,hcap,hsl⟩:=rep_sl hsv hwid
 rw [hlen] at e1
 obtain ⟨rfl,-,rfl⟩:ad=ad'∧True∧cap=cap':=by simpa using e1
 clear e1
 have hbA:Below w.heap.size w w2:=(bB.alloc bB.size _).trans (b2.mono bB.size)
 have hz2:w1.heap.size≤w2.heap.size:=by have:=b2.size; rw [size_alloc] at this; omega
 have accLen:∀ k,k≤rs.length→((rs.take k).flatMap ruW).length≤6000000*k:=by
  intro k
  induction k with
  | zero=>intro _; simp
  | succ k ih =>
    intro h
    rw [flatMap_take ruW rs k (by omega),List.length_append]
    have:=ih (by omega)
    have:=(hrules rs[k] (List.getElem_mem (by omega))).2
    omega
 go_wp2
 go_loopw [17] (fun iv wr=>∃ k:Nat,k≤rs.length∧iv=.int .i64 k∧Bld w1.heap.size w1.heap.size ([114,111,111,116,32]++(root++[10])++(rs.take k).flatMap ruW) wr∧Below w1.heap.size w2 wr) (fun iv _=>rs.length - (intOf iv).toNat)
 case atStart=>exact ⟨0,Nat.zero_le _,rfl,by simpa using hbld2,Below.refl _ _⟩
 case round =>
  obtain ⟨k,hk,rfl,hI,hbw⟩:=hrel
  by_cases hp:k < rs.length
  · have hbR:Below w.heap.size w wr:=hbA.trans (hbw.mono bB.size)
    obtain ⟨b,off,rfl,hcl⟩:=hsl k _ (hget k hp)
    obtain ⟨kind,text,kids,hr⟩:∃ kind text kids,rs[k]=⟨kind,text,kids⟩:=⟨_,_,_,rfl⟩
    obtain ⟨u0,p0,q0,r0⟩:=hcl 0 (.str kind) (by rw [hr]; rfl)
    obtain ⟨u1,p1,q1,r1⟩:=hcl 1 (.bool text) (by rw [hr]; rfl)
    obtain ⟨u2,p2,q2,r2⟩:=hcl 2 (.sl (rws It.cells kids)) (by rw [hr]; rfl)
    cases r0
    cases r1
    obtain ⟨ad2,cap2,rfl,-,-⟩:=rep_sl (c:=3) r2 (fun e he=>by
     obtain ⟨x,_,rfl⟩:=List.mem_map.1 he
     rfl)
    generalize (rws It.cells kids).length=nk at *
    have hbw0:b < w.heap.size:=hlow _ _ q0
    have cc:∀ n,wr.cell? ⟨b,n,none⟩=w.cell? ⟨b,n,none⟩:=fun n=>cell_of_heap (hbR.block b hbw0)
    have hks:(k:Int) < (rs.length:Int):=by omega
    have g0:wr.cell? ⟨b,off+k*3,none⟩=some (.string ⟨kind.toArray⟩):=(cc _).trans p0
    have g1:wr.cell? ⟨b,off+k*3+1,none⟩=some (.bool text):=(cc _).trans p1
    have g2:wr.cell? ⟨b,off+k*3+2,none⟩=some (.slice ad2 nk cap2):=(cc _).trans p2
    obtain ⟨hf,hlf⟩:=hrules rs[k] (List.getElem_mem hp)
    rw [hr] at hf hlf
    have HR:=Lib.hid hr
    clear hr
    have hN:w1.heap.size≤wr.heap.size:=Nat.le_trans hz2 hbw.size
    clear cc p0 p1 p2
    have bR1:Below w.heap.size w (wr.alloc (.cells #[.string ⟨kind.toArray⟩,.bool text,.slice ad2 nk cap2] 38)):=hbR.alloc hbR.size _
    have q4:RepL Pr [] (wr.alloc (.cells #[.string ⟨kind.toArray⟩,.bool text,.slice ad2 nk cap2] 38)) [.agg (Ru.cells ⟨kind,text,kids⟩)] [.agg #[.string ⟨kind.toArray⟩,.bool text,.slice ad2 nk cap2]]:=by
     have h:=RepL.cons (.str kind) (RepL.cons (.bool text) (RepL.cons r2 RepL.nil))
     have h:=RepL.cons (Rep.agg h.1 h.2) RepL.nil
     exact h.keep (K1 _ bR1)
    have q5:∀ b n,Pr b n→b < (wr.alloc (.cells #[.string ⟨kind.toArray⟩,.bool text,.slice ad2 nk cap2] 38)).heap.size:=fun b n h=>Nat.lt_of_lt_of_le (hlow b n h) bR1.size
    have q6:Laid Pr (wr.alloc (.cells #[.string ⟨kind.toArray⟩,.bool text,.slice ad2 nk cap2] 38)):=hl.keep (K1 _ bR1)
    go_wp2_with (go_at_call 15; refine (hf.callsStr (Pr:=Pr) (cargs:=[.agg #[.string ⟨kind.toArray⟩,.bool text,.slice ad2 nk cap2]]) q4 q5 q6).mono ?_; rintro e w3 ⟨rfl,b3⟩; refine Hid.out ?_)
    refine Lib.hid ?_
    have hI3:Bld w1.heap.size w1.heap.size ([114,111,111,116,32]++(root++[10])++(rs.take k).flatMap ruW) w3:=bld_below (bld_alloc hI _) b3
    have hN3:w1.heap.size≤w3.heap.size:=by have:=b3.size; rw [size_alloc] at this; omega
    have hll:=accLen k hk
    have hq:([114,111,111,116,32]++(root++[10])++(rs.take k).flatMap ruW).length+(⟨(ruW ⟨kind,text,kids⟩).toArray⟩:ByteArray).size≤140737488355328:=by
     show _+(ruW ⟨kind,text,kids⟩).toArray.size≤_
     simp only [List.length_append,List.size_toArray,List.length_cons,List.length_nil]
     omega
    go_wp2_with (go_at_call 14; refine (bld_write w1.heap.size w1.heap.size _ _ _ hI3 hq hN3).mono ?_; rintro e w4 ⟨rfl,hI4,b4⟩; refine Hid.out ?_)
    refine Lib.hid ?_
    go_wp2
    go_roundw
    case rel =>
     refine ⟨k+1,by omega,by go_num,?_,?_⟩
     · rw [flatMap_take ruW rs k hp,HR.out,← List.append_assoc]
       exact hI4
     · exact ((hbw.trans ((Below.refl _ wr).alloc (Nat.le_trans hN (Nat.le_refl _)) _)).trans (b3.mono (by rw [size_alloc]; omega))).trans b4
    case measure=>simp [intOf]; omega
  · have hN:w1.heap.size≤wr.heap.size:=Nat.le_trans hz2 hbw.size
    have hks:¬ (k:Int) < (rs.length:Int):=by omega
    go_wp2_with (go_at_call 16; refine (bld_string w1.heap.size w1.heap.size _ _ hI hN).mono ?_; rintro e w5 ⟨rfl,b5⟩; refine Hid.out ?_)
    refine Lib.hid ?_
    go_wp2
    go_ret
    refine ⟨?_,(hbA.trans (hbw.mono bB.size)).trans (b5.mono bB.size)⟩
    rw [List.take_of_length_le (by omega)]
    simp [scW]
theorem schemaWrite_pure (s:Sc) (hs:s.Sm):Pure Tryd.prog 7 [.agg s.cells] (·=.str (if okS s=true then scW s else [])):=by
 have hok:=implSchemaOk_pure s hs
 cases h:okS s with
 | true =>
   rw [h] at hok
   rw [if_pos rfl]
   have h4:=okS_four h
   obtain ⟨root,rs⟩:=s
   refine pure_of_below (r:=.str (scW ⟨root,rs⟩)) ⟨_,Tryd.func7,by kernel_rfl,by kernel_rfl⟩ rfl fun Pr w cargs ha hst=>⟨_,fun _ _=>.str _,?_⟩
   obtain ⟨c,rfl,hc⟩:=repL_one ha
   obtain ⟨us,rfl,hl,hu⟩:∃ us:List Value,c=.agg us.toArray∧us.length=2∧∀ (i:Nat) x u,[V.str root,V.sl (rws Ru.cells rs)][i]? = some x→us[i]? = some u→Rep Pr [] w x u:=by
    cases hc with
    | agg hl h=>exact ⟨_,rfl,hl.symm,h⟩
   match us,hl with
   | [u0,u1],_ =>
   have r0:=hu 0 _ u0 rfl rfl
   have r1:=hu 1 _ u1 rfl rfl
   obtain ⟨ad,cap,rfl,_,_⟩:=rep_sl (c:=3) r1 (fun e he=>by
    obtain ⟨x,_,rfl⟩:=List.mem_map.1 he
    rfl)
   cases r0
   rw [rws_len] at r1 ⊢
   exact schemaWrite_walk Pr root rs w ad cap hst.low hst.laid r1
    (fun r hr=>⟨schemaRuleLine_pure r (hs.2.2 r hr).2.1 (fun x hx=>⟨(h4 r hr).2 x hx,(hs.2.2 r hr).2.2 x hx⟩) (hs.2.2 r hr).1,ruW_len r (h4 r hr).1 (hs.2.2 r hr).2.2 (hs.2.2 r hr).1⟩) hs.2.1 hs.1 hok
 | false =>
   rw [h] at hok
   rw [if_neg (by decide)]
   obtain ⟨root,rs⟩:=s
   have hok:Pure Tryd.prog _ [.agg [.str root,.sl (rws Ru.cells rs)]] _:=hok
   show Pure Tryd.prog _ [.agg [.str root,.sl (rws Ru.cells rs)]] _
   generalize rws Ru.cells rs=rows at *
   refine pure_of_awp good Tryd.func7 rfl (by kernel_rfl) (by decide) ?_
   conv=>whnf
   refine .inl (hok.mono ?_)
   rintro r rfl
   conv=>whnf
end Go.Cod
set_option linter.all false
namespace Go.Cod
variable [Adr]
open Go Go.Proofs Go.ChangeShapes Go.WideShapes Go.ChangeAt Go.RowKit
set_option maxRecDepth 10000
omit [Adr] in
theorem ownK:ownKnob Tryd.prog.godebug=none:=by kernel_rfl
theorem lawFnExactSchemaWrite (s:Sc) (hs:s.Ok):Pure Tryd.prog 3 [.agg s.cells] (·=.bool true):=law_schemaWrite (fun s h=>schemaWrite_pure s h) s hs
omit [Adr]
theorem conFnExactSchemaWrite (H:Type) (enc:TypeId × Value→H) (W:World) (base:Nat) (args:Array Value) (ds gs:List (DataW H)) (before:List MemPlace)
  (hval:∀ (j:Nat) t v,Tryd.f3.params[j]? = some t→args[j]? = some v→Value.okWide Tryd.prog W .any base t v)
  (hW:DataW.Whole enc Tryd.prog Tryd.f3.params.toList YtnhdaclpfhnbeaaDoor.Rows.fnExactSchemaWriteSpec.vars false W args.toList ds gs before) (hL:laidMetH Tryd.prog YtnhdaclpfhnbeaaDoor.Rows.fnExactSchemaWriteRow.laid W) {fresh handsOn again:Bool} :
  Calls Tryd.prog 3 args W fun e W'=>∃ v,e=.returned v∧YtnhdaclpfhnbeaaDoor.Rows.fnExactSchemaWriteSpec.post enc Tryd.prog Tryd.f3 false fresh handsOn again W args v W':=by
 have hm:laidMet Tryd.prog YtnhdaclpfhnbeaaDoor.Rows.fnExactSchemaWriteRow.laid W:=by
  rw [← MakeChecks.laidMetH_plain _ _ _ (by kernel_rfl)]; exact hL
 obtain ⟨⟨a2,c2,l2⟩,hm⟩:=laid_err hm (g:=2) (by kernel_rfl) (by kernel_rfl)
 obtain ⟨⟨a0,c0,l0⟩,hm⟩:=laid_err hm (g:=0) (by kernel_rfl) (by kernel_rfl)
 obtain ⟨⟨a1,c1,l1⟩,hm⟩:=laid_err hm (g:=1) (by kernel_rfl) (by kernel_rfl)
 obtain ⟨⟨a3,c3,l3⟩,hm⟩:=laid_err hm (g:=3) (by kernel_rfl) (by kernel_rfl)
 letI A:Adr:=⟨fun g=>match g with | 2=>a2 | 0=>a0 | 1=>a1 | 3=>a3 | _=>default⟩
 have hlaid:Laid (oldP W) W:=by
  intro g cs h
  match g,h with
  | 2,h=>cases h; exact rep_var c2 l2 rfl
  | 0,h=>cases h; exact rep_var c0 l0 rfl
  | 1,h=>cases h; exact rep_var c1 l1 rfl
  | 3,h=>cases h; exact rep_var c3 l3 rfl
  | g+4,h=>cases h
 refine law_callsV kids full globals_ok (tb:=4) rfl Tryd.underlying4 (by decide +kernel) hW (fun ds gs h h'=>by match ds,gs,h,h' with | [_],[_,_,_,_],_,_=>exact ⟨rfl,rfl,rfl⟩) hval
  (Ss:=[fun x=>∃ vs,x=.agg vs∧∃ c:Sc,vs=c.cells∧c.Ok]) hlaid ?_ ?_
 · rw [Tryd.params3]
   exact ⟨argSchema,trivial⟩
 · intro xs h
   obtain ⟨_,rfl,⟨_,rfl,t0,rfl,h0⟩⟩:=hold1 h
   exact lawFnExactSchemaWrite t0 h0
theorem doorFnExactSchemaWrite (os:Os) (args:Array Value):laidMetH Tryd.prog YtnhdaclpfhnbeaaDoor.Rows.fnExactSchemaWriteRow.laid ((World.doorLaid Tryd.prog 400 os).forCall (fun _ _=>0) ⟨#[],args,[]⟩).memory :=
 laidMetH_of_parts3 (fuel:=8) (laidMet_of_run' 8 (by kernel_rfl) (by kernel_rfl)) (by kernel_rfl) (by kernel_rfl)
set_option maxRecDepth 100000 in
theorem rowFnExactSchemaWrite:YtnhdaclpfhnbeaaDoor.Rows.FnExactSchemaWriteSaid :=
 OpenClaim.holds_of_wide 3 Tryd.f3 rfl rfl rfl rfl rfl rfl rfl ⟨rfl,rfl,rfl,rfl,rfl⟩ rfl rfl rfl rfl rfl (by kernel_rfl) Tryd.func3 (by kernel_rfl)
  (of_decide_eq_true (by kernel_rfl)) (by unfold Func.isWrapper; first | (rw [if_pos (by decide +kernel)]; kernel_rfl) | (rw [if_neg (by decide +kernel)]; exact ⟨rfl,rfl⟩))
  (fun os started H enc _=>returnsInHanded_of_change_and (C:=Tryd.checked) (X:=fun w _=>laidMetH Tryd.prog YtnhdaclpfhnbeaaDoor.Rows.fnExactSchemaWriteRow.laid w) (fun _ _ _ hh h=>h.of_heap hh) ownK started (by kernel_rfl) Tryd.func3
    (ChangeSpec.witness_shaped (enc := enc) (C := Tryd.checked) (os := os) (X := fun w _ => laidMetH Tryd.prog YtnhdaclpfhnbeaaDoor.Rows.fnExactSchemaWriteRow.laid w) false (World.doorLaid Tryd.prog 400 os) #[.agg #[.string "".toByteArray, .slice none 0 0]] 8 rfl (World.shaped_of_RefB (by kernel_rfl) (by kernel_rfl)) (by kernel_rfl) (by kernel_rfl) (by kernel_rfl) (doorFnExactSchemaWrite os _))
    (fun W base args ds gs before hval hW _ _ hL _=>conFnExactSchemaWrite H enc W base args ds gs before hval hW hL))
set_option maxRecDepth 100000 in
theorem overFnExactSchemaWrite:YtnhdaclpfhnbeaaDoor.Rows.FnExactSchemaWriteCardSaid :=
 Claim7.holds_tied_plain_at .later [] [.sentinel, .sentinel, .sentinel, .sentinel] true (true, "b120fd5d5f10eceb838b2430f06f4b61689a22cc38d22adc4e55c7c0c739a995") true
  rowFnExactSchemaWrite (fun _ h=>by cases h) (by kernel_rfl) (fun _ h=>by cases h) YtnhdaclpfhnbeaaDoor.fnExactSchemaWrite_row_tie rfl ⟨rfl,rfl⟩ (by kernel_rfl) rfl
  (fun f fn hf hfn=>by
    obtain rfl : f = 3 := Option.some.inj ((show Tryd.prog.funcNamed "loop.example/codicil/laws.FnExactSchemaWrite" = some 3 by kernel_rfl).symm.trans hf) |>.symm
    obtain rfl:fn=Tryd.f3:=(Option.some.inj (Tryd.func3.symm.trans hfn)).symm
    exact ⟨by kernel_rfl,fun j t ht=>by
     rw [Tryd.params3] at ht
     have hm:t∈([24]:List Nat):=by simpa using Array.mem_of_getElem? ht
     have hall:(([24]:List Nat).all fun u=>!Tryd.prog.wantsStandIn u)=true:=by kernel_rfl
     exact (show Tryd.prog.wantsStandIn t=false by simpa using List.all_eq_true.1 hall t hm)⟩)
  (by kernel_rfl)
end Go.Cod
