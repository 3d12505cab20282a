import Derived.Test.YtfmkgbbficcjaaaDoorChecked
import Derived.Test.YtfmkgbbficcjaaaDoorRows
import Derived.WalkKit
import Derived.LaidEql
import Derived.RowKitTokens
import Derived.Stop.LaidErr
import Derived.Shelf.Strings.Search1
import Derived.ProofKit
import Derived.OpenShut
import Derived.JoinedOf
import Derived.Handed
import Derived.Defers
import Derived.Recover
import Derived.Laws.Pointers
import Derived.Tactics
import Derived.Tactics2
import Derived.Test.YtfmkgbbficcjaaaDoorCards
import Derived.Test.YtfmkgbbficcjaaaDoorTie
import Derived.LaidMore
import Derived.LaidOnce
import Derived.SevenTiedAt
import Derived.Test.YtfmkgbbficcjaaaDoorCodD
set_option linter.all false
namespace Go.Cod
open Go Go.Proofs
variable [Adr]
instance lam0:Lam:=⟨fun g=>match g with
 | 0=>some (sentCells 81 0)
 | _=>none,fun g=>false,fun g=>Nat.beq g 28||Nat.beq g 29||Nat.beq g 8||Nat.beq g 21||Nat.beq g 22,fun g=>false,fun g=>false⟩
def tauL:List (Nat × TI):=[
 (1,⟨.other,1,8,.raw .nilFunc,[],[],false⟩),
 (2,⟨.int .i64,1,8,.int .i64 0,[],[],false⟩),
 (3,⟨.int .i64,1,8,.int .i64 0,[],[],false⟩),
 (4,⟨.bool,1,1,.bool false,[],[],false⟩),
 (5,⟨.int .u8,1,1,.int .u8 0,[],[],false⟩),
 (6,⟨.int .u8,1,1,.int .u8 0,[],[],false⟩),
 (7,⟨.agg,4,24,.agg [.int .i64 0,.int .i64 0,.bool false,.int .u8 0],[(0,1,false),(1,1,false),(2,1,false),(3,1,false)],[],false⟩),
 (8,⟨.agg,4,24,.agg [.int .i64 0,.int .i64 0,.bool false,.int .u8 0],[(0,1,false),(1,1,false),(2,1,false),(3,1,false)],[],false⟩),
 (9,⟨.str,1,16,.str [],[],[],false⟩),
 (10,⟨.str,1,16,.str [],[],[],false⟩),
 (11,⟨.str,1,16,.str [],[],[],false⟩),
 (12,⟨.int .u64,1,8,.int .u64 0,[],[],false⟩),
 (13,⟨.agg,2,24,.agg [.str [],.int .u64 0],[(0,1,false),(1,1,false)],[],false⟩),
 (14,⟨.agg,2,24,.agg [.str [],.int .u64 0],[(0,1,false),(1,1,false)],[],false⟩),
 (15,⟨.ptr,1,8,.raw (.pointer none),[],[],false⟩),
 (16,⟨.ptr,1,8,.raw (.pointer none),[],[],false⟩),
 (17,⟨.ptr,1,8,.raw (.pointer none),[],[],false⟩),
 (18,⟨.agg,1,8,.agg [.raw (.pointer none)],[(0,1,false)],[],false⟩),
 (19,⟨.agg,1,8,.agg [.raw (.pointer none)],[(0,1,false)],[],false⟩),
 (20,⟨.iface,1,16,.raw .nilIface,[],[],false⟩),
 (21,⟨.int .i32,1,4,.int .i32 0,[],[],false⟩),
 (22,⟨.slice 5,1,24,.nils,[],[],false⟩),
 (23,⟨.other,1,8,.raw .nilFunc,[],[],false⟩),
 (24,⟨.slice 9,1,24,.nils,[],[],false⟩),
 (25,⟨.agg,3,56,.agg [.nils,.str [],.str []],[(0,1,false),(1,1,false),(2,1,false)],[],false⟩),
 (26,⟨.agg,3,56,.agg [.nils,.str [],.str []],[(0,1,false),(1,1,false),(2,1,false)],[],false⟩),
 (28,⟨.other,1,8,.raw .nilFunc,[],[],false⟩),
 (29,⟨.other,1,8,.raw .nilFunc,[],[],false⟩),
 (30,⟨.other,1,8,.raw .nilFunc,[],[],false⟩),
 (31,⟨.other,1,8,.raw .nilFunc,[],[],false⟩),
 (32,⟨.other,1,8,.raw .nilFunc,[],[],false⟩),
 (33, ⟨.ptr, 1, 8, .raw (.pointer none), [], [("loop.example/codicil/spec.of", 21), ("loop.example/codicil/spec.pick", 20)], false⟩),
 (34,⟨.other,1,8,.raw .nilFunc,[],[],false⟩),
 (35,⟨.other,1,8,.raw .nilFunc,[],[],false⟩),
 (36,⟨.other,1,8,.raw .nilFunc,[],[],false⟩),
 (37,⟨.agg,2,24,.agg [.str [],.int .i64 0],[(0,1,false),(1,1,false)],[],false⟩),
 (38,⟨.agg,2,24,.agg [.str [],.int .i64 0],[(0,1,false),(1,1,false)],[],false⟩),
 (39,⟨.agg,2,24,.agg [.str [],.int .i64 0],[(0,2,true)],[],false⟩),
 (40,⟨.agg,2,24,.agg [.str [],.int .i64 0],[(0,2,true)],[],false⟩),
 (41,⟨.other,1,8,.raw .nilFunc,[],[],false⟩),
 (42,⟨.other,1,8,.raw .nilFunc,[],[],false⟩),
 (43,⟨.other,1,8,.raw .nilFunc,[],[],false⟩),
 (44,⟨.other,1,8,.raw .nilFunc,[],[],false⟩),
 (45,⟨.other,1,8,.raw .nilFunc,[],[],false⟩),
 (46,⟨.agg,2,32,.agg [.nils,.int .i64 0],[(0,1,false),(1,1,false)],[],false⟩),
 (47,⟨.agg,2,32,.agg [.nils,.int .i64 0],[(0,1,false),(1,1,false)],[],false⟩),
 (48,⟨.other,1,8,.raw .nilFunc,[],[],false⟩),
 (49,⟨.other,1,8,.raw .nilFunc,[],[],false⟩),
 (50,⟨.other,1,8,.raw .nilFunc,[],[],false⟩),
 (51,⟨.other,1,8,.raw .nilFunc,[],[],false⟩),
 (52,⟨.other,1,8,.raw .nilFunc,[],[],false⟩),
 (53, ⟨.ptr, 1, 8, .raw (.pointer none), [], [("loop.example/codicil/impl.commit", 15), ("loop.example/codicil/impl.line", 28)], false⟩),
 (54,⟨.other,1,8,.raw .nilFunc,[],[],false⟩),
 (55,⟨.other,1,8,.raw .nilFunc,[],[],false⟩),
 (56,⟨.other,1,8,.raw .nilFunc,[],[],false⟩),
 (57,⟨.other,1,8,.raw .nilFunc,[],[],false⟩),
 (58,⟨.other,1,8,.raw .nilFunc,[],[],false⟩),
 (59,⟨.other,1,8,.raw .nilFunc,[],[],false⟩),
 (60,⟨.other,1,8,.raw .nilFunc,[],[],false⟩),
 (61, ⟨.ptr, 1, 8, .raw (.pointer none), [], [("loop.example/codicil/impl.atEnd", 72), ("loop.example/codicil/impl.must", 29), ("loop.example/codicil/impl.skip", 27), ("loop.example/codicil/impl.want", 26)], false⟩),
 (62,⟨.other,1,8,.raw .nilFunc,[],[],false⟩),
 (64,⟨.other,1,8,.raw .nilFunc,[],[],false⟩),
 (65,⟨.iface,1,16,.raw .nilIface,[],[],false⟩),
 (66,⟨.iface,1,16,.raw .nilIface,[],[],false⟩),
 (67,⟨.other,1,8,.raw .nilFunc,[],[],false⟩),
 (68,⟨.int .u32,1,4,.int .u32 0,[],[],false⟩),
 (69,⟨.slice 68,1,24,.nils,[],[],false⟩),
 (70,⟨.other,1,8,.raw .nilFunc,[],[],false⟩),
 (71,⟨.other,1,8,.raw .nilFunc,[],[],false⟩),
 (72,⟨.int .u64,1,8,.int .u64 0,[],[],false⟩),
 (73,⟨.other,1,8,.raw .nilFunc,[],[],false⟩),
 (74,⟨.other,1,8,.raw .nilFunc,[],[],false⟩),
 (75,⟨.other,1,8,.raw .nilFunc,[],[],false⟩),
 (76,⟨.other,1,8,.raw .nilFunc,[],[],false⟩),
 (77,⟨.other,1,8,.raw .nilFunc,[],[],false⟩),
 (78,⟨.other,1,8,.raw .nilFunc,[],[],false⟩),
 (80,⟨.other,1,8,.raw .nilFunc,[],[],false⟩),
 (81,⟨.ptr,1,8,.raw (.pointer none),[],[],false⟩),
 (82,⟨.agg,4,40,.agg [.raw (.pointer none),.raw (.pointer none),.raw (.pointer none),.str []],[(0,1,false),(1,1,false),(2,1,false),(3,1,false)],[],false⟩),
 (83,⟨.agg,4,40,.agg [.raw (.pointer none),.raw (.pointer none),.raw (.pointer none),.str []],[(0,1,false),(1,1,false),(2,1,false),(3,1,false)],[],false⟩),
 (87,⟨.other,1,8,.raw .nilFunc,[],[],false⟩),
 (88,⟨.int .u8,1,1,.int .u8 0,[],[],false⟩),
 (89,⟨.int .u8,1,1,.int .u8 0,[],[],false⟩),
 (90,⟨.other,1,8,.raw .nilFunc,[],[],false⟩),
 (91,⟨.ptr,1,8,.raw (.pointer none),[],[],false⟩),
 (92,⟨.int .i32,1,4,.int .i32 0,[],[],false⟩),
 (93,⟨.int .i32,1,4,.int .i32 0,[],[],false⟩),
 (94,⟨.agg,11,48,.agg [.int .u64 0,.int .u64 0,.int .u32 0,.int .u8 0,.int .u8 0,.int .u8 0,.int .u8 0,.raw .nilFunc,.raw (.pointer none),.int .i32 0,.int .i32 0],[(0,1,false),(1,1,false),(2,1,false),(3,1,false),(4,1,false),(5,1,false),(6,1,false),(7,1,false),(8,1,false),(9,1,false),(10,1,false)],[],false⟩),
 (95,⟨.agg,11,48,.agg [.int .u64 0,.int .u64 0,.int .u32 0,.int .u8 0,.int .u8 0,.int .u8 0,.int .u8 0,.raw .nilFunc,.raw (.pointer none),.int .i32 0,.int .i32 0],[(0,1,false),(1,1,false),(2,1,false),(3,1,false),(4,1,false),(5,1,false),(6,1,false),(7,1,false),(8,1,false),(9,1,false),(10,1,false)],[],false⟩),
 (96,⟨.other,1,8,.raw .nilFunc,[],[],false⟩),
 (97,⟨.agg,1,16,.agg [.str []],[(0,1,false)],[],false⟩),
 (98,⟨.agg,1,16,.agg [.str []],[(0,1,false)],[],false⟩),
 (100,⟨.other,1,8,.raw .nilFunc,[],[],false⟩)]
set_option maxRecDepth 100000 in
theorem good:TauGood Tryd.prog (tauOf tauL):=tauGood (by kernel_rfl) (by kernel_rfl) (by decide)
end Go.Cod
set_option linter.all false
namespace Go.Cod
variable [Adr]
open Go Go.Proofs Go.ChangeShapes Go.RowKit
set_option maxRecDepth 100000
abbrev errV (g:Nat):V:=.raw (.iface 81 (.pointer (some (Adr.a g))))
omit [Adr] in
theorem star : "*" ++ "errors.errorString" = "*errors.errorString" := by decide
omit [Adr] in
theorem rowErr (u : TypeId) (h : Tryd.prog.typeName? 3 u = some "*errors.errorString") : u = 81 :=
 typeName_ptr_named (nm := "errors.errorString") (by rw [star]; kernel_rfl) (by kernel_rfl) (by decide) u (by rw [star]; exact h)
omit [Adr] in
theorem laid_err {n : String} {text : List UInt8} {r : List (String × DataW Unit)} {W : World} {g : Nat} (h : laidMet Tryd.prog ((n, .iface "*errors.errorString" (.ptr (.agg [.lit (.string text)]))) :: r) W) (hg : Tryd.prog.globalNamed n = some g)
  (ht:(Tryd.prog.globals[g]?).map (·.type)=some 66):(∃ a:Addr,W.cell? ⟨g,0,none⟩=some (.iface 81 (.pointer (some a)))∧g < W.heap.size∧W.cell? ⟨g,1,none⟩=none)∧laidMet Tryd.prog r W:=by
 obtain ⟨a,s,hv,_⟩:=laid_sentinel h hg ht Tryd.underlying66 rowErr Tryd.underlying81 Tryd.underlying98 rfl rfl Tryd.underlying9 (by kernel_rfl) (by kernel_rfl)
 exact ⟨⟨a,laid_cell hg hv⟩,h.tail⟩
omit [Adr] in
theorem globals_ok:∀ (g:Nat) x,Tryd.prog.globals[g]? = some x→x.type < Tryd.prog.types.size:=by
 intro g x h
 have h1:(Tryd.prog.globals.toList.all fun x=>decide (x.type < Tryd.prog.types.size))=true:=by kernel_rfl
 exact of_decide_eq_true (List.all_eq_true.1 h1 x (by simpa using Array.mem_of_getElem? h))
end Go.Cod
set_option linter.all false
set_option linter.all false
namespace Go.Cod
variable [Adr]
open Go Go.Proofs Go.Shelf Go.RowKit
def layRen3:Go.Shelf.Ren:=⟨fun | 217=>51 | 266=>55 | n=>n,fun | 3=>3 | 5=>5 | 9=>9 | n=>n,fun n=>n⟩
theorem lay_Lays_n217c:Lays.n217 Tryd.prog layRen3:={
 mixed:=by kernel_rfl,
 f217:=Tryd.func51.trans (congrArg some (by kernel_rfl)),
 f266:=Tryd.func55.trans (congrArg some (by kernel_rfl)),
 t3:=Tryd.underlying3,
 a3:=Tryd.isAgg3,
 z3:=Tryd.sizeOf3,
 v3:=Tryd.zeroValue3,
 t5:=Tryd.underlying5,
 a5:=Tryd.isAgg5,
 z5:=Tryd.sizeOf5,
 v5:=Tryd.zeroValue5,
 t9:=Tryd.underlying9,
 a9:=Tryd.isAgg9,
 z9:=Tryd.sizeOf9,
 v9:=Tryd.zeroValue9 }
theorem indexByte_pure (s:List UInt8) (c:Int):Pure Tryd.prog 51 [.str s,.int .u8 c] (·=.int .i64 (Lib.indexByte s c.toNat.toUInt8)):=by
 refine pure_of_below (r:=.int .i64 (Lib.indexByte s c.toNat.toUInt8)) ⟨_,Tryd.func51,by kernel_rfl,by kernel_rfl⟩ rfl fun Pr w cargs ha hst=>⟨_,fun _ _=>.int _ _,?_⟩
 match cargs,ha with
 | [],ha=>cases ha.1
 | [_],ha=>exact absurd ha.1 (by simp)
 | _::_::_::_,ha=>exact absurd ha.1 (by simp)
 | [c0,c1],ha =>
   have r0:=ha.2 0 _ c0 rfl rfl
   have r1:=ha.2 1 _ c1 rfl rfl
   cases r0
   cases r1
   refine (Any.stringslite_IndexByte lay_Lays_n217c ⟨s.toArray⟩ c w).mono ?_
   rintro e w' ⟨rfl,rfl⟩
   exact ⟨rfl,Below.refl _ _⟩
def idx10:List UInt8→Int:=fun s=>Lib.indexByte s 10
theorem index_line (s:List UInt8):Pure Tryd.prog 50 [.str s,.str [10]] (·=.int .i64 (idx10 s)):=by
 have hb:=indexByte_pure s 10
 have hb:Pure Tryd.prog 51 [.str s,.int .u8 10] (·=.int .i64 (idx10 s)):=hb
 refine pure_of_awp good Tryd.func50 rfl (by kernel_rfl) (by decide) ?_
 conv=>whnf
 rw [eqB_f (by show ((1:Nat):Int)≠0; decide)]
 conv=>whnf
 by_cases hs:[10]=s
 · rw [eqS_t hs]
   conv=>whnf
   subst hs
   rfl
 · rw [eqS_f hs]
   conv=>whnf
   rw [eqB_t (by rfl)]
   conv=>whnf
   refine ⟨by decide,10,rfl,?_⟩
   conv=>whnf
   refine .inl (hb.mono ?_)
   rintro r rfl
   conv=>whnf
end Go.Cod
set_option linter.all false
namespace Go.Cod
variable [Adr]
open Go Go.Proofs Go.ChangeShapes Go.WideShapes Go.ChangeAt Go.RowKit
set_option maxRecDepth 10000
theorem kids:Kids Tryd.prog (· < Tryd.prog.types.size):=kids_rows (by kernel_rfl) (by kernel_rfl)
theorem full:∀ t e,t < Tryd.prog.types.size→Tryd.prog.underlying t=some (.slice e)→0 < Tryd.prog.cellsOf e:=slices_full_of Tryd.prog (by kernel_rfl)
def srows (ss:List (List UInt8)):List (List V):=ss.map fun s=>[.str s]
theorem srows_len (ss:List (List UInt8)):(srows ss).length=ss.length:=by simp [srows]
theorem srows_get (ss:List (List UInt8)) (i:Nat) (h:i < ss.length):(srows ss)[i]? = some [.str ss[i]]:=by simp [srows,h]
theorem srows_take (ss:List (List UInt8)) (i:Nat):(srows ss).take i=srows (ss.take i):=by simp [srows]
structure Cm where
 over:List (List UInt8)
 tree:List UInt8
 note:List UInt8
def Cm.cells (c:Cm):List V:=[.sl (srows c.over),.str c.tree,.str c.note]
structure Cm.Sm (c:Cm):Prop where
 n:c.over.length≤1048576
 o:∀ s∈c.over,s.length≤1048576
 t:c.tree.length≤1048576
 x:c.note.length≤1048576
theorem eqB_refl (a:Int):eqB a a=true:=eqB_t rfl
theorem eqS_refl (a:List UInt8):eqS a a=true:=eqS_t rfl
end Go.Cod
set_option linter.all false
namespace Go.Cod
variable [Adr]
open Go Go.Proofs
set_option maxRecDepth 10000
def hexB (b:UInt8):Bool:=decide ((48≤b.toNat∧b.toNat≤57)∨(97≤b.toNat∧b.toNat≤102))
def noteB (b:UInt8):Bool:=decide (32≤b.toNat∧b.toNat≤126)
def keyL (s:List UInt8):Bool:=s.all hexB&&decide (s.length=64)
def overB (ss:List (List UInt8)):Bool:=decide (ss.length≤2)&&ss.all keyL&&decide ss.Nodup
def okC (c:Cm):Bool:=overB c.over&&keyL c.tree&&decide (c.note.length≤12)&&c.note.all noteB
def ovT (ss:List (List UInt8)) (acc:List UInt8):List UInt8:=match ss with
 | []=>acc
 | s::ss=>ovT ss (acc++([111,118,101,114,32]++s++[10]))
def headC:List UInt8:=[99,111,109,109,105,116,10]
def textC (c:Cm):List UInt8:=ovT c.over headC++[116,114,101,101,32]++c.tree++[10,110,111,116,101,32]++c.note++[10]
def writeC (c:Cm):List UInt8:=if okC c=true then textC c else []
theorem take_all {α:Type} {p:α→Bool} {s:List α} {i:Nat} (h:i < s.length):(s.take (i+1)).all p=((s.take i).all p&&p s[i]):=by
 rw [List.take_succ_eq_append_getElem h,List.all_append]; simp
theorem ovT_drop (ss:List (List UInt8)) (i:Nat) (h:i < ss.length) (acc:List UInt8):ovT (ss.drop i) acc=ovT (ss.drop (i+1)) (acc++([111,118,101,114,32]++ss[i]++[10])):=by
 rw [List.drop_eq_getElem_cons h]; rfl
theorem all_no {α:Type} {p:α→Bool} {s:List α} {i:Nat} (h:i < s.length) (hp:p s[i]=false):s.all p=false:=by
 rw [List.all_eq_false]; exact ⟨s[i],List.getElem_mem _,by simp [hp]⟩
theorem textHasOnly_pure (s:List UInt8) (hs:s.length≤9223372036854775806) (g:Nat) (p:UInt8→Bool) (hp:∀ b:UInt8,Pure Tryd.prog g [cellB b] (·=.bool (p b))) :
  Pure Tryd.prog 32 [.str s,.fn g []] (·=.bool (s.all p)):=by
 refine pure_of_awp good Tryd.func32 rfl (by kernel_rfl) (by decide) ?_
 conv=>whnf
 refine loop_intro (fun n fr st=>st=[]∧∃ i:Nat,n+i=s.length∧(s.take i).all p=true∧Holds fr [(0,.str s),(1,.fn g []),(7,.int .i64 s.length),(8,.int .i64 i)]) s.length ⟨rfl,0,rfl,rfl,rfl,rfl,rfl,rfl,trivial⟩ ?_
 rintro n fr st ⟨rfl,i,hi,hx,hh⟩
 obtain ⟨fr,rfl⟩:=hh.split
 clear hh
 conv=>whnf
 by_cases hlt:i < s.length
 · rw [ltB_t (by omega)]
   conv=>whnf
   refine ⟨by omega,s[i],by simp [hlt],?_⟩
   conv=>whnf
   have hst:=take_all (p:=p) hlt
   have hno:p s[i]=false→s.all p=false:=all_no hlt
   refine .inl ((hp s[i]).mono ?_)
   rintro r rfl
   cases a:p s[i]
   · conv=>whnf
     rw [hno a]
   conv=>whnf
   refine ⟨n - 1,by omega,rfl,i+1,by omega,by rw [hst,hx,a]; rfl,rfl,rfl,rfl,?_,trivial⟩
   show V.int .i64 (IntKind.i64.wrap (i+1))=_
   rw [wrap64 (by omega) (by omega)]; simp
 · rw [ltB_f (by omega)]
   conv=>whnf
   rw [List.take_of_length_le (by omega)] at hx
   rw [hx]
theorem isFigure_pure (b:UInt8):Pure Tryd.prog 46 [cellB b] (·=.bool (decide (48≤b.toNat∧b.toNat≤57))):=by
 refine pure_of_awp good Tryd.func46 rfl (by kernel_rfl) (by decide) ?_
 conv=>whnf
 by_cases h1:(48:Int)≤(b.toNat:Int)
 · rw [leB_t (by omega)]
   conv=>whnf
   congr 1
   rw [leB_def]
   exact decide_eq_decide.2 (by omega)
 · rw [leB_f (by omega)]
   conv=>whnf
   congr 1
   symm
   exact decide_eq_false (by omega)
theorem isSumFigure_pure (b:UInt8):Pure Tryd.prog 40 [cellB b] (·=.bool (hexB b)):=by
 have f1:=isFigure_pure b
 refine pure_of_awp good Tryd.func40 rfl (by kernel_rfl) (by decide) ?_
 conv=>whnf
 refine .inl (f1.mono ?_)
 rintro r rfl
 by_cases h0:48≤b.toNat∧b.toNat≤57
 · rw [decide_eq_true h0]
   conv=>whnf
   congr 1
   symm
   exact decide_eq_true (.inl h0)
 rw [decide_eq_false h0]
 conv=>whnf
 by_cases h1:(97:Int)≤(b.toNat:Int)
 · rw [leB_t (by omega)]
   conv=>whnf
   congr 1
   rw [leB_def,hexB]
   exact decide_eq_decide.2 (by omega)
 · rw [leB_f (by omega)]
   conv=>whnf
   congr 1
   symm
   exact decide_eq_false (by omega)
theorem isNoteText_pure (b:UInt8):Pure Tryd.prog 33 [cellB b] (·=.bool (noteB b)):=by
 refine pure_of_awp good Tryd.func33 rfl (by kernel_rfl) (by decide) ?_
 conv=>whnf
 by_cases h1:(32:Int)≤(b.toNat:Int)
 · rw [leB_t (by omega)]
   conv=>whnf
   congr 1
   rw [leB_def,noteB]
   exact decide_eq_decide.2 (by omega)
 · rw [leB_f (by omega)]
   conv=>whnf
   congr 1
   symm
   exact decide_eq_false (by omega)
theorem sumOk_pure (s:List UInt8) (hs:s.length≤1048576):Pure Tryd.prog 31 [.str s] (·=.bool (keyL s)):=by
 have f1:=textHasOnly_pure s (by omega) _ hexB isSumFigure_pure
 have hk:keyL s=(s.all hexB&&decide (s.length=64)):=rfl
 generalize keyL s=k at *
 refine pure_of_awp good Tryd.func31 rfl (by kernel_rfl) (by decide) ?_
 conv=>whnf
 by_cases h:(s.length:Int)=64
 · rw [eqB_t h]
   conv=>whnf
   refine .inl (f1.mono ?_)
   rintro r rfl
   conv=>whnf
   rw [hk,decide_eq_true (by omega)]; simp
 · rw [eqB_f h]
   conv=>whnf
   rw [hk,decide_eq_false (by omega)]; simp
theorem index_pure (ss:List (List UInt8)) (x:List UInt8) (hl:ss.length≤1048576):Pure Tryd.prog 45 [.sl (srows ss),.str x] (fun r=>∃ k:Int,r=.int .i64 k∧(0≤k↔x∈ss)):=by
 have hlr:=srows_len ss
 have hgr:=srows_get ss
 generalize srows ss=rows at *
 refine pure_of_awp good Tryd.func45 rfl (by kernel_rfl) (by decide) ?_
 conv=>whnf
 refine loop_intro (fun n fr st=>st=[]∧∃ i:Nat,n+i=ss.length∧x∉ss.take i∧Holds fr [(0,.sl rows),(1,.str x),(7,.int .i64 ss.length),(8,.int .i64 i)]) ss.length ⟨rfl,0,rfl,by simp,rfl,rfl,by rw [← hlr]; rfl,rfl,trivial⟩ ?_
 rintro n fr st ⟨rfl,i,hi,hx,hh⟩
 obtain ⟨fr,rfl⟩:=hh.split
 clear hh
 conv=>whnf
 by_cases hlt:i < ss.length
 · rw [ltB_t (by omega)]
   conv=>whnf
   have hg:=hgr i hlt
   have hmem:ss[i]∈ss:=List.getElem_mem _
   have htk:ss.take (i+1)=ss.take i++[ss[i]]:=List.take_succ_eq_append_getElem hlt
   generalize ss[i]=y at *
   refine ⟨by omega,rows,_,1,rfl,hg,rfl,rfl,?_⟩
   conv=>whnf
   by_cases hxy:x=y
   · rw [eqS_t hxy]
     conv=>whnf
     exact ⟨i,rfl,⟨fun _=>hxy ▸ hmem,fun _=>by omega⟩⟩
   · rw [eqS_f hxy]
     conv=>whnf
     refine ⟨n - 1,by omega,rfl,i+1,by omega,?_,rfl,rfl,rfl,?_,trivial⟩
     · rw [htk]
       intro h
       rcases List.mem_append.1 h with h | h
       · exact hx h
       · exact hxy (List.mem_singleton.1 h)
     · show V.int .i64 (IntKind.i64.wrap (i+1))=_
       rw [wrap64 (by omega) (by omega)]; simp
 · rw [ltB_f (by omega)]
   conv=>whnf
   rw [List.take_of_length_le (by omega)] at hx
   exact ⟨-1,rfl,⟨fun h=>absurd h (by omega),fun h=>absurd h hx⟩⟩
theorem contains_pure (ss:List (List UInt8)) (x:List UInt8) (hl:ss.length≤1048576):Pure Tryd.prog 39 [.sl (srows ss),.str x] (·=.bool (decide (x∈ss))):=by
 have f1:=index_pure ss x hl
 generalize srows ss=rows at *
 refine pure_of_awp good Tryd.func39 rfl (by kernel_rfl) (by decide) ?_
 conv=>whnf
 refine .inl (f1.mono ?_)
 rintro r ⟨k,rfl,hk⟩
 conv=>whnf
 congr 1
 rw [leB_def]
 exact decide_eq_decide.2 hk
theorem nodup_take {ss:List (List UInt8)} {i:Nat} (h:i < ss.length):(ss.take (i+1)).Nodup↔(ss.take i).Nodup∧ss[i]∉ss.take i:=by
 rw [List.take_succ_eq_append_getElem h,List.nodup_append]
 simp only [List.nodup_cons,List.not_mem_nil,not_false_eq_true,List.nodup_nil,and_self,List.mem_singleton,forall_eq,true_and]
 exact ⟨fun ⟨a,b⟩=>⟨a,fun h=>b _ h rfl⟩,fun ⟨a,b⟩=>⟨a,fun x hx e=>b (e ▸ hx)⟩⟩
set_option maxHeartbeats 4000000 in
theorem commitOverOk_pure (ss:List (List UInt8)) (hs:∀ s∈ss,s.length≤1048576) (hl:ss.length≤1048576):Pure Tryd.prog 30 [.sl (srows ss)] (·=.bool (overB ss)):=by
 have hlr:=srows_len ss
 have hgr:=srows_get ss
 have hw:∀ r∈srows ss,r.length=1:=fun r hr=>by obtain ⟨s,_,rfl⟩:=List.mem_map.1 hr; rfl
 have htk:=srows_take ss
 have hO:overB ss=(decide (ss.length≤2)&&ss.all keyL&&decide ss.Nodup):=rfl
 generalize overB ss=res at *
 generalize hrows:srows ss=rows at *
 refine pure_of_awp good Tryd.func30 rfl (by kernel_rfl) (by decide) ?_
 conv=>whnf
 by_cases h2:(2:Int) < (ss.length:Int)
 · rw [hlr,ltB_t h2]
   conv=>whnf
   rw [hO,decide_eq_false (by omega)]; rfl
 rw [hlr,ltB_f (by omega)]
 conv=>whnf
 refine loop_intro (fun n fr st=>st=[]∧∃ i:Nat,n+i=ss.length∧(ss.take i).all keyL=true∧(ss.take i).Nodup∧Holds fr [(0,.sl rows),(8,.sl rows),(9,.int .i64 ss.length),(10,.int .i64 i)]) ss.length ⟨rfl,0,rfl,rfl,by simp,rfl,rfl,by rw [← hlr]; rfl,rfl,trivial⟩ ?_
 rintro n fr st ⟨rfl,i,hi,hx,hn,hh⟩
 obtain ⟨fr,rfl⟩:=hh.split
 clear hh
 conv=>whnf
 by_cases hlt:i < ss.length
 · rw [ltB_t (by omega)]
   conv=>whnf
   have hg:=hgr i hlt
   have f1:=sumOk_pure ss[i] (hs _ (List.getElem_mem _))
   have f2:=contains_pure (ss.take i) ss[i] (by rw [List.length_take]; omega)
   have hno:keyL ss[i]=false→ss.all keyL=false:=all_no hlt
   have hst:=take_all (p:=keyL) hlt
   have hnt:=nodup_take hlt
   have hnd:ss[i]∈ss.take i→¬ ss.Nodup:=fun h hd=>by
    have h3:(ss.take (i+1)).Nodup:=hd.sublist (List.take_sublist _ _)
    exact (hnt.1 h3).2 h
   rw [← htk] at f2
   generalize ss[i]=y at *
   refine ⟨by omega,rows,_,1,rfl,hg,rfl,rfl,?_⟩
   conv=>whnf
   refine .inl (f1.mono ?_)
   rintro r rfl
   cases hk:keyL y with
   | false =>
     conv=>whnf
     rw [hO,hno hk]; simp
   | true =>
     conv=>whnf
     refine ⟨hw,?_⟩
     conv=>whnf
     refine ⟨by omega,by omega,?_⟩
     conv=>whnf
     refine .inl (f2.mono ?_)
     rintro r rfl
     by_cases hm:y∈ss.take i
     · rw [decide_eq_true hm]
       conv=>whnf
       rw [hO,decide_eq_false (hnd hm)]; simp
     · rw [decide_eq_false hm]
       conv=>whnf
       refine ⟨n - 1,by omega,rfl,i+1,by omega,by rw [hst,hx,hk]; rfl,hnt.2 ⟨hn,hm⟩,rfl,rfl,rfl,?_,trivial⟩
       show V.int .i64 (IntKind.i64.wrap (i+1))=_
       rw [wrap64 (by omega) (by omega)]; simp
 · rw [ltB_f (by omega)]
   conv=>whnf
   rw [List.take_of_length_le (by omega)] at hx hn
   rw [hO,hx,decide_eq_true hn,decide_eq_true (by omega)]; rfl
end Go.Cod
set_option linter.all false
namespace Go.Cod
variable [Adr]
open Go Go.Proofs
set_option maxRecDepth 10000
theorem commitOk_pure (c:Cm) (hc:c.Sm):Pure Tryd.prog 18 [.agg c.cells] (·=.bool (okC c)):=by
 have f1:=commitOverOk_pure c.over hc.o hc.n
 have f2:=sumOk_pure c.tree hc.t
 have hx:=hc.x
 have f3:=textHasOnly_pure c.note (by omega) _ noteB isNoteText_pure
 have hO:okC c=(overB c.over&&keyL c.tree&&decide (c.note.length≤12)&&c.note.all noteB):=rfl
 generalize okC c=res at *
 obtain ⟨over,tree,note⟩:=c
 simp only [Cm.cells] at f1 f2 f3 hO hx ⊢
 generalize srows over=rows at *
 generalize overB over=b1 at *
 generalize keyL tree=b2 at *
 generalize note.all noteB=b3 at *
 refine pure_of_awp good Tryd.func18 rfl (by kernel_rfl) (by decide) ?_
 conv=>whnf
 refine .inl (f1.mono ?_)
 rintro r rfl
 cases b1 with
 | false =>
   conv=>whnf
   rw [hO]; rfl
 | true =>
   conv=>whnf
   refine .inl (f2.mono ?_)
   rintro r rfl
   cases b2 with
   | false =>
     conv=>whnf
     rw [hO]; rfl
   | true =>
     conv=>whnf
     by_cases h:(note.length:Int)≤12
     · rw [leB_t h]
       conv=>whnf
       refine .inl (f3.mono ?_)
       rintro r rfl
       conv=>whnf
       rw [hO,decide_eq_true (by omega)]; rfl
     · rw [leB_f (by omega)]
       conv=>whnf
       rw [hO,decide_eq_false (by omega)]; rfl
set_option maxHeartbeats 4000000 in
theorem implCommitWrite_pure (c:Cm) (hc:c.Sm):Pure Tryd.prog 8 [.agg c.cells] (·=.str (writeC c)):=by
 have f1:=commitOk_pure c hc
 have hO:writeC c=if okC c=true then textC c else []:=rfl
 have hT:textC c=ovT (c.over.drop 0) headC++[116,114,101,101,32]++c.tree++[10,110,111,116,101,32]++c.note++[10]:=rfl
 have hn:=hc.n
 have ho:=hc.o
 have ht:=hc.t
 have hx:=hc.x
 generalize writeC c=res at *
 generalize textC c=tx at *
 generalize okC c=ok at *
 obtain ⟨over,tree,note⟩:=c
 simp only [Cm.cells] at f1 hT hn ho ht hx ⊢
 have hlr:=srows_len over
 have hgr:=srows_get over
 generalize srows over=rows at *
 refine pure_of_awp good Tryd.func8 rfl (by kernel_rfl) (by decide) ?_
 conv=>whnf
 refine .inl (f1.mono ?_)
 rintro r rfl
 cases ok with
 | false =>
   conv=>whnf
   rw [hO]; rfl
 | true =>
   rw [if_pos rfl] at hO
   conv=>whnf
   refine loop_drop (fun n fr st=>∃ (i:Nat) (acc:List UInt8),n+i=over.length∧acc.length≤7+i*1048582∧ovT (over.drop 0) headC=ovT (over.drop i) acc∧st=[⟨[[.sl rows,.str tree,.str note]],3,true,true,true,.cell⟩] ∧
     Holds fr [(1,.ptr 0 0 0),(3,.str acc),(10,.sl rows),(11,.int .i64 over.length),(12,.int .i64 i)]) over.length none
    ⟨0,headC,rfl,by simp [headC],rfl,rfl,rfl,rfl,rfl,by rw [← hlr]; rfl,rfl,trivial⟩ ?_
   rintro n fr st ⟨i,acc,hi,hal,hov,rfl,hh⟩
   obtain ⟨fr,rfl⟩:=hh.split
   clear hh
   conv=>whnf
   by_cases hlt:i < over.length
   · rw [ltB_t (by omega)]
     conv=>whnf
     have hg:=hgr i hlt
     have hd:=ovT_drop over i hlt acc
     have hl:=ho over[i] (List.getElem_mem _)
     generalize over[i]=y at *
     refine ⟨by omega,rows,_,1,rfl,hg,rfl,rfl,?_⟩
     conv=>whnf
     refine ⟨by simp; omega,?_⟩
     conv=>whnf
     refine ⟨by simp; omega,?_⟩
     conv=>whnf
     refine ⟨by simp; omega,?_⟩
     conv=>whnf
     refine ⟨n - 1,by omega,none,i+1,_,by omega,?_,hov.trans hd,rfl,rfl,rfl,rfl,rfl,?_,trivial⟩
     · simp only [List.length_append,List.length_cons,List.length_nil]; omega
     · show V.int .i64 (IntKind.i64.wrap (i+1))=_
       rw [wrap64 (by omega) (by omega)]; simp
   · rw [ltB_f (by omega)]
     have hil:i=over.length:=by omega
     subst hil
     rw [List.drop_length] at hov
     have hov:ovT (over.drop 0) headC=acc:=hov
     conv=>whnf
     refine ⟨by simp; omega,?_⟩
     conv=>whnf
     refine ⟨by simp; omega,?_⟩
     conv=>whnf
     refine ⟨by simp; omega,?_⟩
     conv=>whnf
     refine ⟨by simp; omega,?_⟩
     conv=>whnf
     refine ⟨by simp; omega,?_⟩
     conv=>whnf
     rw [hO,hT,hov]
end Go.Cod
set_option linter.all false
namespace Go.Cod
variable [Adr]
open Go Go.Proofs
set_option maxRecDepth 10000
set_option maxHeartbeats 4000000 in
theorem l8Key_pure (s:List UInt8) (hs:s.length≤1048576):Pure Tryd.prog 34 [.str s] (·=.bool (keyL s)):=by
 have hk:keyL s=(s.all hexB&&decide (s.length=64)):=rfl
 generalize keyL s=res at *
 refine pure_of_awp good Tryd.func34 rfl (by kernel_rfl) (by decide) ?_
 conv=>whnf
 refine loop_intro (fun n fr st=>st=[]∧∃ i:Nat,n+i=s.length∧(s.take i).all hexB=true∧Holds fr [(0,.str s),(3,.int .i64 i)]) s.length ⟨rfl,0,rfl,rfl,rfl,rfl,trivial⟩ ?_
 rintro n fr st ⟨rfl,i,hi,hx,hh⟩
 obtain ⟨fr,rfl⟩:=hh.split
 clear hh
 conv=>whnf
 by_cases hlt:i < s.length
 · rw [ltB_t (by omega)]
   conv=>whnf
   have hst:=take_all (p:=hexB) hlt
   have hno:hexB s[i]=false→s.all hexB=false:=all_no hlt
   have hgb:s[i]? = some s[i]:=by simp [hlt]
   have hw:V.int .i64 (IntKind.i64.wrap ((i:Int)+1))=.int .i64 ((i+1:Nat):Int):=by rw [wrap64 (by omega) (by omega)]; simp
   have hhx:hexB s[i]=decide ((48≤s[i].toNat∧s[i].toNat≤57)∨(97≤s[i].toNat∧s[i].toNat≤102)):=rfl
   generalize s[i]=b at *
   have hgo:hexB b=true→∃ n',n' < n∧(([]:St)=[]∧∃ j:Nat,n'+j=s.length∧(s.take j).all hexB=true∧j=i+1):=fun h=>⟨n - 1,by omega,rfl,i+1,by omega,by rw [hst,hx,h]; rfl,rfl⟩
   refine ⟨by omega,b,hgb,?_⟩
   conv=>whnf
   by_cases h1:(48:Int)≤(b.toNat:Int)
   · rw [leB_t h1]
     conv=>whnf
     refine ⟨by omega,b,hgb,?_⟩
     conv=>whnf
     by_cases h2:(b.toNat:Int)≤57
     · rw [leB_t h2]
       have hb:hexB b=true:=by rw [hhx]; exact decide_eq_true (.inl ⟨by omega,by omega⟩)
       conv=>whnf
       exact ⟨n - 1,by omega,rfl,i+1,by omega,by rw [hst,hx,hb]; rfl,rfl,hw,trivial⟩
     · rw [leB_f (by omega)]
       conv=>whnf
       refine ⟨by omega,b,hgb,?_⟩
       conv=>whnf
       by_cases h3:(97:Int)≤(b.toNat:Int)
       · rw [leB_t h3]
         conv=>whnf
         refine ⟨by omega,b,hgb,?_⟩
         conv=>whnf
         by_cases h4:(b.toNat:Int)≤102
         · rw [leB_t h4]
           have hb:hexB b=true:=by rw [hhx]; exact decide_eq_true (.inr ⟨by omega,by omega⟩)
           conv=>whnf
           exact ⟨n - 1,by omega,rfl,i+1,by omega,by rw [hst,hx,hb]; rfl,rfl,hw,trivial⟩
         · rw [leB_f (by omega)]
           have hb:hexB b=false:=by rw [hhx]; exact decide_eq_false (by omega)
           conv=>whnf
           rw [hk,hno hb]; rfl
       · rw [leB_f (by omega)]
         have hb:hexB b=false:=by rw [hhx]; exact decide_eq_false (by omega)
         conv=>whnf
         rw [hk,hno hb]; rfl
   · rw [leB_f (by omega)]
     have hb:hexB b=false:=by rw [hhx]; exact decide_eq_false (by omega)
     conv=>whnf
     refine ⟨by omega,b,hgb,?_⟩
     conv=>whnf
     rw [leB_f (by omega)]
     conv=>whnf
     rw [hk,hno hb]; rfl
 · rw [ltB_f (by omega)]
   conv=>whnf
   rw [List.take_of_length_le (by omega)] at hx
   rw [hk,hx,eqB_def]
   congr 1
   rw [Bool.true_and]
   exact decide_eq_decide.2 (by omega)
def adjB:List (List UInt8)→Bool
 | []=>true
 | [_]=>true
 | a::b::ss=>decide (a≠b)&&adjB (b::ss)
theorem over_adj (ss:List (List UInt8)):overB ss=(ss.all keyL&&adjB ss&&decide (ss.length≤2)):=by
 match ss with
 | []=>rfl
 | [a]=>simp [overB,adjB]
 | [a,b]=>simp [overB,adjB,Bool.and_comm]
 | a::b::c::ss=>simp [overB]
theorem adj_take:∀ (ss:List (List UInt8)) (i:Nat) (h:i+1 < ss.length),adjB (ss.take (i+2))=(adjB (ss.take (i+1))&&decide (ss[i]≠ss[i+1]))
 | a::b::ss,0,h=>by simp [adjB]
 | a::b::ss,i+1,h=>by
   have:=adj_take (b::ss) i (by simpa using h)
   simp only [List.take_succ_cons,adjB,List.getElem_cons_succ] at this ⊢
   rw [this,Bool.and_assoc]
theorem adj_one (ss:List (List UInt8)):adjB (ss.take 1)=true:=by
 cases ss with
 | nil=>rfl
 | cons a ss=>rfl
theorem adj_mono:∀ (ss:List (List UInt8)) (i:Nat),adjB (ss.take i)=false→adjB ss=false
 | [],i,h=>by simpa using h
 | [a],i,h=>by
   cases i <;> simp [adjB] at h
 | a::b::ss,0,h=>by simp [adjB] at h
 | a::b::ss,1,h=>by simp [adjB] at h
 | a::b::ss,i+2,h=>by
   simp only [List.take_succ_cons,adjB,Bool.and_eq_false_iff] at h ⊢
   rcases h with h | h
   · exact .inl h
   · exact .inr (adj_mono (b::ss) (i+1) (by simpa [List.take_succ_cons] using h))
set_option maxHeartbeats 8000000 in
theorem l9Ok_pure (c:Cm) (hc:c.Sm):Pure Tryd.prog 19 [.agg c.cells] (·=.bool (okC c)):=by
 have hO:okC c=((c.over.all keyL&&adjB c.over&&decide (c.over.length≤2))&&keyL c.tree&&decide (c.note.length≤12)&&c.note.all noteB):=by rw [← over_adj]; rfl
 have f2:=l8Key_pure c.tree hc.t
 have hn:=hc.n
 have ho:=hc.o
 have ht:=hc.t
 have hx:=hc.x
 generalize okC c=res at *
 obtain ⟨over,tree,note⟩:=c
 simp only [Cm.cells] at f2 hO hn ho ht hx ⊢
 have hlr:=srows_len over
 have hgr:=srows_get over
 generalize srows over=rows at *
 generalize keyL tree=kt at *
 refine pure_of_awp good Tryd.func19 rfl (by kernel_rfl) (by decide) ?_
 conv=>whnf
 refine loop_intro (fun n fr st=>st=[⟨[[.sl rows,.str tree,.str note]],3,true,true,true,.cell⟩]∧∃ i:Nat,n+i=over.length∧(over.take i).all keyL=true∧adjB (over.take i)=true∧Holds fr [(1,.ptr 0 0 0),(3,.int .i64 i)]) over.length ⟨rfl,0,rfl,rfl,rfl,rfl,rfl,trivial⟩ ?_
 rintro n fr st ⟨rfl,i,hi,hk,ha,hh⟩
 obtain ⟨fr,rfl⟩:=hh.split
 clear hh
 conv=>whnf
 by_cases hlt:i < over.length
 · rw [hlr,ltB_t (by omega)]
   conv=>whnf
   have hg:=hgr i hlt
   have f1:=l8Key_pure over[i] (ho _ (List.getElem_mem _))
   have hno:keyL over[i]=false→over.all keyL=false:=all_no hlt
   have hst:=take_all (p:=keyL) hlt
   have hw:V.int .i64 (IntKind.i64.wrap ((i:Int)+1))=.int .i64 ((i+1:Nat):Int):=by rw [wrap64 (by omega) (by omega)]; simp
   have hw1:0 < i→IntKind.i64.wrap ((i:Int) - 1)=((i - 1:Nat):Int):=fun h=>by rw [wrap64 (by omega) (by omega)]; omega
   have hprev:∀ h:0 < i,rows[i - 1]? = some [.str (over[i - 1]'(by omega))]:=fun h=>hgr (i - 1) (by omega)
   have hadj:∀ h:0 < i,adjB (over.take (i+1))=(adjB (over.take i)&&decide (over[i - 1]'(by omega)≠over[i])):=fun h=>by
    obtain ⟨j,rfl⟩:∃ j,i=j+1:=⟨i - 1,by omega⟩
    exact adj_take over j hlt
   have hadj0:i=0→adjB (over.take (i+1))=true:=fun h=>by rw [h]; exact adj_one over
   have hmono:=adj_mono over (i+1)
   refine ⟨by omega,rows,_,1,rfl,hg,rfl,rfl,?_⟩
   conv=>whnf
   refine ⟨_,.inl f1,?_⟩
   conv=>whnf
   cases hky:keyL over[i] with
   | false =>
     conv=>whnf
     rw [hO,hno hky]; rfl
   | true =>
     conv=>whnf
     by_cases h0:0 < i
     · have hprev:=hprev h0
       have hadj:=hadj h0
       have hw1:=hw1 h0
       generalize over[i]=y at *
       generalize over[i - 1]'(by omega)=z at *
       rw [ltB_t (by omega)]
       conv=>whnf
       have hprev2:rows[(IntKind.i64.wrap ((i:Int) - 1)).toNat]? = some [.str z]:=by rw [hw1]; exact hprev
       repeat (first
        | (refine ⟨by omega,rows,_,1,rfl,hg,rfl,rfl,?_⟩
           conv=>whnf)
        | (refine ⟨by rw [hw1]; omega,rows,_,1,rfl,hprev2,rfl,rfl,?_⟩
           conv=>whnf))
       by_cases hyz:y=z
       · rw [eqS_t hyz]
         conv=>whnf
         have:adjB over=false:=hmono (by rw [hadj,decide_eq_false (by simp [hyz])]; simp)
         rw [hO,this]; simp
       · rw [eqS_f hyz]
         conv=>whnf
         exact ⟨n - 1,by omega,rfl,i+1,by omega,by rw [hst,hk,hky]; rfl,by rw [hadj,ha,Bool.true_and]; exact decide_eq_true (show z≠y from fun e=>hyz e.symm),rfl,hw,trivial⟩
     · rw [ltB_f (by omega)]
       conv=>whnf
       exact ⟨n - 1,by omega,rfl,i+1,by omega,by rw [hst,hk,hky]; rfl,hadj0 (by omega),rfl,hw,trivial⟩
 · rw [hlr,ltB_f (by omega)]
   conv=>whnf
   rw [List.take_of_length_le (by omega)] at hk ha
   rw [hk,ha,Bool.true_and,Bool.true_and] at hO
   refine loop_intro (fun n fr st=>st=[⟨[[.sl rows,.str tree,.str note]],3,true,true,true,.cell⟩]∧∃ i:Nat,n+i=note.length∧(note.take i).all noteB=true∧Holds fr [(1,.ptr 0 0 0),(4,.int .i64 i)]) note.length ⟨rfl,0,rfl,rfl,rfl,rfl,trivial⟩ ?_
   rintro n fr st ⟨rfl,i,hi,hx2,hh⟩
   obtain ⟨fr,rfl⟩:=hh.split
   clear hh
   conv=>whnf
   by_cases hlt:i < note.length
   · rw [ltB_t (by omega)]
     conv=>whnf
     have hst:=take_all (p:=noteB) hlt
     have hno:noteB note[i]=false→note.all noteB=false:=all_no hlt
     have hgb:note[i]? = some note[i]:=by simp [hlt]
     have hw:V.int .i64 (IntKind.i64.wrap ((i:Int)+1))=.int .i64 ((i+1:Nat):Int):=by rw [wrap64 (by omega) (by omega)]; simp
     have hhx:noteB note[i]=decide (32≤note[i].toNat∧note[i].toNat≤126):=rfl
     generalize note[i]=b at *
     refine ⟨by omega,b,hgb,?_⟩
     conv=>whnf
     by_cases h1:(b.toNat:Int) < 32
     · rw [ltB_t h1]
       have hb:noteB b=false:=by rw [hhx]; exact decide_eq_false (by omega)
       conv=>whnf
       rw [hO,hno hb]; simp
     · rw [ltB_f (by omega)]
       conv=>whnf
       refine ⟨by omega,b,hgb,?_⟩
       conv=>whnf
       by_cases h2:(126:Int) < (b.toNat:Int)
       · rw [ltB_t h2]
         have hb:noteB b=false:=by rw [hhx]; exact decide_eq_false (by omega)
         conv=>whnf
         rw [hO,hno hb]; simp
       · rw [ltB_f (by omega)]
         have hb:noteB b=true:=by rw [hhx]; exact decide_eq_true ⟨by omega,by omega⟩
         conv=>whnf
         exact ⟨n - 1,by omega,rfl,i+1,by omega,by rw [hst,hx2,hb]; rfl,rfl,hw,trivial⟩
   · rw [ltB_f (by omega)]
     conv=>whnf
     rw [List.take_of_length_le (by omega)] at hx2
     rw [hx2,Bool.and_true] at hO
     rw [hlr]
     by_cases h2:(over.length:Int)≤2
     · rw [leB_t h2]
       conv=>whnf
       rw [decide_eq_true (show over.length≤2 by omega),Bool.true_and] at hO
       refine .inl (f2.mono ?_)
       rintro r rfl
       cases kt with
       | false =>
         conv=>whnf
         rw [hO]; rfl
       | true =>
         conv=>whnf
         rw [hO,leB_def,Bool.true_and]
         congr 1
         exact decide_eq_decide.2 (by omega)
     · rw [leB_f (by omega)]
       conv=>whnf
       rw [hO,decide_eq_false (show ¬ over.length≤2 by omega)]; rfl
end Go.Cod
set_option linter.all false
namespace Go.Cod
variable [Adr]
open Go Go.Proofs Go.ChangeShapes Go.WideShapes Go.ChangeAt Go.RowKit
set_option maxRecDepth 10000
set_option maxHeartbeats 4000000 in
theorem specCommitWrite_pure (c:Cm) (hc:c.Sm):Pure Tryd.prog 10 [.agg c.cells] (·=.str (writeC c)):=by
 have f1:=l9Ok_pure c hc
 have hO:writeC c=if okC c=true then textC c else []:=rfl
 have hT:textC c=ovT (c.over.drop 0) headC++[116,114,101,101,32]++c.tree++[10,110,111,116,101,32]++c.note++[10]:=rfl
 have hn:=hc.n
 have ho:=hc.o
 have ht:=hc.t
 have hx:=hc.x
 generalize writeC c=res at *
 generalize textC c=tx at *
 generalize okC c=ok at *
 obtain ⟨over,tree,note⟩:=c
 simp only [Cm.cells] at f1 hT hn ho ht hx ⊢
 have hlr:=srows_len over
 have hgr:=srows_get over
 generalize srows over=rows at *
 refine pure_of_awp good Tryd.func10 rfl (by kernel_rfl) (by decide) ?_
 conv=>whnf
 refine .inl (f1.mono ?_)
 rintro r rfl
 cases ok with
 | false =>
   conv=>whnf
   rw [hO]; rfl
 | true =>
   rw [if_pos rfl] at hO
   conv=>whnf
   refine loop_drop (fun n fr st=>∃ (i:Nat) (acc:List UInt8),n+i=over.length∧acc.length≤7+i*1048582∧ovT (over.drop 0) headC=ovT (over.drop i) acc∧st=[⟨[[.sl rows,.str tree,.str note]],3,true,true,true,.cell⟩] ∧
     Holds fr [(1,.ptr 0 0 0),(3,.str acc),(4,.int .i64 i)]) over.length none
    ⟨0,headC,rfl,by simp [headC],rfl,rfl,rfl,rfl,rfl,trivial⟩ ?_
   rintro n fr st ⟨i,acc,hi,hal,hov,rfl,hh⟩
   obtain ⟨fr,rfl⟩:=hh.split
   clear hh
   conv=>whnf
   by_cases hlt:i < over.length
   · rw [hlr,ltB_t (by omega)]
     conv=>whnf
     have hg:=hgr i hlt
     have hd:=ovT_drop over i hlt acc
     have hl:=ho over[i] (List.getElem_mem _)
     generalize over[i]=y at *
     have hacc:acc++([111,118,101,114,32]++y++[10])=acc++[111,118,101,114,32]++y++[10]:=by simp
     rw [hacc] at hd
     refine ⟨by simp; omega,?_⟩
     conv=>whnf
     refine ⟨by omega,rows,_,1,rfl,hg,rfl,rfl,?_⟩
     conv=>whnf
     refine ⟨by simp; omega,?_⟩
     conv=>whnf
     refine ⟨by simp; omega,?_⟩
     conv=>whnf
     refine ⟨n - 1,by omega,none,i+1,_,by omega,?_,hov.trans hd,rfl,rfl,rfl,?_,trivial⟩
     · simp only [List.length_append,List.length_cons,List.length_nil]; omega
     · show V.int .i64 (IntKind.i64.wrap (i+1))=_
       rw [wrap64 (by omega) (by omega)]; simp
   · rw [hlr,ltB_f (by omega)]
     have hil:i=over.length:=by omega
     subst hil
     rw [List.drop_length] at hov
     have hov:ovT (over.drop 0) headC=acc:=hov
     conv=>whnf
     refine ⟨by simp; omega,?_⟩
     conv=>whnf
     refine ⟨by simp; omega,?_⟩
     conv=>whnf
     refine ⟨by simp; omega,?_⟩
     conv=>whnf
     refine ⟨by simp; omega,?_⟩
     conv=>whnf
     refine ⟨by simp; omega,?_⟩
     conv=>whnf
     rw [hO,hT,hov]
end Go.Cod
set_option linter.all false
namespace Go.Cod
variable [Adr]
open Go Go.Proofs
set_option linter.all false
set_option maxRecDepth 10000
def overW:List UInt8:=[111,118,101,114,32]
def treeW:List UInt8:=[116,114,101,101,32]
def noteW:List UInt8:=[110,111,116,101,32]
def lineP:List UInt8→Option (List UInt8 × List UInt8)
 | []=>none
 | b::r=>if b=10 then some ([],r) else match lineP r with
   | none=>none
   | some (l,t)=>some (b::l,t)
def skipP (w s:List UInt8):Option (List UInt8):=if s.take w.length=w then some (s.drop w.length) else none
def tailP (os:List (List UInt8)) (s:List UInt8):Option Cm:=match skipP treeW s with
 | none=>none
 | some s1=>match lineP s1 with
   | none=>none
   | some (t,s2)=>match skipP noteW s2 with
     | none=>none
     | some s3=>match lineP s3 with
       | none=>none
       | some (n,_)=>some ⟨os,t,n⟩
def contP:Nat→List (List UInt8)→List UInt8→Option Cm
 | 0,_,_=>none
 | n+1,os,s=>match skipP overW s with
   | none=>tailP os s
   | some s1=>match lineP s1 with
     | none=>none
     | some (l,s2)=>contP n (os++[l]) s2
def cP (s:List UInt8):Option Cm:=match skipP headC s with
 | none=>none
 | some s1=>contP (s1.length+1) [] s1
def implR (s:List UInt8):Option Cm:=match cP s with
 | none=>none
 | some c=>if writeC c=s then some c else none
def cutL:List UInt8→List (List UInt8)
 | []=>[[]]
 | b::r=>if b=10 then []::cutL r else match cutL r with
   | []=>[[b]]
   | l::ls=>(b::l)::ls
def stepC (c:Cm) (l:List UInt8):Cm :=
 if l.length < 5 then c else if l.take 5=overW then ⟨c.over++[l.drop 5],c.tree,c.note⟩ else if l.take 5=treeW then ⟨c.over,l.drop 5,c.note⟩ else if l.take 5=noteW then ⟨c.over,c.tree,l.drop 5⟩ else c
def foldC (s:List UInt8):Cm:=(((cutL s).take 6).drop 1).foldl stepC ⟨[],[],[]⟩
def specR (s:List UInt8):Option Cm:=if s=[]∨writeC (foldC s)≠s then none else some (foldC s)
theorem lineP_line (l r:List UInt8) (h:(10:UInt8)∉l):lineP (l++10::r)=some (l,r):=by
 induction l with
 | nil=>rfl
 | cons b l ih =>
   have hb:b≠10:=fun e=>h (by simp [e])
   rw [List.cons_append,lineP,if_neg hb,ih (fun hm=>h (by simp [hm]))]
theorem cutL_line (l r:List UInt8) (h:(10:UInt8)∉l):cutL (l++10::r)=l::cutL r:=by
 induction l with
 | nil=>rfl
 | cons b l ih =>
   have hb:b≠10:=fun e=>h (by simp [e])
   rw [List.cons_append,cutL,if_neg hb,ih (fun hm=>h (by simp [hm]))]
theorem skipP_app (w r:List UInt8):skipP w (w++r)=some r:=by
 unfold skipP
 rw [List.take_left,if_pos rfl,List.drop_left]
theorem ovT_flat (ss:List (List UInt8)):∀ acc,ovT ss acc=acc++ss.flatMap fun k=>overW++k++[10]:=by
 induction ss with
 | nil=>intro acc; simp [ovT]
 | cons s ss ih =>
   intro acc
   rw [ovT,ih]
   simp [overW]
theorem hex_no10 {s:List UInt8} (h:keyL s=true):(10:UInt8)∉s:=fun hm=>by
 unfold keyL at h
 simp only [Bool.and_eq_true] at h
 have:=List.all_eq_true.1 h.1 _ hm
 exact absurd this (by decide)
theorem note_no10 {s:List UInt8} (h:s.all noteB=true):(10:UInt8)∉s:=fun hm=>by
 have:=List.all_eq_true.1 h _ hm
 exact absurd this (by decide)
theorem okC_parts {c:Cm} (h:okC c=true):(∀ k∈c.over,(10:UInt8)∉k)∧c.over.length≤2∧(10:UInt8)∉c.tree∧(10:UInt8)∉c.note:=by
 unfold okC overB at h
 simp only [Bool.and_eq_true,decide_eq_true_eq] at h
 obtain ⟨⟨⟨⟨⟨h1,h2⟩,_⟩,h3⟩,_⟩,h4⟩:=h
 exact ⟨fun k hk=>hex_no10 (List.all_eq_true.1 h2 k hk),h1,hex_no10 h3,note_no10 h4⟩
theorem textC_flat (c:Cm):textC c=headC++((c.over.flatMap fun k=>overW++k++[10])++(treeW++(c.tree++10::(noteW++(c.note++10::[]))))):=by
 unfold textC
 rw [ovT_flat]
 simp [treeW,noteW]
theorem cont_ok (t n:List UInt8) (ht:(10:UInt8)∉t) (hn:(10:UInt8)∉n) (ss:List (List UInt8)) (hs:∀ k∈ss,(10:UInt8)∉k):∀ (m:Nat) (acc:List (List UInt8)),ss.length < m →
  contP m acc ((ss.flatMap fun k=>overW++k++[10])++(treeW++(t++10::(noteW++(n++10::[])))))=some ⟨acc++ss,t,n⟩:=by
 induction ss with
 | nil =>
   intro m acc hm
   obtain ⟨m,rfl⟩:∃ k,m=k+1:=⟨m - 1,by simp at hm; omega⟩
   rw [List.flatMap_nil,List.nil_append,contP]
   have h1:skipP overW (treeW++(t++10::(noteW++(n++10::[]))))=none:=by
    unfold skipP
    rw [if_neg]
    simp [overW,treeW]
   rw [h1,tailP,skipP_app]
   simp only [lineP_line t _ ht,skipP_app,lineP_line n _ hn,List.append_nil]
 | cons k ss ih =>
   intro m acc hm
   obtain ⟨m,rfl⟩:∃ k,m=k+1:=⟨m - 1,by simp at hm; omega⟩
   have e:((k::ss).flatMap fun k=>overW++k++[10])++(treeW++(t++10::(noteW++(n++10::[]))))=overW++(k++10::((ss.flatMap fun k=>overW++k++[10])++(treeW++(t++10::(noteW++(n++10::[])))))):=by simp
   rw [e,contP,skipP_app]
   simp only [lineP_line k _ (hs k (by simp))]
   rw [ih (fun q hq=>hs q (by simp [hq])) m _ (by simp at hm; omega)]
   simp
theorem cP_ok {c:Cm} (h:okC c=true):cP (textC c)=some c:=by
 obtain ⟨h1,h2,h3,h4⟩:=okC_parts h
 rw [textC_flat,cP,skipP_app]
 simp only
 rw [cont_ok _ _ h3 h4 c.over h1]
 · rfl
 · simp only [List.length_append]
   have:c.over.length≤(c.over.flatMap fun k=>overW++k++[10]).length:=by
    generalize c.over=ss
    induction ss with
    | nil=>simp
    | cons k ss ih=>simp only [List.flatMap_cons,List.length_append,List.length_cons] at ih ⊢; omega
   omega
theorem cutL_over (ss:List (List UInt8)) (hs:∀ k∈ss,(10:UInt8)∉k) (r:List UInt8):cutL ((ss.flatMap fun k=>overW++k++[10])++r)=(ss.map fun k=>overW++k)++cutL r:=by
 induction ss with
 | nil=>rfl
 | cons k ss ih =>
   have e:((k::ss).flatMap fun k=>overW++k++[10])++r=(overW++k)++10::((ss.flatMap fun k=>overW++k++[10])++r):=by simp
   have hk:(10:UInt8)∉overW++k:=by
    intro hm
    rcases List.mem_append.1 hm with hm | hm
    · exact absurd hm (by decide)
    · exact hs k (by simp) hm
   rw [e,cutL_line _ _ hk,ih (fun q hq=>hs q (by simp [hq]))]
   rfl
theorem fold_over (ss:List (List UInt8)):∀ c:Cm,(ss.map fun k=>overW++k).foldl stepC c=⟨c.over++ss,c.tree,c.note⟩:=by
 induction ss with
 | nil=>intro c; simp
 | cons k ss ih =>
   intro c
   have e:stepC c (overW++k)=⟨c.over++[k],c.tree,c.note⟩:=by
    have h5:overW.length=5:=rfl
    unfold stepC
    rw [if_neg (by rw [List.length_append,h5]; omega),if_pos (by rw [show (5:Nat)=overW.length from rfl,List.take_left])]
    rw [show (5:Nat)=overW.length from rfl,List.drop_left]
   rw [List.map_cons,List.foldl_cons,e,ih]
   simp
theorem foldC_ok {c:Cm} (h:okC c=true):foldC (textC c)=c:=by
 obtain ⟨h1,h2,h3,h4⟩:=okC_parts h
 have e:textC c=[99,111,109,109,105,116]++10::((c.over.flatMap fun k=>overW++k++[10])++((treeW++c.tree)++10::((noteW++c.note)++10::[]))):=by
  rw [textC_flat]
  simp [headC]
 have ht:(10:UInt8)∉treeW++c.tree:=fun hm=>(List.mem_append.1 hm).elim (fun h=>absurd h (by decide)) h3
 have hn:(10:UInt8)∉noteW++c.note:=fun hm=>(List.mem_append.1 hm).elim (fun h=>absurd h (by decide)) h4
 have hc:cutL (textC c)=[99,111,109,109,105,116]::((c.over.map fun k=>overW++k)++[treeW++c.tree,noteW++c.note,[]]):=by
  rw [e,cutL_line _ _ (by decide),cutL_over c.over h1,cutL_line _ _ ht,cutL_line _ _ hn]
  rfl
 unfold foldC
 rw [hc,List.take_of_length_le (by simp; omega),List.drop_one,List.tail_cons,List.foldl_append,fold_over]
 obtain ⟨ov,t,n⟩:=c
 simp only [List.nil_append,List.foldl_cons,List.foldl_nil]
 have e1:stepC ⟨ov,[],[]⟩ (treeW++t)=⟨ov,t,[]⟩:=by
  simp [stepC,treeW,overW]
  intro h
  omega
 have e2:stepC ⟨ov,t,[]⟩ (noteW++n)=⟨ov,t,n⟩:=by
  simp [stepC,treeW,overW,noteW]
  intro h
  omega
 rw [e1,e2]
 simp [stepC]
theorem impl_spec (s:List UInt8):implR s=specR s:=by
 by_cases h:∃ c,okC c=true∧textC c=s
 · obtain ⟨c,hc,rfl⟩:=h
   have hw:writeC c=textC c:=by rw [writeC,if_pos hc]
   have hne:textC c≠[]:=by rw [textC_flat]; simp [headC]
   unfold implR specR
   rw [cP_ok hc,foldC_ok hc]
   simp only [hw,if_pos]
   rw [if_neg]
   simp [hne]
 · have hno:∀ c,s≠[]→writeC c≠s:=fun c hs e=>by
    unfold writeC at e
    split at e
    · rename_i hc
      exact h ⟨c,hc,e⟩
    · exact hs e.symm
   by_cases hs:s=[]
   · subst hs
     rfl
   · have h1:specR s=none:=by
      unfold specR
      rw [if_pos (.inr (hno _ hs))]
     rw [h1]
     unfold implR
     cases cP s with
     | none=>rfl
     | some c=>simp only; rw [if_neg (hno c hs)]
end Go.Cod
set_option linter.all false
namespace Go.Cod
variable [Adr]
open Go Go.Proofs
set_option linter.all false
set_option maxRecDepth 10000
theorem idx_cons (b:UInt8) (s:List UInt8):idx10 (b::s)=if b=10 then 0 else if idx10 s=-1 then -1 else idx10 s+1:=by
 unfold idx10
 rw [Lib.indexByte]
 by_cases h:b=10
 · simp [h]
 · simp [h]
theorem lineP_idx (s:List UInt8):(lineP s=none∧idx10 s=-1)∨∃ l r,lineP s=some (l,r)∧idx10 s=(l.length:Int)∧s=l++10::r:=by
 induction s with
 | nil=>exact .inl ⟨rfl,rfl⟩
 | cons b s ih =>
   rw [idx_cons,lineP]
   by_cases h:b=10
   · rw [if_pos h,if_pos h]
     exact .inr ⟨[],s,rfl,rfl,by simp [h]⟩
   · rw [if_neg h,if_neg h]
     rcases ih with ⟨h1,h2⟩ | ⟨l,r,h1,h2,h3⟩
     · rw [h1,h2]
       exact .inl ⟨rfl,rfl⟩
     · rw [h1,h2,if_neg (by omega)]
       exact .inr ⟨b::l,r,rfl,by simp,by rw [h3]; rfl⟩
def cutV (s:List UInt8):V:=match lineP s with
 | none=>.tup [.str s,.str [],.bool false]
 | some (l,r)=>.tup [.str l,.str r,.bool true]
theorem cut1_line (s:List UInt8) (hs:s.length≤4611686018427387904):Pure Tryd.prog 44 [.str s,.str [10]] (·=cutV s):=by
 have hi:=index_line s
 rcases lineP_idx s with ⟨h1,h2⟩ | ⟨l,r,h1,h2,h3⟩
 · rw [cutV,h1]
   rw [h2] at hi
   refine pure_of_awp good Tryd.func44 rfl (by kernel_rfl) (by decide) ?_
   conv=>whnf
   refine .inl (hi.mono ?_)
   rintro q rfl
   conv=>whnf
   rw [leB_f (by omega)]
   conv=>whnf
   rfl
 · rw [cutV,h1]
   rw [h2] at hi
   have hl:l.length+1≤s.length:=by rw [h3,List.length_append,List.length_cons]; omega
   refine pure_of_awp good Tryd.func44 rfl (by kernel_rfl) (by decide) ?_
   conv=>whnf
   refine .inl (hi.mono ?_)
   rintro q rfl
   conv=>whnf
   rw [leB_t (by omega)]
   conv=>whnf
   have w1:IntKind.i64.wrap ((l.length:Int)+1)=((l.length+1:Nat):Int):=by rw [wrap64 (by omega) (by omega)]; omega
   refine ⟨by omega,by omega,rfl,?_⟩
   conv=>whnf
   rw [show IntKind.i64.wrap ((l.length:Int)+(([10]:List UInt8).length:Int))=((l.length+1:Nat):Int) from w1]
   refine ⟨by omega,by omega,rfl,?_⟩
   conv=>whnf
   show V.tup [.str ((s.take l.length)),.str ((s.take s.length).drop (l.length+1)),.bool true]=_
   rw [List.take_length,h3]
   simp
theorem cut_line (s:List UInt8) (hs:s.length≤4611686018427387904):Pure Tryd.prog 38 [.str s,.str [10]] (·=cutV s):=by
 have h:=cut1_line s hs
 have hv:∃ a b c,cutV s=.tup [.str a,.str b,.bool c]:=by
  unfold cutV
  split
  · exact ⟨_,_,_,rfl⟩
  · exact ⟨_,_,_,rfl⟩
 obtain ⟨a,b,c,hv⟩:=hv
 rw [hv] at h ⊢
 refine pure_of_awp good Tryd.func38 rfl (by kernel_rfl) (by decide) ?_
 conv=>whnf
 refine .inl (h.mono ?_)
 rintro q rfl
 conv=>whnf
 rfl
def curO (s:List UInt8) (n:Nat):O:=⟨[[.str s,.int .i64 (n:Int)]],2,true,true,true,.cell⟩
theorem must_full (s:List UInt8) (n:Nat) (b:Bool):Full Tryd.prog noY 29 [.ptr 0 0 0,.bool b] [curO s n] fun o st'=>(b=true∧o=.ret (.tup [])∨b=false∧o=.pan (errV 0))∧st'=[curO s n]:=by
 cases b with
 | true =>
   refine full_of_awp good Tryd.func29 rfl (by kernel_rfl) (by decide) ?_
   conv=>whnf
   refine ⟨[],false,?_⟩
   conv=>whnf
   exact ⟨.inl ⟨rfl,rfl⟩,rfl⟩
 | false =>
   refine full_of_awp good Tryd.func29 rfl (by kernel_rfl) (by decide) ?_
   conv=>whnf
   refine ⟨[],false,?_⟩
   conv=>whnf
   exact ⟨.inr ⟨rfl,rfl⟩,rfl⟩
theorem hasPrefix1_pure (a w:List UInt8) (ha:a.length≤4611686018427387904):Pure Tryd.prog 43 [.str a,.str w] (·=.bool (decide (a.take w.length=w))):=by
 by_cases hl:w.length≤a.length
 · refine pure_of_awp good Tryd.func43 rfl (by kernel_rfl) (by decide) ?_
   conv=>whnf
   rw [leB_t (by omega)]
   conv=>whnf
   refine ⟨by omega,by omega,?_⟩
   conv=>whnf
   rw [Int.toNat_natCast,List.drop_zero,eqS_def]
 · have h:a.take w.length≠w:=fun e=>by
    have:=congrArg List.length e
    rw [List.length_take] at this
    omega
   rw [decide_eq_false h]
   refine pure_of_awp good Tryd.func43 rfl (by kernel_rfl) (by decide) ?_
   conv=>whnf
   rw [leB_f (by omega)]
   conv=>whnf
theorem hasPrefix_pure (a w:List UInt8) (ha:a.length≤4611686018427387904):Pure Tryd.prog 37 [.str a,.str w] (·=.bool (decide (a.take w.length=w))):=by
 have h:=hasPrefix1_pure a w ha
 generalize decide (a.take w.length=w)=b at *
 refine pure_of_awp good Tryd.func37 rfl (by kernel_rfl) (by decide) ?_
 conv=>whnf
 refine .inl (h.mono ?_)
 rintro q rfl
 conv=>whnf
def SkR (s:List UInt8) (n:Nat) (w:List UInt8) (o:Out) (st':St):Prop:=match skipP w (s.drop n) with
 | none=>o=.ret (.bool false)∧st'=[curO s n]
 | some _=>o=.ret (.bool true)∧st'=[curO s (n+w.length)]
theorem skip_full (s w:List UInt8) (n:Nat) (hs:s.length≤1048576) (hn:n≤s.length) (hw:w.length≤1048576):Full Tryd.prog noY 27 [.ptr 0 0 0,.str w] [curO s n] (SkR s n w):=by
 have hp:=hasPrefix_pure (s.drop n) w (by rw [List.length_drop]; omega)
 have hd:List.drop n (List.take s.length s)=s.drop n:=by rw [List.take_length]
 rw [← hd] at hp
 unfold SkR skipP
 by_cases h:(s.drop n).take w.length=w
 · rw [if_pos h]
   rw [hd,decide_eq_true h,← hd] at hp
   have hwn:n+w.length≤s.length:=by
    have:=congrArg List.length h
    rw [List.length_take,List.length_drop] at this
    omega
   refine full_of_awp good Tryd.func27 rfl (by kernel_rfl) (by decide) ?_
   conv=>whnf
   refine ⟨by omega,by omega,rfl,?_⟩
   conv=>whnf
   refine ⟨_,.inl hp,?_⟩
   conv=>whnf
   refine ⟨[],false,?_⟩
   conv=>whnf
   refine ⟨rfl,?_⟩
   show [O.mk [[.str s,.int .i64 (IntKind.i64.wrap ((n:Int)+(w.length:Int)))]] 2 true true true .cell]=[O.mk [[.str s,.int .i64 ((n+w.length:Nat):Int)]] 2 true true true .cell]
   rw [wrap64 (by omega) (by omega)]
   simp
 · rw [if_neg h]
   rw [hd,decide_eq_false h,← hd] at hp
   refine full_of_awp good Tryd.func27 rfl (by kernel_rfl) (by decide) ?_
   conv=>whnf
   refine ⟨by omega,by omega,rfl,?_⟩
   conv=>whnf
   refine ⟨_,.inl hp,?_⟩
   conv=>whnf
   refine ⟨[],false,?_⟩
   conv=>whnf
   exact ⟨rfl,rfl⟩
def WtR (s:List UInt8) (n:Nat) (w:List UInt8) (o:Out) (st':St):Prop:=match skipP w (s.drop n) with
 | none=>o=.pan (errV 0)∧st'=[curO s n]
 | some _=>o=.ret (.tup [])∧st'=[curO s (n+w.length)]
theorem want_full (s w:List UInt8) (n:Nat) (hs:s.length≤1048576) (hn:n≤s.length) (hw:w.length≤1048576):Full Tryd.prog noY 26 [.ptr 0 0 0,.str w] [curO s n] (WtR s n w):=by
 have hk:=skip_full s w n hs hn hw
 unfold SkR at hk
 unfold WtR
 cases h:skipP w (s.drop n) with
 | none =>
   rw [h] at hk
   refine full_of_awp good Tryd.func26 rfl (by kernel_rfl) (by decide) ?_
   conv=>whnf
   refine ⟨[0],false,?_⟩
   conv=>whnf
   refine hk.mono ?_
   rintro o st' ⟨rfl,rfl⟩
   conv=>whnf
   refine ⟨[0],false,?_⟩
   conv=>whnf
   refine (must_full s n false).mono ?_
   rintro o st' ⟨⟨hb,rfl⟩ | ⟨hb,rfl⟩,rfl⟩
   · cases hb
   · conv=>whnf
     refine ⟨[],false,?_⟩
     conv=>whnf
     exact ⟨rfl,rfl⟩
 | some r =>
   rw [h] at hk
   refine full_of_awp good Tryd.func26 rfl (by kernel_rfl) (by decide) ?_
   conv=>whnf
   refine ⟨[0],false,?_⟩
   conv=>whnf
   refine hk.mono ?_
   rintro o st' ⟨rfl,rfl⟩
   conv=>whnf
   refine ⟨[0],false,?_⟩
   conv=>whnf
   refine (must_full s (n+w.length) true).mono ?_
   rintro o st' ⟨⟨hb,rfl⟩ | ⟨hb,rfl⟩,rfl⟩
   · conv=>whnf
     refine ⟨[],false,?_⟩
     conv=>whnf
     exact ⟨rfl,rfl⟩
   · cases hb
def LnR (s:List UInt8) (n:Nat) (o:Out) (st':St):Prop:=match lineP (s.drop n) with
 | none=>o=.pan (errV 0)∧st'=[curO s n]
 | some (l,_)=>o=.ret (.str l)∧st'=[curO s (n+(l.length+1))]
theorem line_full (s:List UInt8) (n:Nat) (hs:s.length≤1048576) (hn:n≤s.length):Full Tryd.prog noY 28 [.ptr 0 0 0] [curO s n] (LnR s n):=by
 have hc:=cut_line (s.drop n) (by rw [List.length_drop]; omega)
 have hd:List.drop n (List.take s.length s)=s.drop n:=by rw [List.take_length]
 rw [← hd] at hc
 unfold LnR
 unfold cutV at hc
 rcases lineP_idx (s.drop n) with ⟨h1,_⟩ | ⟨l,r,h1,_,h3⟩
 · rw [h1]
   rw [hd,h1,← hd] at hc
   refine full_of_awp good Tryd.func28 rfl (by kernel_rfl) (by decide) ?_
   conv=>whnf
   refine ⟨by omega,by omega,rfl,?_⟩
   conv=>whnf
   refine ⟨_,.inl hc,?_⟩
   conv=>whnf
   refine ⟨[0],false,?_⟩
   conv=>whnf
   refine (must_full s n false).mono ?_
   rintro o st' ⟨⟨hb,rfl⟩ | ⟨hb,rfl⟩,rfl⟩
   · cases hb
   · conv=>whnf
     refine ⟨[],false,?_⟩
     conv=>whnf
     exact ⟨rfl,rfl⟩
 · rw [h1]
   rw [hd,h1,← hd] at hc
   have hl:n+(l.length+1)≤s.length:=by
    have:=congrArg List.length h3
    rw [List.length_drop,List.length_append,List.length_cons] at this
    omega
   refine full_of_awp good Tryd.func28 rfl (by kernel_rfl) (by decide) ?_
   conv=>whnf
   refine ⟨by omega,by omega,rfl,?_⟩
   conv=>whnf
   refine ⟨_,.inl hc,?_⟩
   conv=>whnf
   refine ⟨[0],false,?_⟩
   conv=>whnf
   refine (must_full s n true).mono ?_
   rintro o st' ⟨⟨hb,rfl⟩ | ⟨hb,rfl⟩,rfl⟩
   · conv=>whnf
     refine ⟨[],false,?_⟩
     conv=>whnf
     refine ⟨rfl,?_⟩
     show [O.mk [[.str s,.int .i64 (IntKind.i64.wrap ((n:Int)+IntKind.i64.wrap ((l.length:Int)+1)))]] 2 true true true .cell]=[O.mk [[.str s,.int .i64 ((n+(l.length+1):Nat):Int)]] 2 true true true .cell]
     rw [wrap64 (a:=(l.length:Int)+1) (by omega) (by omega),wrap64 (by omega) (by omega)]
     simp
   · cases hb
end Go.Cod
set_option linter.all false
namespace Go.Cod
variable [Adr]
open Go Go.Proofs
set_option linter.all false
set_option maxRecDepth 10000
def bx3 (cs:List V):O:=⟨[cs],3,true,true,true,.cell⟩
def ovV (ss:List (List UInt8)) (k:Nat):V:=match ss with
 | []=>.nils
 | _::_=>.own k
def ovO (ss:List (List UInt8)):List O:=match ss with
 | []=>[]
 | _::_=>[⟨srows ss,1,true,true,false,.cell⟩]
theorem ovO_snoc (a:List UInt8) (ss:List (List UInt8)) (b:List UInt8):ovO ((a::ss)++[b])=[⟨srows (a::ss)++[[.str b]],1,true,true,false,.cell⟩]:=by
 show [O.mk (srows ((a::ss)++[b])) 1 true true false .cell]=_
 rw [show srows ((a::ss)++[b])=srows (a::ss)++[[.str b]] by simp [srows]]
def CmR (s:List UInt8) (o:Out) (st':St):Prop:=∃ n':Nat,match implR s with
 | none=>o=.pan (errV 0)∧st'=[curO s n']
 | some c=>o=.ret (.agg [ovV c.over 1,.str c.tree,.str c.note])∧st'=[curO s n']++ovO c.over
set_option maxHeartbeats 4000000 in
theorem commit_full (s:List UInt8) (hs:s.length≤1048576):Full Tryd.prog noY 15 [.ptr 0 0 0] [curO s 0] (CmR s):=by
 have hw:=fun (w:List UInt8) (n:Nat) (hn:n≤s.length) (hw:w.length≤1048576)=>want_full s w n hs hn hw
 have hl:=fun (n:Nat) (hn:n≤s.length)=>line_full s n hs hn
 have hk:=fun (w:List UInt8) (n:Nat) (hn:n≤s.length) (hw:w.length≤1048576)=>skip_full s w n hs hn hw
 have hno:cP s=none→implR s=none:=fun h=>by rw [implR,h]
 have h1:=hw headC 0 (by omega) (by decide)
 unfold WtR at h1
 rw [List.drop_zero] at h1
 have hsk:∀ (w:List UInt8) (n:Nat) (r:List UInt8),skipP w (s.drop n)=some r→r=s.drop (n+w.length)∧(w≠[]→n+w.length≤s.length):=fun w n r h=>by
  unfold skipP at h
  split at h
  · rename_i e
    refine ⟨by rw [← List.drop_drop]; exact (Option.some.inj h).symm,fun hw=>?_⟩
    have:=congrArg List.length e
    rw [List.length_take,List.length_drop] at this
    have:0 < w.length:=List.length_pos_iff.2 hw
    omega
  · cases h
 have hafter:∀ (p:Nat) (r l r2:List UInt8),r=s.drop (p+5)→p+5≤s.length→lineP r=some (l,r2)→r2=s.drop (p+5+(l.length+1))∧p+5+(l.length+1)≤s.length∧l.length≤1048576:=fun p r l r2 h1 h2 h3=>by
  rcases lineP_idx r with ⟨h4,_⟩ | ⟨l',r',h4,_,h5⟩
  · rw [h4] at h3; cases h3
  · rw [h4] at h3
    cases h3
    have hlen:=congrArg List.length h5
    rw [h1,List.length_drop,List.length_append,List.length_cons] at hlen
    refine ⟨?_,by omega,by omega⟩
    rw [← List.drop_drop,← h1,h5]
    simp
 refine full_of_awp good Tryd.func15 rfl (by kernel_rfl) (by decide) ?_
 conv=>whnf
 refine ⟨[0],false,?_⟩
 conv=>whnf
 refine h1.mono ?_
 cases hh:skipP headC s with
 | none =>
   rintro o st' ⟨rfl,rfl⟩
   have hc:implR s=none:=hno (by rw [cP,hh])
   conv=>whnf
   refine ⟨[],false,?_⟩
   conv=>whnf
   refine ⟨0,?_⟩
   rw [hc]
   exact ⟨rfl,rfl⟩
 | some s1 =>
   rintro o st' ⟨rfl,rfl⟩
   have hh':=hsk headC 0 s1 (by rw [List.drop_zero]; exact hh)
   obtain ⟨hr1,hr2⟩:=hh'
   have hr2:=hr2 (by decide)
   have hc0:cP s=contP (s1.length+1) [] s1:=by rw [cP,hh]
   have hl1:s1.length=s.length - 7:=by rw [hr1,List.length_drop]; rfl
   have h7:headC.length=7:=rfl
   rw [h7] at hr1 hr2
   conv=>whnf
   refine loop_drop (fun n fr st=>∃ (p m:Nat) (acc:List (List UInt8)),n+p=s.length∧cP s=contP m acc (s.drop p)∧s.length - p < m∧acc.length≤p∧(∀ x∈acc,x.length≤1048576) ∧
     Holds fr [(0,.ptr 0 0 0),(2,.ptr 1 0 0),(3,.ptr 2 0 0)]∧st=[curO s p,bx3 [.nils,.str [],.str []],bx3 [ovV acc 3,.str [],.str []]]++ovO acc) (s.length - 7) none
    (by
      conv=>whnf
      exact ⟨7,s1.length+1,[],by omega,by rw [hc0,hr1],by omega,by simp,by simp,⟨rfl,rfl,rfl,trivial⟩,rfl⟩) ?_
   rintro n fr st ⟨p,m,acc,j1,j2,j3,j4,j5,hh2,rfl⟩
   obtain ⟨fr,rfl⟩:=hh2.split
   clear hh2
   obtain ⟨m,rfl⟩:∃ k,m=k+1:=⟨m - 1,by omega⟩
   have hk1:=hk overW p (by omega) (by decide)
   unfold SkR at hk1
   rw [contP] at j2
   cases hsk1:skipP overW (s.drop p) with
   | some r =>
     rw [hsk1] at hk1 j2
     simp only at j2
     obtain ⟨q1,q2⟩:=hsk overW p r hsk1
     have q2:=q2 (by decide)
     have h5:overW.length=5:=rfl
     rw [h5] at q1 q2 hk1
     have hln:=hl (p+5) (by omega)
     unfold LnR at hln
     rw [← q1] at hln
     cases acc with
     | nil =>
       conv=>whnf
       refine ⟨[0],false,?_⟩
       conv=>whnf
       refine hk1.mono ?_
       rintro o st' ⟨rfl,rfl⟩
       conv=>whnf
       refine ⟨[0],false,?_⟩
       conv=>whnf
       refine hln.mono ?_
       cases hlp:lineP r with
       | none =>
         rintro o st' ⟨rfl,rfl⟩
         rw [hlp] at j2
         simp only at j2
         have hc:implR s=none:=hno j2
         conv=>whnf
         intro fr'
         conv=>whnf
         refine ⟨[],false,?_⟩
         conv=>whnf
         refine ⟨p+5,?_⟩
         rw [hc]
         exact ⟨rfl,rfl⟩
       | some lr =>
         obtain ⟨l,r2⟩:=lr
         rintro o st' ⟨rfl,rfl⟩
         rw [hlp] at j2
         simp only at j2
         obtain ⟨t1,t2,t3⟩:=hafter p r l r2 q1 q2 hlp
         conv=>whnf
         repeat
          refine And.intro (by (conv=>whnf); rfl) ?_
          conv=>whnf
         refine ⟨fun m hm=>by rw [List.mem_singleton.1 hm]; rfl,?_⟩
         conv=>whnf
         refine ⟨by show 1*16≤_; omega,.inr ⟨(by intro e; cases e),?_⟩⟩
         conv=>whnf
         refine ⟨n - (5+(l.length+1)),by omega,some [0,1,2,4],?_⟩
         conv=>whnf
         exact ⟨p+5+(l.length+1),m,[l],by omega,by rw [← t1]; exact j2,by omega,by simp; omega,by intro x hx; rw [List.mem_singleton.1 hx]; exact t3,⟨rfl,rfl,rfl,trivial⟩,rfl⟩
     | cons a0 acc =>
       conv=>whnf
       refine ⟨[0],false,?_⟩
       conv=>whnf
       refine hk1.mono ?_
       rintro o st' ⟨rfl,rfl⟩
       conv=>whnf
       refine ⟨[0],false,?_⟩
       conv=>whnf
       refine hln.mono ?_
       cases hlp:lineP r with
       | none =>
         rintro o st' ⟨rfl,rfl⟩
         rw [hlp] at j2
         simp only at j2
         have hc:implR s=none:=hno j2
         conv=>whnf
         intro fr'
         conv=>whnf
         refine ⟨[],false,?_⟩
         conv=>whnf
         refine ⟨p+5,?_⟩
         rw [hc]
         exact ⟨rfl,rfl⟩
       | some lr =>
         obtain ⟨l,r2⟩:=lr
         rintro o st' ⟨rfl,rfl⟩
         rw [hlp] at j2
         simp only at j2
         obtain ⟨t1,t2,t3⟩:=hafter p r l r2 q1 q2 hlp
         conv=>whnf
         repeat
          refine And.intro (by (conv=>whnf); rfl) ?_
          conv=>whnf
         refine ⟨fun m hm=>by rw [List.mem_singleton.1 hm]; rfl,?_⟩
         conv=>whnf
         refine ⟨by
          show ((srows (a0::acc)).length+1)*16≤_
          rw [srows_len]; omega,?_⟩
         conv=>whnf
         refine ⟨n - (5+(l.length+1)),by omega,some [0,1,2,5],?_⟩
         conv=>whnf
         refine ⟨p+5+(l.length+1),m,(a0::acc)++[l],by omega,by rw [← t1]; exact j2,by omega,by simp at j4 ⊢; omega,?_,⟨rfl,rfl,rfl,trivial⟩,?_⟩
         · intro x hx
           rcases List.mem_append.1 hx with h | h
           · exact j5 x h
           · rw [List.mem_singleton.1 h]; exact t3
         · rw [ovO_snoc]
           rfl
   | none =>
     rw [hsk1] at hk1 j2
     simp only at j2
     have hw1:=hw treeW p (by omega) (by decide)
     unfold WtR at hw1
     cases acc with
     | nil =>
       conv=>whnf
       refine ⟨[0],false,?_⟩
       conv=>whnf
       refine hk1.mono ?_
       rintro o st' ⟨rfl,rfl⟩
       conv=>whnf
       refine ⟨[0],false,?_⟩
       conv=>whnf
       refine hw1.mono ?_
       cases hw2:skipP treeW (s.drop p) with
       | none =>
         rintro o st' ⟨rfl,rfl⟩
         have hc:implR s=none:=hno (by rw [j2,tailP,hw2])
         conv=>whnf
         refine ⟨[],false,?_⟩
         conv=>whnf
         refine ⟨p,?_⟩
         rw [hc]
         exact ⟨rfl,rfl⟩
       | some r1 =>
         rintro o st' ⟨rfl,rfl⟩
         obtain ⟨q1,q2⟩:=hsk treeW p r1 hw2
         have q2:=q2 (by decide)
         have h5:treeW.length=5:=rfl
         rw [h5] at q1 q2
         have hln:=hl (p+5) (by omega)
         unfold LnR at hln
         rw [← q1] at hln
         conv=>whnf
         refine ⟨[0],false,?_⟩
         conv=>whnf
         refine hln.mono ?_
         cases hlp:lineP r1 with
         | none =>
           rintro o st' ⟨rfl,rfl⟩
           have hc:implR s=none:=hno (by rw [j2,tailP,hw2]; simp only [hlp])
           conv=>whnf
           refine ⟨[],false,?_⟩
           conv=>whnf
           refine ⟨p+5,?_⟩
           rw [hc]
           exact ⟨rfl,rfl⟩
         | some lr =>
           obtain ⟨t,r2⟩:=lr
           rintro o st' ⟨rfl,rfl⟩
           obtain ⟨t1,t2,t3⟩:=hafter p r1 t r2 q1 q2 hlp
           have hw3:=hw noteW (p+5+(t.length+1)) (by omega) (by decide)
           unfold WtR at hw3
           rw [← t1] at hw3
           conv=>whnf
           refine ⟨[0],false,?_⟩
           conv=>whnf
           refine hw3.mono ?_
           cases hw4:skipP noteW r2 with
           | none =>
             rintro o st' ⟨rfl,rfl⟩
             have hc:implR s=none:=hno (by rw [j2,tailP,hw2]; simp only [hlp,hw4])
             conv=>whnf
             refine ⟨[],false,?_⟩
             conv=>whnf
             refine ⟨p+5+(t.length+1),?_⟩
             rw [hc]
             exact ⟨rfl,rfl⟩
           | some r3 =>
             rintro o st' ⟨rfl,rfl⟩
             have hw4':=hw4
             rw [t1] at hw4'
             obtain ⟨v1,v2⟩:=hsk noteW (p+5+(t.length+1)) r3 hw4'
             have v2:=v2 (by decide)
             have h6:noteW.length=5:=rfl
             rw [h6] at v1 v2
             have hln2:=hl (p+5+(t.length+1)+5) (by omega)
             unfold LnR at hln2
             rw [← v1] at hln2
             conv=>whnf
             refine ⟨[0],false,?_⟩
             conv=>whnf
             refine hln2.mono ?_
             cases hlq:lineP r3 with
             | none =>
               rintro o st' ⟨rfl,rfl⟩
               have hc:implR s=none:=hno (by rw [j2,tailP,hw2]; simp only [hlp,hw4,hlq])
               conv=>whnf
               refine ⟨[],false,?_⟩
               conv=>whnf
               refine ⟨p+5+(t.length+1)+5,?_⟩
               rw [hc]
               exact ⟨rfl,rfl⟩
             | some lr2 =>
               obtain ⟨nt,r4⟩:=lr2
               rintro o st' ⟨rfl,rfl⟩
               obtain ⟨u1,u2,u3⟩:=hafter (p+5+(t.length+1)) r3 nt r4 v1 v2 hlq
               have hwc:Pure Tryd.prog 8 [.agg [.sl [],.str t,.str nt]] (·=.str (writeC ⟨[],t,nt⟩)):=implCommitWrite_pure ⟨[],t,nt⟩ ⟨by simp,by simp,t3,u3⟩
               have hcp:cP s=some ⟨[],t,nt⟩:=by rw [j2,tailP,hw2]; simp only [hlp,hw4,hlq]
               have him:implR s=if writeC ⟨[],t,nt⟩=s then some ⟨[],t,nt⟩ else none:=by rw [implR,hcp]
               generalize writeC ⟨[],t,nt⟩=wc at *
               conv=>whnf
               refine .inl (hwc.mono ?_)
               rintro q rfl
               conv=>whnf
               repeat
                refine And.intro (by (conv=>whnf); rfl) ?_
                conv=>whnf
               refine ⟨[0],false,?_⟩
               conv=>whnf
               refine (must_full s (p+5+(t.length+1)+5+(nt.length+1)) (eqS wc s)).mono ?_
               rintro o st' ⟨⟨hb,rfl⟩ | ⟨hb,rfl⟩,rfl⟩
               · rw [if_pos (eqS_iff.1 hb)] at him
                 conv=>whnf
                 refine ⟨[],true,?_⟩
                 conv=>whnf
                 refine ⟨p+5+(t.length+1)+5+(nt.length+1),?_⟩
                 rw [him]
                 exact ⟨rfl,rfl⟩
               · rw [if_neg (eqS_nff.1 hb)] at him
                 conv=>whnf
                 intro fr'
                 conv=>whnf
                 refine ⟨[],false,?_⟩
                 conv=>whnf
                 refine ⟨p+5+(t.length+1)+5+(nt.length+1),?_⟩
                 rw [him]
                 exact ⟨rfl,rfl⟩
     | cons a0 acc =>
       conv=>whnf
       refine ⟨[0],false,?_⟩
       conv=>whnf
       refine hk1.mono ?_
       rintro o st' ⟨rfl,rfl⟩
       conv=>whnf
       refine ⟨[0],false,?_⟩
       conv=>whnf
       refine hw1.mono ?_
       cases hw2:skipP treeW (s.drop p) with
       | none =>
         rintro o st' ⟨rfl,rfl⟩
         have hc:implR s=none:=hno (by rw [j2,tailP,hw2])
         conv=>whnf
         refine ⟨[],false,?_⟩
         conv=>whnf
         refine ⟨p,?_⟩
         rw [hc]
         exact ⟨rfl,rfl⟩
       | some r1 =>
         rintro o st' ⟨rfl,rfl⟩
         obtain ⟨q1,q2⟩:=hsk treeW p r1 hw2
         have q2:=q2 (by decide)
         have h5:treeW.length=5:=rfl
         rw [h5] at q1 q2
         have hln:=hl (p+5) (by omega)
         unfold LnR at hln
         rw [← q1] at hln
         conv=>whnf
         refine ⟨[0],false,?_⟩
         conv=>whnf
         refine hln.mono ?_
         cases hlp:lineP r1 with
         | none =>
           rintro o st' ⟨rfl,rfl⟩
           have hc:implR s=none:=hno (by rw [j2,tailP,hw2]; simp only [hlp])
           conv=>whnf
           refine ⟨[],false,?_⟩
           conv=>whnf
           refine ⟨p+5,?_⟩
           rw [hc]
           exact ⟨rfl,rfl⟩
         | some lr =>
           obtain ⟨t,r2⟩:=lr
           rintro o st' ⟨rfl,rfl⟩
           obtain ⟨t1,t2,t3⟩:=hafter p r1 t r2 q1 q2 hlp
           have hw3:=hw noteW (p+5+(t.length+1)) (by omega) (by decide)
           unfold WtR at hw3
           rw [← t1] at hw3
           conv=>whnf
           refine ⟨[0],false,?_⟩
           conv=>whnf
           refine hw3.mono ?_
           cases hw4:skipP noteW r2 with
           | none =>
             rintro o st' ⟨rfl,rfl⟩
             have hc:implR s=none:=hno (by rw [j2,tailP,hw2]; simp only [hlp,hw4])
             conv=>whnf
             refine ⟨[],false,?_⟩
             conv=>whnf
             refine ⟨p+5+(t.length+1),?_⟩
             rw [hc]
             exact ⟨rfl,rfl⟩
           | some r3 =>
             rintro o st' ⟨rfl,rfl⟩
             have hw4':=hw4
             rw [t1] at hw4'
             obtain ⟨v1,v2⟩:=hsk noteW (p+5+(t.length+1)) r3 hw4'
             have v2:=v2 (by decide)
             have h6:noteW.length=5:=rfl
             rw [h6] at v1 v2
             have hln2:=hl (p+5+(t.length+1)+5) (by omega)
             unfold LnR at hln2
             rw [← v1] at hln2
             conv=>whnf
             refine ⟨[0],false,?_⟩
             conv=>whnf
             refine hln2.mono ?_
             cases hlq:lineP r3 with
             | none =>
               rintro o st' ⟨rfl,rfl⟩
               have hc:implR s=none:=hno (by rw [j2,tailP,hw2]; simp only [hlp,hw4,hlq])
               conv=>whnf
               refine ⟨[],false,?_⟩
               conv=>whnf
               refine ⟨p+5+(t.length+1)+5,?_⟩
               rw [hc]
               exact ⟨rfl,rfl⟩
             | some lr2 =>
               obtain ⟨nt,r4⟩:=lr2
               rintro o st' ⟨rfl,rfl⟩
               obtain ⟨u1,u2,u3⟩:=hafter (p+5+(t.length+1)) r3 nt r4 v1 v2 hlq
               have hwc:Full Tryd.prog noY 8 [.agg [.own 0,.str t,.str nt]] (ovO (a0::acc)) fun o st'=>o=.ret (.str (writeC ⟨a0::acc,t,nt⟩))∧st'=ovO (a0::acc):=own_callStr rfl rfl (fun Pr γ w cargs g hg ha hs=>rep_own3 hg ha hs) (implCommitWrite_pure ⟨a0::acc,t,nt⟩ ⟨by show (a0::acc).length≤_; omega,j5,t3,u3⟩)
               have hcp:cP s=some ⟨a0::acc,t,nt⟩:=by rw [j2,tailP,hw2]; simp only [hlp,hw4,hlq]
               have him:implR s=if writeC ⟨a0::acc,t,nt⟩=s then some ⟨a0::acc,t,nt⟩ else none:=by rw [implR,hcp]
               generalize writeC ⟨a0::acc,t,nt⟩=wc at *
               conv=>whnf
               refine ⟨[3],false,?_⟩
               conv=>whnf
               refine hwc.mono ?_
               rintro o st' ⟨rfl,rfl⟩
               conv=>whnf
               repeat
                refine And.intro (by (conv=>whnf); rfl) ?_
                conv=>whnf
               refine ⟨[0],false,?_⟩
               conv=>whnf
               refine (must_full s (p+5+(t.length+1)+5+(nt.length+1)) (eqS wc s)).mono ?_
               rintro o st' ⟨⟨hb,rfl⟩ | ⟨hb,rfl⟩,rfl⟩
               · rw [if_pos (eqS_iff.1 hb)] at him
                 conv=>whnf
                 refine ⟨[3],true,?_⟩
                 conv=>whnf
                 refine ⟨p+5+(t.length+1)+5+(nt.length+1),?_⟩
                 rw [him]
                 exact ⟨rfl,rfl⟩
               · rw [if_neg (eqS_nff.1 hb)] at him
                 conv=>whnf
                 intro fr'
                 conv=>whnf
                 refine ⟨[],false,?_⟩
                 conv=>whnf
                 refine ⟨p+5+(t.length+1)+5+(nt.length+1),?_⟩
                 rw [him]
                 exact ⟨rfl,rfl⟩
end Go.Cod
set_option linter.all false
namespace Go.Cod
variable [Adr]
open Go Go.Proofs Go.RowKit
set_option maxRecDepth 100000
theorem catchPCommit (p:Addr) (x:Bool) (u:TypeId) (pv:Value) (older:List PanicEntry) (w:World) (hc:w.cell? p=some (.bool x)) (hz:w.frozen? p=false) :
  CallsD Tryd.prog 25 #[.pointer (some p)] (.panicking ({ v:=.iface u pv,recovered:=false }::older)) w fun e u' w' =>
   e=.returned (.tuple #[])∧u'=.panicking ({ v:=.iface u pv,recovered:=true }::older)∧w'=w.setCell p (.bool false):=by
 have hn:=fun w=>run_equal_nil_iface (P:=Tryd.prog) (d:=u) (u:=pv) Tryd.underlying20 w
 refine callsD_of_wpS Tryd.func25 rfl fun c₀ cs hu=>?_
 apply wpS_region
 simp [wpOpsS,go_sem,recoverD,hu,Tryd.ntmps25,Exit.thenS,hc,hz,bodyPostS,results,Tryd.results25,binOp,hn]
theorem catchICommit (p:Addr) (x:Bool) (w:World) (hc:w.cell? p=some (.bool x)) (hz:w.frozen? p=false) :
  CallsD Tryd.prog 25 #[.pointer (some p)] .returning w fun e u' w'=>e=.returned (.tuple #[])∧u'=.returning∧w'=w.setCell p (.bool true):=by
 have hn:=fun w=>run_equal_nil_nil (P:=Tryd.prog) Tryd.underlying20 w
 refine callsD_of_wpS Tryd.func25 rfl fun c₀ cs hu=>?_
 apply wpS_region
 simp [wpOpsS,go_sem,recoverD,hu,Tryd.ntmps25,Exit.thenS,hc,hz,bodyPostS,results,Tryd.results25,binOp,hn]
 cases c₀
 simp_all
def svCommit (cv:Value):Prop:=∃ a0 a1 a2,cv=.agg #[a0,a1,a2]∧a0.oneCell'=true∧a1.oneCell'=true∧a2.oneCell'=true
def fitsCommit (cargs gcargs:List Value):Prop:=∃ p,cargs=[.func (.func 15) #[p] #[]]∧gcargs=[p]
set_option maxHeartbeats 4000000 in
theorem bodyCommit (w:World) (cargs gcargs:List Value) (Q:World→Ending→World→Prop) (hf:fitsCommit cargs gcargs)
  (hcall:∀ w2,Grew2 w w2→Calls Tryd.prog 15 gcargs.toArray w2 (Q w2))
  (hQ:∀ w2 e W,Grew2 w w2→Q w2 e W→W.heap[w.heap.size]? = w2.heap[w.heap.size]? ∧ W.heap[w.heap.size+1]? = w2.heap[w.heap.size+1]? ∧ ((∃ cv,e=.returned cv∧svCommit cv)∨∃ u v,e=.panicked [{ v:=.iface u v,recovered:=false }])) :
  Calls Tryd.prog 14 cargs.toArray w fun e5 w5=>∃ w2 e W,Grew2 w w2∧Q w2 e W∧Sets w.heap.size W w5∧((∃ cv,e=.returned cv∧e5=.returned (.tuple #[cv,.bool true]))∨∃ u v,e=.panicked [{ v:=.iface u v,recovered:=false }]∧e5=.returned (.tuple #[.agg #[.slice none 0 0,.string ⟨#[]⟩,.string ⟨#[]⟩],.bool false])):=by
 have hmf:∀ (fn:Fn) (first cap:Array Value) (w:World),(Instr.makeFunc fn first cap).run Tryd.prog w=.ok (.func fn first cap) w:=fun _ _ _ _=>rfl
 obtain ⟨p,rfl,rfl⟩:=hf
 go_enter_defers Tryd.func14,Tryd.ntmps14
 go_wp2_with (go_at_call 15; refine (hcall _ ?_).mono ?_)
 · exact grew2_alloc _ _ _
 intro e W hq
 obtain ⟨h1,h2,h3⟩:=hQ _ e W (grew2_alloc _ _ _) hq
 have h1:W.heap[w.heap.size]? = some (.cells #[.slice none 0 0,.string ⟨#[]⟩,.string ⟨#[]⟩] 26 (0,0)):=h1.trans (alloc2_at0 _ _ _)
 have h2:W.heap[w.heap.size+1]? = some (.cells #[.bool false] 4 (0,0)):=h2.trans (alloc2_at1 _ _ _)
 have cb:W.cell? ⟨w.heap.size+1,0,none⟩=some (.bool false):=by simp [World.cell?,h2]
 have f0:∀ o,W.frozen? ⟨w.heap.size,o,none⟩=false:=fun o=>by simp [World.frozen?,h1]
 have f1:∀ o,W.frozen? ⟨w.heap.size+1,o,none⟩=false:=fun o=>by simp [World.frozen?,h2]
 have c0:W.cell? ⟨w.heap.size,0,none⟩=some (.slice none 0 0):=by simp [World.cell?,h1]
 have c1:W.cell? ⟨w.heap.size,1,none⟩=some (.string ⟨#[]⟩):=by simp [World.cell?,h1]
 have c2:W.cell? ⟨w.heap.size,2,none⟩=some (.string ⟨#[]⟩):=by simp [World.cell?,h1]
 rcases h3 with ⟨_,rfl,a0,a1,a2,rfl,g0,g1,g2⟩ | ⟨u,v,rfl⟩
 · have d0:W.cell? ⟨w.heap.size,0,none⟩=some (.slice none 0 0):=by exact c0
   have s0:=run_store_cell (P:=Tryd.prog) g0 d0 (by exact f0 0)
   have d1:(W.setCell ⟨w.heap.size,0,none⟩ a0).cell? ⟨w.heap.size,1,none⟩=some (.string ⟨#[]⟩):=by rw [World.cell?_setCell_other _ _ _ _ (by simp)]; exact c1
   have s1:=run_store_cell (P:=Tryd.prog) g1 d1 (by rw [World.frozen?_setCell]; exact f0 1)
   have d2:((W.setCell ⟨w.heap.size,0,none⟩ a0).setCell ⟨w.heap.size,1,none⟩ a1).cell? ⟨w.heap.size,2,none⟩=some (.string ⟨#[]⟩):=by rw [World.cell?_setCell_other _ _ _ _ (by simp),World.cell?_setCell_other _ _ _ _ (by simp)]; exact c2
   have s2:=run_store_cell (P:=Tryd.prog) g2 d2 (by rw [World.frozen?_setCell,World.frozen?_setCell]; exact f0 2)
   go_wp2
   refine leaves_cons (f:=25) (args:=#[.pointer (some ⟨w.heap.size+1,0,none⟩)]) (by simp) (by simp [go_sem]) ?_
   refine (catchICommit ⟨w.heap.size+1,0,none⟩ false _ ?_ ?_).mono ?_
   · rw [World.cell?_setCell_other _ _ _ _ (by simp),World.cell?_setCell_other _ _ _ _ (by simp),World.cell?_setCell_other _ _ _ _ (by simp)]; exact cb
   · rw [World.frozen?_setCell,World.frozen?_setCell,World.frozen?_setCell]; exact f1 0
   rintro e u' w'' ⟨rfl,rfl,rfl⟩
   have r0:((((W.setCell ⟨w.heap.size,0,none⟩ a0).setCell ⟨w.heap.size,1,none⟩ a1).setCell ⟨w.heap.size,2,none⟩ a2).setCell ⟨w.heap.size+1,0,none⟩ (.bool true)).cell? ⟨w.heap.size,0,none⟩=some a0:=by
    rw [World.cell?_setCell_other _ _ _ _ (by simp),World.cell?_setCell_other _ _ _ _ (by simp),World.cell?_setCell_other _ _ _ _ (by simp)]; exact World.cell?_setCell_same _ _ _ d0
   have r1:((((W.setCell ⟨w.heap.size,0,none⟩ a0).setCell ⟨w.heap.size,1,none⟩ a1).setCell ⟨w.heap.size,2,none⟩ a2).setCell ⟨w.heap.size+1,0,none⟩ (.bool true)).cell? ⟨w.heap.size,1,none⟩=some a1:=by
    rw [World.cell?_setCell_other _ _ _ _ (by simp),World.cell?_setCell_other _ _ _ _ (by simp)]; exact World.cell?_setCell_same _ _ _ d1
   have r2:((((W.setCell ⟨w.heap.size,0,none⟩ a0).setCell ⟨w.heap.size,1,none⟩ a1).setCell ⟨w.heap.size,2,none⟩ a2).setCell ⟨w.heap.size+1,0,none⟩ (.bool true)).cell? ⟨w.heap.size,2,none⟩=some a2:=by
    rw [World.cell?_setCell_other _ _ _ _ (by simp)]; exact World.cell?_setCell_same _ _ _ d2
   have rb:((((W.setCell ⟨w.heap.size,0,none⟩ a0).setCell ⟨w.heap.size,1,none⟩ a1).setCell ⟨w.heap.size,2,none⟩ a2).setCell ⟨w.heap.size+1,0,none⟩ (.bool true)).cell? ⟨w.heap.size+1,0,none⟩=some (.bool true):=by
    refine World.cell?_setCell_same _ _ _ (u:=.bool false) ?_
    rw [World.cell?_setCell_other _ _ _ _ (by simp),World.cell?_setCell_other _ _ _ _ (by simp),World.cell?_setCell_other _ _ _ _ (by simp)]; exact cb
   have hS:=((((Sets.refl w.heap.size W).set ⟨w.heap.size,0,none⟩ a0 (.inl rfl)).set ⟨w.heap.size,1,none⟩ a1 (.inl rfl)).set ⟨w.heap.size,2,none⟩ a2 (.inl rfl)).set ⟨w.heap.size+1,0,none⟩ (.bool true) (.inr rfl)
   generalize ((((W.setCell ⟨w.heap.size,0,none⟩ a0).setCell ⟨w.heap.size,1,none⟩ a1).setCell ⟨w.heap.size,2,none⟩ a2).setCell ⟨w.heap.size+1,0,none⟩ (.bool true))=W5 at *
   simp [Leaves,settle,results,Tryd.results14,go_sem,r0,r1,r2,rb]
   trace_state
   first | exact ⟨_,grew2_alloc _ _ _,_,W,hq,hS,rfl⟩ | exact ⟨_,W,⟨_,grew2_alloc _ _ _,hq⟩,hS,rfl⟩ | exact ⟨_,_,W,grew2_alloc _ _ _,hq,hS,rfl⟩
 · go_wp2
   refine leaves_cons (f:=25) (args:=#[.pointer (some ⟨w.heap.size+1,0,none⟩)]) (by simp) (by simp [go_sem]) ?_
   refine (catchPCommit ⟨w.heap.size+1,0,none⟩ false u v [] _ cb (f1 0)).mono ?_
   rintro e u' w'' ⟨rfl,rfl,rfl⟩
   have r0:(W.setCell ⟨w.heap.size+1,0,none⟩ (.bool false)).cell? ⟨w.heap.size,0,none⟩=some (.slice none 0 0):=by
    rw [World.cell?_setCell_other _ _ _ _ (by simp)]; exact c0
   have r1:(W.setCell ⟨w.heap.size+1,0,none⟩ (.bool false)).cell? ⟨w.heap.size,1,none⟩=some (.string ⟨#[]⟩):=by
    rw [World.cell?_setCell_other _ _ _ _ (by simp)]; exact c1
   have r2:(W.setCell ⟨w.heap.size+1,0,none⟩ (.bool false)).cell? ⟨w.heap.size,2,none⟩=some (.string ⟨#[]⟩):=by
    rw [World.cell?_setCell_other _ _ _ _ (by simp)]; exact c2
   have rb:(W.setCell ⟨w.heap.size+1,0,none⟩ (.bool false)).cell? ⟨w.heap.size+1,0,none⟩=some (.bool false):=World.cell?_setCell_same _ _ _ cb
   have hS:=(Sets.refl w.heap.size W).set ⟨w.heap.size+1,0,none⟩ (.bool false) (.inr rfl)
   generalize (W.setCell ⟨w.heap.size+1,0,none⟩ (.bool false))=W5 at *
   simp [Leaves,settle,results,Tryd.results14,go_sem,r0,r1,r2,rb]
   first | exact ⟨_,grew2_alloc _ _ _,_,W,hq,hS,u,v,rfl⟩ | exact ⟨_,W,⟨_,grew2_alloc _ _ _,hq⟩,hS,u,v,rfl⟩
theorem zeroCommit (Pr γ) (w:World):Rep Pr γ w (.agg [.nils,.str [],.str []]) (.agg #[.slice none 0 0,.string ⟨#[]⟩,.string ⟨#[]⟩]):=by
 have:=RepL.nil (Pr:=Pr) (γ:=γ) (w:=w)
 have:=RepL.cons (.str []) this
 have:=RepL.cons (.str []) this
 have:=RepL.cons (.nils none) this
 exact Rep.agg this.1 this.2
theorem readTextCommit {ok:OkY} {st0:St} {p:V} {σ:List Nat} {kn:Bool} {K Z:V→St→Prop} {R:Out→St→Prop} (hA:ACallG Tryd.prog ok 15 [p] st0 σ kn K Z)
  (hK:∀ v st',K v st'→(∃ a0 a1 a2,v=.agg [a0,a1,a2]∧a0.leaf=true∧a1.leaf=true∧a2.leaf=true)∧R (.ret (.tup [v,.bool true])) st')
  (hZ:∀ v st',Z v st'→((∃ u x,v=.iface u x)∨∃ u x,v=.raw (.iface u x))∧R (.ret (.tup [.agg [.nils,.str [],.str []],.bool false])) st') :
  Full Tryd.prog ok 14 [.bnd 15 p] st0 R:=by
 refine full_frame (Fits:=fitsCommit) (SV:=svCommit) ⟨_,Tryd.func14,by kernel_rfl,by kernel_rfl⟩ hA (fun Pr γ w cargs h=>?_) bodyCommit zeroCommit (fun v st' Pr γ w cv h hr=>?_) (fun v st' Pr γ w cv h hr=>?_) (fun v st' h=>(hK v st' h).2) (fun v st' h=>(hZ v st' h).2)
 · obtain ⟨hl,hr⟩:=h
   match cargs,hl with
   | [c],_ =>
     have h0:=hr 0 _ _ rfl rfl
     cases h0 with
     | @bnd _ _ u hu=>exact ⟨[u],RepL.cons hu RepL.nil,u,rfl,rfl⟩
 · obtain ⟨a0,a1,a2,rfl,g0,g1,g2⟩:=(hK v st' h).1
   cases hr with
   | @agg _ us hl hr =>
   match us,hl with
   | [u0,u1,u2],_ =>
     exact ⟨u0,u1,u2,rfl,(hr 0 _ _ rfl rfl).leaf g0,(hr 1 _ _ rfl rfl).leaf g1,(hr 2 _ _ rfl rfl).leaf g2⟩
 · rcases (hZ v st' h).1 with ⟨u,x,rfl⟩ | ⟨u,x,rfl⟩
   · cases hr; exact ⟨_,_,rfl⟩
   · cases hr; exact ⟨_,_,rfl⟩
end Go.Cod
set_option linter.all false
namespace Go.Cod
variable [Adr]
open Go Go.Proofs
set_option linter.all false
set_option maxRecDepth 10000
def RdR (s:List UInt8) (o:Out) (st':St):Prop:=match implR s with
 | none=>o=.ret (.tup [.agg [.nils,.str [],.str []],.bool false])∧st'=[]
 | some c=>o=.ret (.tup [.agg [ovV c.over 0,.str c.tree,.str c.note],.bool true])∧st'=ovO c.over
def RtR (s:List UInt8) (o:Out) (st':St):Prop:=∃ n':Nat,match implR s with
 | none=>o=.ret (.tup [.agg [.nils,.str [],.str []],.bool false])∧st'=[curO s n']
 | some c=>o=.ret (.tup [.agg [ovV c.over 1,.str c.tree,.str c.note],.bool true])∧st'=[curO s n']++ovO c.over
theorem read_full (s:List UInt8) (hs:s.length≤1048576):Full Tryd.prog noY 14 [.bnd 15 (.ptr 0 0 0)] [curO s 0] (RtR s):=by
 have hc:=commit_full s hs
 refine readTextCommit (σ:=[0]) (kn:=false) (K:=fun v st'=>CmR s (.ret v) st') (Z:=fun v st'=>CmR s (.pan v) st') ?_ ?_ ?_
 · conv=>whnf
   refine hc.mono ?_
   rintro o st' ⟨n',h⟩
   cases hi:implR s with
   | none =>
     rw [hi] at h
     obtain ⟨rfl,rfl⟩:=h
     show CmR s (.pan _) _
     refine ⟨n',?_⟩
     rw [hi]
     exact ⟨rfl,rfl⟩
   | some c =>
     rw [hi] at h
     obtain ⟨rfl,rfl⟩:=h
     show CmR s (.ret _) _
     refine ⟨n',?_⟩
     rw [hi]
     obtain ⟨ov,t,n⟩:=c
     cases ov with
     | nil=>exact ⟨rfl,rfl⟩
     | cons a ov=>exact ⟨rfl,rfl⟩
 · rintro v st' ⟨n',h⟩
   refine ⟨?_,n',?_⟩
   · cases hi:implR s with
     | none=>rw [hi] at h; cases h.1
     | some c =>
       rw [hi] at h
       obtain ⟨h1,_⟩:=h
       cases h1
       exact ⟨_,_,_,rfl,by cases c.over <;> rfl,rfl,rfl⟩
   · cases hi:implR s with
     | none=>rw [hi] at h; cases h.1
     | some c =>
       rw [hi] at h
       obtain ⟨h1,h2⟩:=h
       cases h1
       exact ⟨rfl,h2⟩
 · rintro v st' ⟨n',h⟩
   refine ⟨?_,n',?_⟩
   · cases hi:implR s with
     | none=>rw [hi] at h; obtain ⟨h1,_⟩:=h; cases h1; exact .inr ⟨_,_,rfl⟩
     | some c =>
       rw [hi] at h
       cases h.1
   · cases hi:implR s with
     | none=>rw [hi] at h; exact ⟨rfl,h.2⟩
     | some c =>
       rw [hi] at h
       cases h.1
theorem implCommitRead_full (s:List UInt8) (hs:s.length≤1048576):Full Tryd.prog noY 5 [.str s] [] (RdR s):=by
 have h:=read_full s hs
 refine full_of_awp good Tryd.func5 rfl (by kernel_rfl) (by decide) ?_
 conv=>whnf
 refine ⟨[1],false,?_⟩
 conv=>whnf
 refine h.mono ?_
 unfold RtR RdR
 rintro o st' ⟨n',h⟩
 cases hi:implR s with
 | none =>
   rw [hi] at h
   obtain ⟨rfl,rfl⟩:=h
   conv=>whnf
   refine ⟨[],true,?_⟩
   conv=>whnf
   exact ⟨rfl,rfl⟩
 | some c =>
   rw [hi] at h
   obtain ⟨rfl,rfl⟩:=h
   obtain ⟨ov,t,n⟩:=c
   cases ov with
   | nil =>
     conv=>whnf
     refine ⟨[],true,?_⟩
     conv=>whnf
     exact ⟨rfl,rfl⟩
   | cons a ov =>
     conv=>whnf
     refine ⟨[2],false,?_⟩
     conv=>whnf
     exact ⟨rfl,rfl⟩
end Go.Cod
set_option linter.all false
namespace Go.Cod
variable [Adr]
open Go Go.Proofs
set_option linter.all false
set_option maxRecDepth 10000
theorem cutL_no (s:List UInt8) (h:(10:UInt8)∉s):cutL s=[s]:=by
 induction s with
 | nil=>rfl
 | cons b s ih =>
   rw [cutL,if_neg (fun e=>h (by simp [e])),ih (fun hm=>h (by simp [hm]))]
def CtR (s:List UInt8) (o:Out) (st':St):Prop:=o=.ret (ovV (cutL s) 0)∧st'=ovO (cutL s)
set_option maxHeartbeats 2000000 in
theorem cut_full (s:List UInt8) (hs:s.length≤1048576):Full Tryd.prog noY 16 [.str s,.int .u8 10] [] (CtR s):=by
 refine full_of_awp good Tryd.func16 rfl (by kernel_rfl) (by decide) ?_
 conv=>whnf
 refine loop_drop (fun n fr st=>∃ (i f:Nat) (acc:List (List UInt8)),n+i=s.length∧f≤i∧acc.length≤i∧cutL s=acc++cutL (s.drop f)∧(10:UInt8)∉(s.take i).drop f ∧
   Holds fr [(0,.str s),(1,.int .u8 10),(5,ovV acc 0),(6,.int .i64 f),(7,.int .i64 i)]∧st=ovO acc) s.length none
  (by
    conv=>whnf
    exact ⟨0,0,[],by omega,by omega,by simp,by simp,by simp,⟨rfl,rfl,rfl,rfl,rfl,trivial⟩,rfl⟩) ?_
 rintro n fr st ⟨i,f,acc,j1,j2,j3,j4,j5,hh,rfl⟩
 obtain ⟨fr,rfl⟩:=hh.split
 clear hh
 by_cases hlt:i < s.length
 · have hg:s[i]? = some s[i]:=List.getElem?_eq_getElem hlt
   have hsp:s=s.take i++s[i]::s.drop (i+1):=by rw [← List.drop_eq_getElem_cons hlt,List.take_append_drop]
   have hdf:s.drop f=(s.take i).drop f++s[i]::s.drop (i+1):=by
    conv=>lhs; rw [hsp]
    rw [List.drop_append_of_le_length (by simp; omega)]
   have htk:(s.take (i+1)).drop f=(s.take i).drop f++[s[i]]:=by
    rw [List.take_succ_eq_append_getElem hlt,List.drop_append_of_le_length (by simp; omega)]
   by_cases hb:s[i]=10
   · rw [hb] at hg
     have hc:cutL (s.drop f)=(s.take i).drop f::cutL (s.drop (i+1)):=by rw [hdf,hb,cutL_line _ _ j5]
     have hw:IntKind.i64.wrap ((i:Int)+1)=((i+1:Nat):Int):=by rw [wrap64 (by omega) (by omega)]; omega
     cases acc with
     | nil =>
       conv=>whnf
       rw [ltB_t (by omega)]
       conv=>whnf
       refine ⟨by omega,10,hg,?_⟩
       conv=>whnf
       rw [eqB_t (by decide)]
       conv=>whnf
       refine ⟨by omega,by omega,by omega,?_⟩
       conv=>whnf
       refine ⟨by omega,?_⟩
       conv=>whnf
       refine ⟨fun m hm=>by rw [List.mem_singleton.1 hm]; rfl,?_⟩
       conv=>whnf
       refine ⟨by show 1*16≤_; omega,.inr ⟨(by intro e; cases e),?_⟩⟩
       conv=>whnf
       refine ⟨n - 1,by omega,some [1],?_⟩
       conv=>whnf
       refine ⟨i+1,i+1,[]++[(s.take i).drop f],by omega,by omega,?_,?_,?_,⟨rfl,rfl,?_,?_,?_,trivial⟩,?_⟩
       · simp at j3 ⊢ <;> omega
       · rw [j4,hc]; simp
       · simp
       · rfl
       · exact congrArg (V.int .i64) hw
       · exact congrArg (V.int .i64) hw
       · rfl
     | cons a acc =>
       conv=>whnf
       rw [ltB_t (by omega)]
       conv=>whnf
       refine ⟨by omega,10,hg,?_⟩
       conv=>whnf
       rw [eqB_t (by decide)]
       conv=>whnf
       refine ⟨by omega,by omega,by omega,?_⟩
       conv=>whnf
       refine ⟨by omega,?_⟩
       conv=>whnf
       refine ⟨fun m hm=>by rw [List.mem_singleton.1 hm]; rfl,?_⟩
       conv=>whnf
       refine ⟨by
        show ((srows (a::acc)).length+1)*16≤_
        rw [srows_len]; omega,?_⟩
       conv=>whnf
       refine ⟨n - 1,by omega,some [2],?_⟩
       conv=>whnf
       refine ⟨i+1,i+1,(a::acc)++[(s.take i).drop f],by omega,by omega,?_,?_,?_,⟨rfl,rfl,?_,?_,?_,trivial⟩,?_⟩
       · simp at j3 ⊢; omega
       · rw [j4,hc]; simp
       · simp
       · rfl
       · exact congrArg (V.int .i64) hw
       · exact congrArg (V.int .i64) hw
       · rw [ovO_snoc]; rfl
   · have hb':((s[i].toNat:Nat):Int)≠10:=fun e=>hb (UInt8.toNat_inj.1 (by rw [show (10:UInt8).toNat=10 from rfl]; omega))
     have hno:(10:UInt8)∉(s.take (i+1)).drop f:=by
      rw [htk]
      simp only [List.mem_append,List.mem_singleton,not_or]
      exact ⟨j5,fun e=>hb e.symm⟩
     have hw:IntKind.i64.wrap ((i:Int)+1)=((i+1:Nat):Int):=by rw [wrap64 (by omega) (by omega)]; omega
     cases acc with
     | nil =>
       conv=>whnf
       rw [ltB_t (by omega)]
       conv=>whnf
       refine ⟨by omega,_,hg,?_⟩
       conv=>whnf
       rw [eqB_f hb']
       conv=>whnf
       refine ⟨n - 1,by omega,none,i+1,f,[],by omega,by omega,by simp,j4,hno,⟨rfl,rfl,rfl,rfl,?_,trivial⟩,rfl⟩
       exact congrArg (V.int .i64) hw
     | cons a acc =>
       conv=>whnf
       rw [ltB_t (by omega)]
       conv=>whnf
       refine ⟨by omega,_,hg,?_⟩
       conv=>whnf
       rw [eqB_f hb']
       conv=>whnf
       refine ⟨n - 1,by omega,none,i+1,f,a::acc,by omega,by omega,by omega,j4,hno,⟨rfl,rfl,rfl,rfl,?_,trivial⟩,rfl⟩
       exact congrArg (V.int .i64) hw
 · obtain rfl:i=s.length:=by omega
   rw [List.take_length] at j5
   rw [cutL_no _ j5] at j4
   cases acc with
   | nil =>
     conv=>whnf
     rw [ltB_f (by omega)]
     conv=>whnf
     refine ⟨by omega,by omega,?_⟩
     conv=>whnf
     refine ⟨fun m hm=>by rw [List.mem_singleton.1 hm]; rfl,?_⟩
     conv=>whnf
     refine ⟨by show 1*16≤_; omega,.inr ⟨(by intro e; cases e),?_⟩⟩
     conv=>whnf
     refine ⟨[1],false,?_⟩
     conv=>whnf
     rw [j4]
     refine ⟨rfl,?_⟩
     show [O.mk [[.str (List.drop (f:Int).toNat (List.take s.length s))]] 1 true true false .cell]=_
     rw [List.take_length]
     rfl
   | cons a acc =>
     conv=>whnf
     rw [ltB_f (by omega)]
     conv=>whnf
     refine ⟨by omega,by omega,?_⟩
     conv=>whnf
     refine ⟨fun m hm=>by rw [List.mem_singleton.1 hm]; rfl,?_⟩
     conv=>whnf
     refine ⟨by
      show ((srows (a::acc)).length+1)*16≤_
      rw [srows_len]; omega,?_⟩
     conv=>whnf
     refine ⟨[2],false,?_⟩
     conv=>whnf
     rw [j4,ovO_snoc]
     refine ⟨rfl,?_⟩
     show [O.mk (srows (a::acc)++[[.str (List.drop (f:Int).toNat (List.take s.length s))]]) 1 true true false .cell]=_
     rw [List.take_length]
     rfl
end Go.Cod
set_option linter.all false
namespace Go.Cod
variable [Adr]
open Go Go.Proofs
set_option linter.all false
set_option maxRecDepth 10000
theorem cutL_len (s:List UInt8):(∀ l∈cutL s,l.length≤s.length)∧cutL s≠[]:=by
 induction s with
 | nil=>exact ⟨by simp [cutL],by simp [cutL]⟩
 | cons b s ih =>
   rw [cutL]
   by_cases hb:b=10
   · rw [if_pos hb]
     refine ⟨fun l hl=>?_,by simp⟩
     rcases List.mem_cons.1 hl with rfl | hl
     · simp
     · have:=ih.1 l hl
       simp; omega
   · rw [if_neg hb]
     cases h:cutL s with
     | nil=>exact absurd h ih.2
     | cons l ls =>
       refine ⟨fun q hq=>?_,by simp⟩
       rcases List.mem_cons.1 hq with rfl | hq
       · have:=ih.1 l (by rw [h]; simp)
         simp; omega
       · have:=ih.1 q (by rw [h]; simp [hq])
         simp; omega
theorem fold_succ (ls:List (List UInt8)) (i:Nat) (h1:1≤i) (h:i < ls.length) (c:Cm):((ls.take (i+1)).drop 1).foldl stepC c=stepC (((ls.take i).drop 1).foldl stepC c) ls[i]:=by
 rw [List.take_succ_eq_append_getElem h,List.drop_append_of_le_length (by simp; omega),List.foldl_append]
 rfl
theorem fold_end (ls:List (List UInt8)) (i:Nat) (hi:i≤6) (h:¬(i < ls.length∧i < 6)):ls.take i=ls.take 6:=by
 by_cases h6:i=6
 · rw [h6]
 · rw [List.take_of_length_le (by omega),List.take_of_length_le (by omega)]
def SmI (c:Cm) (i:Nat):Prop:=c.over.length≤i∧(∀ k∈c.over,k.length≤1048576)∧c.tree.length≤1048576∧c.note.length≤1048576
theorem SmI.step {c:Cm} {i:Nat} (h:SmI c i) {l:List UInt8} (hl:l.length≤1048576):SmI (stepC c l) (i+1):=by
 obtain ⟨h1,h2,h3,h4⟩:=h
 have hd:(l.drop 5).length≤1048576:=by rw [List.length_drop]; omega
 unfold stepC
 split
 · exact ⟨by omega,h2,h3,h4⟩
 split
 · refine ⟨by simp; omega,fun k hk=>?_,h3,h4⟩
   rcases List.mem_append.1 hk with hk | hk
   · exact h2 k hk
   · rw [List.mem_singleton.1 hk]; exact hd
 split
 · exact ⟨by show c.over.length≤i+1; omega,h2,hd,h4⟩
 split
 · exact ⟨by show c.over.length≤i+1; omega,h2,h3,hd⟩
 · exact ⟨by omega,h2,h3,h4⟩
theorem implR_spec (s:List UInt8):implR s=if s=[]∨writeC (foldC s)≠s then none else some (foldC s):=by
 rw [impl_spec]; rfl
set_option maxHeartbeats 4000000 in
theorem specCommitRead_full (s:List UInt8) (hs:s.length≤1048576):Full Tryd.prog noY 6 [.str s] [] (RdR s):=by
 have hct:=cut_full s hs
 have hsp:=implR_spec s
 have hcl:=cutL_len s
 have hfc:foldC s=(((cutL s).take 6).drop 1).foldl stepC ⟨[],[],[]⟩:=rfl
 unfold CtR at hct
 generalize cutL s=ls at *
 obtain ⟨hcl,hne⟩:=hcl
 obtain ⟨l0,lt,rfl⟩:∃ a b,ls=a::b:=by
  cases ls with
  | nil=>exact absurd rfl hne
  | cons a b=>exact ⟨a,b,rfl⟩
 obtain ⟨L,hL⟩:∃ L,L=l0::lt:=⟨_,rfl⟩
 have hov:ovO (l0::lt)=[⟨srows L,1,true,true,false,.cell⟩]:=by rw [hL]; rfl
 rw [hov] at hct
 rw [← hL] at hcl hfc hne
 have hct:Full Tryd.prog noY 16 [.str s,.int .u8 10] [] fun o st'=>o=.ret (.own 0)∧st'=[⟨srows L,1,true,true,false,.cell⟩]:=by
  rw [hL] at hct ⊢
  exact hct
 clear hov hL
 have hLl:=srows_len L
 refine full_of_awp good Tryd.func6 rfl (by kernel_rfl) (by decide) ?_
 conv=>whnf
 refine .inr (.inl ⟨[],false,?_⟩)
 conv=>whnf
 refine hct.mono ?_
 rintro o st' ⟨rfl,rfl⟩
 conv=>whnf
 refine loop_drop (fun n fr st=>∃ (i:Nat) (c:Cm),n+i=6∧1≤i∧i≤6∧i≤max 1 L.length∧c=((L.take i).drop 1).foldl stepC ⟨[],[],[]⟩∧SmI c i ∧
   Holds fr [(0,.str s),(2,.ptr 0 0 0),(4,.ptr 1 0 0),(5,.own 2),(6,.int .i64 i)]∧st=[bx3 [.nils,.str [],.str []],bx3 [ovV c.over 3,.str c.tree,.str c.note],⟨srows L,1,true,true,false,.cell⟩]++ovO c.over) 5 none
  (by
    conv=>whnf
    refine ⟨1,⟨[],[],[]⟩,by omega,by omega,by omega,by omega,?_,⟨by simp,by simp,by simp,by simp⟩,⟨rfl,rfl,rfl,rfl,rfl,trivial⟩,rfl⟩
    cases L <;> rfl) ?_
 rintro n fr st ⟨i,c,j1,j2,j3,j4,j5,j6,hh,rfl⟩
 obtain ⟨fr,rfl⟩:=hh.split
 clear hh
 by_cases hlt:i < L.length∧i < 6
 · have hg:=srows_get L i hlt.1
   have hli:L[i].length≤1048576:=Nat.le_trans (hcl _ (List.getElem_mem hlt.1)) hs
   have hst:=fold_succ L i j2 hlt.1 ⟨[],[],[]⟩
   rw [← j5] at hst
   have hsm:=j6.step hli
   have hw:IntKind.i64.wrap ((i:Int)+1)=((i+1:Nat):Int):=by rw [wrap64 (by omega) (by omega)]; omega
   generalize L[i]=l at *
   have hd5:l.drop 5=(l.take l.length).drop 5:=by rw [List.take_length]
   obtain ⟨ov,t,nt⟩:=c
   have c1:(i:Int) < ((srows L).length:Int):=by omega
   cases ov with
   | nil =>
     by_cases d1:l.length < 5
     · conv=>whnf
       rw [ltB_t (by exact c1)]
       conv=>whnf
       rw [ltB_t (by omega)]
       conv=>whnf
       refine ⟨by omega,srows L,_,1,rfl,hg,rfl,rfl,?_⟩
       conv=>whnf
       refine AtRow_intro [.str l] hg ?_
       conv=>whnf
       rw [ltB_t (by omega)]
       conv=>whnf
       rw [stepC,if_pos d1] at hst hsm
       refine ⟨n - 1,by omega,none,?_⟩
       conv=>whnf
       refine ⟨i+1,_,by omega,by omega,by omega,by omega,hst.symm,hsm,⟨rfl,rfl,rfl,rfl,congrArg (V.int .i64) hw,trivial⟩,?_⟩
       rfl
     by_cases d2:l.take 5=overW
     · conv=>whnf
       rw [ltB_t (by exact c1)]
       conv=>whnf
       rw [ltB_t (by omega)]
       conv=>whnf
       refine ⟨by omega,srows L,_,1,rfl,hg,rfl,rfl,?_⟩
       conv=>whnf
       refine AtRow_intro [.str l] hg ?_
       conv=>whnf
       rw [ltB_f (by omega)]
       conv=>whnf
       refine ⟨by omega,by omega,?_⟩
       conv=>whnf
       rw [eqS_t (by exact d2)]
       conv=>whnf
       refine ⟨by omega,by omega,rfl,?_⟩
       conv=>whnf
       refine ⟨fun m hm=>by rw [List.mem_singleton.1 hm]; rfl,?_⟩
       conv=>whnf
       refine ⟨by show 1*16≤_; omega,.inr ⟨(by intro e; cases e),?_⟩⟩
       conv=>whnf
       repeat
        refine And.intro (by (conv=>whnf); rfl) ?_
        conv=>whnf
       rw [stepC,if_neg d1,if_pos d2,hd5] at hst hsm
       refine ⟨n - 1,by omega,some [0,1,2,4],?_⟩
       conv=>whnf
       refine ⟨i+1,_,by omega,by omega,by omega,by omega,hst.symm,hsm,⟨rfl,rfl,rfl,rfl,congrArg (V.int .i64) hw,trivial⟩,?_⟩
       rfl
     by_cases d3:l.take 5=treeW
     · conv=>whnf
       rw [ltB_t (by exact c1)]
       conv=>whnf
       rw [ltB_t (by omega)]
       conv=>whnf
       refine ⟨by omega,srows L,_,1,rfl,hg,rfl,rfl,?_⟩
       conv=>whnf
       refine AtRow_intro [.str l] hg ?_
       conv=>whnf
       rw [ltB_f (by omega)]
       conv=>whnf
       refine ⟨by omega,by omega,?_⟩
       conv=>whnf
       rw [eqS_f (by exact d2)]
       conv=>whnf
       rw [eqS_t (by exact d3)]
       conv=>whnf
       refine ⟨by omega,by omega,?_⟩
       conv=>whnf
       rw [stepC,if_neg d1,if_neg d2,if_pos d3,hd5] at hst hsm
       refine ⟨n - 1,by omega,none,?_⟩
       conv=>whnf
       refine ⟨i+1,_,by omega,by omega,by omega,by omega,hst.symm,hsm,⟨rfl,rfl,rfl,rfl,congrArg (V.int .i64) hw,trivial⟩,?_⟩
       rfl
     by_cases d4:l.take 5=noteW
     · conv=>whnf
       rw [ltB_t (by exact c1)]
       conv=>whnf
       rw [ltB_t (by omega)]
       conv=>whnf
       refine ⟨by omega,srows L,_,1,rfl,hg,rfl,rfl,?_⟩
       conv=>whnf
       refine AtRow_intro [.str l] hg ?_
       conv=>whnf
       rw [ltB_f (by omega)]
       conv=>whnf
       refine ⟨by omega,by omega,?_⟩
       conv=>whnf
       rw [eqS_f (by exact d2)]
       conv=>whnf
       rw [eqS_f (by exact d3)]
       conv=>whnf
       rw [eqS_t (by exact d4)]
       conv=>whnf
       refine ⟨by omega,by omega,?_⟩
       conv=>whnf
       rw [stepC,if_neg d1,if_neg d2,if_neg d3,if_pos d4,hd5] at hst hsm
       refine ⟨n - 1,by omega,none,?_⟩
       conv=>whnf
       refine ⟨i+1,_,by omega,by omega,by omega,by omega,hst.symm,hsm,⟨rfl,rfl,rfl,rfl,congrArg (V.int .i64) hw,trivial⟩,?_⟩
       rfl
     · conv=>whnf
       rw [ltB_t (by exact c1)]
       conv=>whnf
       rw [ltB_t (by omega)]
       conv=>whnf
       refine ⟨by omega,srows L,_,1,rfl,hg,rfl,rfl,?_⟩
       conv=>whnf
       refine AtRow_intro [.str l] hg ?_
       conv=>whnf
       rw [ltB_f (by omega)]
       conv=>whnf
       refine ⟨by omega,by omega,?_⟩
       conv=>whnf
       rw [eqS_f (by exact d2)]
       conv=>whnf
       rw [eqS_f (by exact d3)]
       conv=>whnf
       rw [eqS_f (by exact d4)]
       conv=>whnf
       rw [stepC,if_neg d1,if_neg d2,if_neg d3,if_neg d4] at hst hsm
       refine ⟨n - 1,by omega,none,?_⟩
       conv=>whnf
       refine ⟨i+1,_,by omega,by omega,by omega,by omega,hst.symm,hsm,⟨rfl,rfl,rfl,rfl,congrArg (V.int .i64) hw,trivial⟩,?_⟩
       rfl
   | cons a ov =>
     by_cases d1:l.length < 5
     · conv=>whnf
       rw [ltB_t (by exact c1)]
       conv=>whnf
       rw [ltB_t (by omega)]
       conv=>whnf
       refine ⟨by omega,srows L,_,1,rfl,hg,rfl,rfl,?_⟩
       conv=>whnf
       refine AtRow_intro [.str l] hg ?_
       conv=>whnf
       rw [ltB_t (by omega)]
       conv=>whnf
       rw [stepC,if_pos d1] at hst hsm
       refine ⟨n - 1,by omega,none,?_⟩
       conv=>whnf
       refine ⟨i+1,_,by omega,by omega,by omega,by omega,hst.symm,hsm,⟨rfl,rfl,rfl,rfl,congrArg (V.int .i64) hw,trivial⟩,?_⟩
       rfl
     by_cases d2:l.take 5=overW
     · conv=>whnf
       rw [ltB_t (by exact c1)]
       conv=>whnf
       rw [ltB_t (by omega)]
       conv=>whnf
       refine ⟨by omega,srows L,_,1,rfl,hg,rfl,rfl,?_⟩
       conv=>whnf
       refine AtRow_intro [.str l] hg ?_
       conv=>whnf
       rw [ltB_f (by omega)]
       conv=>whnf
       refine ⟨by omega,by omega,?_⟩
       conv=>whnf
       rw [eqS_t (by exact d2)]
       conv=>whnf
       refine ⟨by omega,by omega,rfl,?_⟩
       conv=>whnf
       refine ⟨fun m hm=>by rw [List.mem_singleton.1 hm]; rfl,?_⟩
       conv=>whnf
       refine ⟨by
        show ((srows (a::ov)).length+1)*16≤_
        rw [srows_len]
        have:(a::ov).length≤i:=j6.1
        omega,?_⟩
       conv=>whnf
       repeat
        refine And.intro (by (conv=>whnf); rfl) ?_
        conv=>whnf
       rw [stepC,if_neg d1,if_pos d2,hd5] at hst hsm
       refine ⟨n - 1,by omega,some [0,1,2,5],?_⟩
       conv=>whnf
       refine ⟨i+1,_,by omega,by omega,by omega,by omega,hst.symm,hsm,⟨rfl,rfl,rfl,rfl,congrArg (V.int .i64) hw,trivial⟩,?_⟩
       rw [ovO_snoc]; rfl
     by_cases d3:l.take 5=treeW
     · conv=>whnf
       rw [ltB_t (by exact c1)]
       conv=>whnf
       rw [ltB_t (by omega)]
       conv=>whnf
       refine ⟨by omega,srows L,_,1,rfl,hg,rfl,rfl,?_⟩
       conv=>whnf
       refine AtRow_intro [.str l] hg ?_
       conv=>whnf
       rw [ltB_f (by omega)]
       conv=>whnf
       refine ⟨by omega,by omega,?_⟩
       conv=>whnf
       rw [eqS_f (by exact d2)]
       conv=>whnf
       rw [eqS_t (by exact d3)]
       conv=>whnf
       refine ⟨by omega,by omega,?_⟩
       conv=>whnf
       rw [stepC,if_neg d1,if_neg d2,if_pos d3,hd5] at hst hsm
       refine ⟨n - 1,by omega,none,?_⟩
       conv=>whnf
       refine ⟨i+1,_,by omega,by omega,by omega,by omega,hst.symm,hsm,⟨rfl,rfl,rfl,rfl,congrArg (V.int .i64) hw,trivial⟩,?_⟩
       rfl
     by_cases d4:l.take 5=noteW
     · conv=>whnf
       rw [ltB_t (by exact c1)]
       conv=>whnf
       rw [ltB_t (by omega)]
       conv=>whnf
       refine ⟨by omega,srows L,_,1,rfl,hg,rfl,rfl,?_⟩
       conv=>whnf
       refine AtRow_intro [.str l] hg ?_
       conv=>whnf
       rw [ltB_f (by omega)]
       conv=>whnf
       refine ⟨by omega,by omega,?_⟩
       conv=>whnf
       rw [eqS_f (by exact d2)]
       conv=>whnf
       rw [eqS_f (by exact d3)]
       conv=>whnf
       rw [eqS_t (by exact d4)]
       conv=>whnf
       refine ⟨by omega,by omega,?_⟩
       conv=>whnf
       rw [stepC,if_neg d1,if_neg d2,if_neg d3,if_pos d4,hd5] at hst hsm
       refine ⟨n - 1,by omega,none,?_⟩
       conv=>whnf
       refine ⟨i+1,_,by omega,by omega,by omega,by omega,hst.symm,hsm,⟨rfl,rfl,rfl,rfl,congrArg (V.int .i64) hw,trivial⟩,?_⟩
       rfl
     · conv=>whnf
       rw [ltB_t (by exact c1)]
       conv=>whnf
       rw [ltB_t (by omega)]
       conv=>whnf
       refine ⟨by omega,srows L,_,1,rfl,hg,rfl,rfl,?_⟩
       conv=>whnf
       refine AtRow_intro [.str l] hg ?_
       conv=>whnf
       rw [ltB_f (by omega)]
       conv=>whnf
       refine ⟨by omega,by omega,?_⟩
       conv=>whnf
       rw [eqS_f (by exact d2)]
       conv=>whnf
       rw [eqS_f (by exact d3)]
       conv=>whnf
       rw [eqS_f (by exact d4)]
       conv=>whnf
       rw [stepC,if_neg d1,if_neg d2,if_neg d3,if_neg d4] at hst hsm
       refine ⟨n - 1,by omega,none,?_⟩
       conv=>whnf
       refine ⟨i+1,_,by omega,by omega,by omega,by omega,hst.symm,hsm,⟨rfl,rfl,rfl,rfl,congrArg (V.int .i64) hw,trivial⟩,?_⟩
       rfl
 · obtain ⟨ov,t,nt⟩:=c
   cases ov with
   | nil =>
     have hwc:Pure Tryd.prog 10 [.agg [.sl [],.str t,.str nt]] (·=.str (writeC ⟨[],t,nt⟩)):=specCommitWrite_pure ⟨[],t,nt⟩ ⟨by simp,by simp,j6.2.2.1,j6.2.2.2⟩
     have him:implR s=if s=[]∨writeC ⟨[],t,nt⟩≠s then none else some ⟨[],t,nt⟩:=by rw [hsp,hfc,← fold_end L i j3 hlt,← j5]
     generalize writeC ⟨[],t,nt⟩=wc at *
     by_cases h:i < L.length
     · have c1:(i:Int) < ((srows L).length:Int):=by omega
       conv=>whnf
       rw [ltB_t (by exact c1)]
       conv=>whnf
       rw [ltB_f (by omega)]
       conv=>whnf
       by_cases he:s=[]
       · rw [eqS_t (by exact he)]
         conv=>whnf
         refine ⟨[],true,?_⟩
         conv=>whnf
         rw [him,if_pos (.inl he)]
         exact ⟨rfl,rfl⟩
       · rw [eqS_f (by exact he)]
         conv=>whnf
         refine .inl (hwc.mono ?_)
         rintro q rfl
         conv=>whnf
         by_cases hb:wc=s
         · rw [eqS_t (by exact hb)]
           conv=>whnf
           refine ⟨[],true,?_⟩
           conv=>whnf
           rw [him,if_neg (by simp [he,hb])]
           exact ⟨rfl,rfl⟩
         · rw [eqS_f (by exact hb)]
           conv=>whnf
           refine ⟨[],true,?_⟩
           conv=>whnf
           rw [him,if_pos (.inr hb)]
           exact ⟨rfl,rfl⟩
     · have c1:((srows L).length:Int)≤(i:Int):=by omega
       conv=>whnf
       rw [ltB_f (by exact c1)]
       conv=>whnf
       by_cases he:s=[]
       · rw [eqS_t (by exact he)]
         conv=>whnf
         refine ⟨[],true,?_⟩
         conv=>whnf
         rw [him,if_pos (.inl he)]
         exact ⟨rfl,rfl⟩
       · rw [eqS_f (by exact he)]
         conv=>whnf
         refine .inl (hwc.mono ?_)
         rintro q rfl
         conv=>whnf
         by_cases hb:wc=s
         · rw [eqS_t (by exact hb)]
           conv=>whnf
           refine ⟨[],true,?_⟩
           conv=>whnf
           rw [him,if_neg (by simp [he,hb])]
           exact ⟨rfl,rfl⟩
         · rw [eqS_f (by exact hb)]
           conv=>whnf
           refine ⟨[],true,?_⟩
           conv=>whnf
           rw [him,if_pos (.inr hb)]
           exact ⟨rfl,rfl⟩
   | cons a ov =>
     have hwc:Full Tryd.prog noY 10 [.agg [.own 0,.str t,.str nt]] (ovO (a::ov)) fun o st'=>o=.ret (.str (writeC ⟨a::ov,t,nt⟩))∧st'=ovO (a::ov):=own_callStr rfl rfl (fun Pr γ w cargs g hg ha hs=>rep_own3 hg ha hs) (specCommitWrite_pure ⟨a::ov,t,nt⟩ ⟨Nat.le_trans j6.1 (by omega),j6.2.1,j6.2.2.1,j6.2.2.2⟩)
     have him:implR s=if s=[]∨writeC ⟨a::ov,t,nt⟩≠s then none else some ⟨a::ov,t,nt⟩:=by rw [hsp,hfc,← fold_end L i j3 hlt,← j5]
     generalize writeC ⟨a::ov,t,nt⟩=wc at *
     by_cases h:i < L.length
     · have c1:(i:Int) < ((srows L).length:Int):=by omega
       conv=>whnf
       rw [ltB_t (by exact c1)]
       conv=>whnf
       rw [ltB_f (by omega)]
       conv=>whnf
       by_cases he:s=[]
       · rw [eqS_t (by exact he)]
         conv=>whnf
         refine ⟨[],true,?_⟩
         conv=>whnf
         rw [him,if_pos (.inl he)]
         exact ⟨rfl,rfl⟩
       · rw [eqS_f (by exact he)]
         conv=>whnf
         refine ⟨[3],false,?_⟩
         conv=>whnf
         refine hwc.mono ?_
         rintro o st' ⟨rfl,rfl⟩
         conv=>whnf
         by_cases hb:wc=s
         · rw [eqS_t (by exact hb)]
           conv=>whnf
           refine ⟨[3],false,?_⟩
           conv=>whnf
           rw [him,if_neg (by simp [he,hb])]
           exact ⟨rfl,rfl⟩
         · rw [eqS_f (by exact hb)]
           conv=>whnf
           refine ⟨[],true,?_⟩
           conv=>whnf
           rw [him,if_pos (.inr hb)]
           exact ⟨rfl,rfl⟩
     · have c1:((srows L).length:Int)≤(i:Int):=by omega
       conv=>whnf
       rw [ltB_f (by exact c1)]
       conv=>whnf
       by_cases he:s=[]
       · rw [eqS_t (by exact he)]
         conv=>whnf
         refine ⟨[],true,?_⟩
         conv=>whnf
         rw [him,if_pos (.inl he)]
         exact ⟨rfl,rfl⟩
       · rw [eqS_f (by exact he)]
         conv=>whnf
         refine ⟨[3],false,?_⟩
         conv=>whnf
         refine hwc.mono ?_
         rintro o st' ⟨rfl,rfl⟩
         conv=>whnf
         by_cases hb:wc=s
         · rw [eqS_t (by exact hb)]
           conv=>whnf
           refine ⟨[3],false,?_⟩
           conv=>whnf
           rw [him,if_neg (by simp [he,hb])]
           exact ⟨rfl,rfl⟩
         · rw [eqS_f (by exact hb)]
           conv=>whnf
           refine ⟨[],true,?_⟩
           conv=>whnf
           rw [him,if_pos (.inr hb)]
           exact ⟨rfl,rfl⟩
end Go.Cod
set_option linter.all false
namespace Go.Cod
variable [Adr]
open Go Go.Proofs
set_option linter.all false
set_option maxRecDepth 10000
def sO (ss:List (List UInt8)):O:=⟨srows ss,1,true,true,false,.cell⟩
end Go.Cod
set_option linter.all false
namespace Go.Cod
variable [Adr]
open Go Go.Proofs
set_option linter.all false
set_option maxRecDepth 10000
theorem len_over (ss:List (List UInt8)) (k:List UInt8) (hk:k∈ss):k.length≤(ss.flatMap fun k=>overW++k++[10]).length:=by
 induction ss with
 | nil=>simp at hk
 | cons q ss ih =>
   simp only [List.flatMap_cons,List.length_append]
   rcases List.mem_cons.1 hk with rfl | hk
   · omega
   · have:=ih hk; omega
theorem sm_impl (s:List UInt8) (hs:s.length≤1048576) (c:Cm) (h:implR s=some c):c.Sm:=by
 rw [implR] at h
 cases hc:cP s with
 | none=>rw [hc] at h; cases h
 | some d =>
   rw [hc] at h
   simp only at h
   split at h
   · rename_i hw
     cases h
     unfold writeC at hw
     split at hw
     · rename_i hk
       obtain ⟨_,h2,_,_⟩:=okC_parts hk
       have hfl:=textC_flat c
       rw [hw] at hfl
       have hlen:=congrArg List.length hfl
       simp only [List.length_append,List.length_cons,List.length_nil] at hlen
       refine ⟨by omega,fun k hk=>?_,by omega,by omega⟩
       have:=len_over c.over k hk
       omega
     · subst hw
       simp [cP,skipP,headC] at hc
   · cases h
end Go.Cod
set_option linter.all false
namespace Go.Cod
variable [Adr]
open Go Go.Proofs
set_option linter.all false
set_option maxRecDepth 10000
theorem implR_some {s:List UInt8} {c:Cm} (h:implR s=some c):writeC c=s:=by
 rw [implR] at h
 cases hc:cP s with
 | none=>rw [hc] at h; cases h
 | some d =>
   rw [hc] at h
   simp only at h
   split at h
   · rename_i hw
     cases h
     exact hw
   · cases h
theorem implR_write (c:Cm):implR (writeC c)=if okC c=true then some c else none:=by
 by_cases h:okC c=true
 · have hw:writeC c=textC c:=by rw [writeC,if_pos h]
   rw [if_pos h,implR,hw,cP_ok h]
   simp only [hw,if_pos]
 · have hw:writeC c=[]:=by rw [writeC,if_neg h]
   rw [if_neg h,hw]
   rfl
theorem write_ne (c:Cm):writeC c=[]↔¬ okC c=true:=by
 by_cases h:okC c=true
 · have hw:writeC c=textC c:=by rw [writeC,if_pos h]
   rw [hw,textC_flat]
   simp [headC,h]
 · have hw:writeC c=[]:=by rw [writeC,if_neg h]
   simp [hw,h]
theorem wcWords_own (ss:List (List UInt8)) (hl:ss.length≤1048576):Full Tryd.prog noY 17 [.own 0,.own 1] [sO ss,sO ss] fun o st'=>o=.ret (.bool true)∧st'=[sO ss,sO ss]:=by
 have hlr:=srows_len ss
 refine full_of_awp good Tryd.func17 rfl (by kernel_rfl) (by decide) ?_
 conv=>whnf
 rw [eqB_refl]
 conv=>whnf
 refine loop_drop (fun n fr st=>∃ i:Nat,n+i=ss.length∧Holds fr [(0,.own 0),(1,.own 1),(5,.int .i64 i)]∧st=[sO ss,sO ss]) ss.length none
  ⟨0,rfl,⟨rfl,rfl,rfl,trivial⟩,rfl⟩ ?_
 rintro n fr st ⟨i,hi,hh,rfl⟩
 obtain ⟨fr,rfl⟩:=hh.split
 clear hh
 conv=>whnf
 by_cases hlt:i < ss.length
 · rw [ltB_t (by show (i:Int) < ((srows ss).length:Int); omega)]
   conv=>whnf
   have hg:=srows_get ss i hlt
   refine ⟨by omega,srows ss,_,1,rfl,hg,rfl,rfl,?_⟩
   conv=>whnf
   refine AtRow_intro [.str ss[i]] hg ?_
   conv=>whnf
   refine ⟨by omega,srows ss,_,1,rfl,hg,rfl,rfl,?_⟩
   conv=>whnf
   refine AtRow_intro [.str ss[i]] hg ?_
   conv=>whnf
   rw [eqS_refl]
   conv=>whnf
   refine ⟨n - 1,by omega,none,i+1,by omega,⟨rfl,rfl,?_,trivial⟩,rfl⟩
   show V.int .i64 (IntKind.i64.wrap (i+1))=_
   rw [wrap64 (by omega) (by omega)]; simp
 · rw [ltB_f (by show ((srows ss).length:Int)≤(i:Int); omega)]
   conv=>whnf
   refine ⟨[],false,?_⟩
   conv=>whnf
   exact ⟨rfl,rfl⟩
theorem wcWords_nil:Pure Tryd.prog 17 [.sl [],.sl []] (·=.bool true):=by
 refine pure_of_awp good Tryd.func17 rfl (by kernel_rfl) (by decide) ?_
 conv=>whnf
 rw [eqB_t (by rfl)]
 conv=>whnf
 refine loop_intro (fun n fr st=>st=[]∧Holds fr [(0,.sl []),(1,.sl []),(5,.int .i64 0)]) 0 ⟨rfl,rfl,rfl,rfl,trivial⟩ ?_
 rintro n fr st ⟨rfl,hh⟩
 obtain ⟨fr,rfl⟩:=hh.split
 clear hh
 conv=>whnf
 rw [ltB_f (by simp)]
 conv=>whnf
theorem wcCommit_nil (t n:List UInt8):Pure Tryd.prog 7 [.agg [.sl [],.str t,.str n],.agg [.sl [],.str t,.str n]] (·=.bool true):=by
 have f1:=wcWords_nil
 refine pure_of_awp good Tryd.func7 rfl (by kernel_rfl) (by decide) ?_
 conv=>whnf
 rw [eqS_refl]
 conv=>whnf
 rw [eqS_refl]
 conv=>whnf
 refine .inl (f1.mono ?_)
 rintro r rfl
 conv=>whnf
theorem wcCommit_own (a:List UInt8) (ov:List (List UInt8)) (t n:List UInt8) (hl:(a::ov).length≤1048576):Full Tryd.prog noY 7 [.agg [.own 0,.str t,.str n],.agg [.own 1,.str t,.str n]] [sO (a::ov),sO (a::ov)] fun o st'=>o=.ret (.bool true)∧st'=[sO (a::ov),sO (a::ov)]:=by
 have f1:=wcWords_own (a::ov) hl
 generalize a::ov=ss at *
 refine full_of_awp good Tryd.func7 rfl (by kernel_rfl) (by decide) ?_
 conv=>whnf
 rw [eqS_refl]
 conv=>whnf
 rw [eqS_refl]
 conv=>whnf
 refine ⟨[0,1],false,?_⟩
 conv=>whnf
 refine f1.mono ?_
 rintro o st' ⟨rfl,rfl⟩
 conv=>whnf
 refine ⟨[],false,?_⟩
 conv=>whnf
 exact ⟨rfl,rfl⟩
end Go.Cod
set_option linter.all false
set_option linter.all false
namespace Go.Cod
variable [Adr]
open Go Go.Proofs
set_option maxRecDepth 10000
def RowsI (k:IntKind) (rows:List (List V)):Prop:=∀ r∈rows,∃ m:Int,r=[.int k m]
theorem RowsI.get {k:IntKind} {rows:List (List V)} (h:RowsI k rows) {i:Nat} (hi:i < rows.length):∃ m:Int,rows[i]? = some [.int k m]:=by
 obtain ⟨m,hm⟩:=h rows[i] (List.getElem_mem hi)
 exact ⟨m,by rw [List.getElem?_eq_getElem hi,hm]⟩
theorem RowsI.snoc {k:IntKind} {rows:List (List V)} (h:RowsI k rows) (m:Int):RowsI k (rows++[[.int k m]]):=fun r hr=>by
 rcases List.mem_append.1 hr with hr | hr
 · exact h r hr
 · exact ⟨m,List.mem_singleton.1 hr⟩
theorem RowsI.set {k:IntKind} {rows:List (List V)} (h:RowsI k rows) (i:Nat) (m:Int):RowsI k (rows.set i [.int k m]):=fun r hr=>by
 rcases List.mem_or_eq_of_mem_set hr with hr | rfl
 · exact h r hr
 · exact ⟨m,rfl⟩
theorem RowsI.sub {k:IntKind} {rows:List (List V)} (h:RowsI k rows) (a b:Nat):RowsI k ((rows.take b).drop a):=fun r hr=>h r (List.mem_of_mem_take (List.mem_of_mem_drop hr))
def uO (rows:List (List V)):O:=⟨rows,1,true,true,false,.cell⟩
theorem l1Turn_pure (x n:Int) (h0:0≤n) (h1:n≤32):Pure Tryd.prog 49 [.int .u32 x,.int .i64 n] fun r=>∃ m:Int,r=.int .u32 m:=by
 have hw:IntKind.i64.wrap (32 - n)=32 - n:=wrap64 (by omega) (by omega)
 refine pure_of_awp good Tryd.func49 rfl (by kernel_rfl) (by decide) ?_
 conv=>whnf
 refine ⟨h0,?_⟩
 conv=>whnf
 rw [hw]
 refine ⟨by omega,?_⟩
 conv=>whnf
 exact ⟨_,rfl⟩
set_option maxHeartbeats 1000000 in
theorem l1Padded_full (s:List UInt8) (hs:s.length≤1048576):Full Tryd.prog noY 41 [.str s] [] fun o st'=>∃ rows:List (List V),RowsI .u8 rows∧rows.length % 64=0∧64≤rows.length∧rows.length≤1048776∧o=.ret (.own 0)∧st'=[uO rows]:=by
 obtain ⟨T,hT⟩:∃ T,T=s.length+1+(120 - (s.length+1) % 64) % 64:=⟨_,rfl⟩
 refine full_of_awp good Tryd.func41 rfl (by kernel_rfl) (by decide) ?_
 conv=>whnf
 refine ⟨by omega,?_⟩
 conv=>whnf
 refine ⟨fun m hm=>by rw [List.mem_singleton.1 hm]; rfl,?_⟩
 conv=>whnf
 refine ⟨by simp; omega,?_⟩
 conv=>whnf
 refine loop_drop (fun n fr st=>∃ rows:List (List V),RowsI .u8 rows∧n+rows.length=T∧1≤rows.length∧Holds fr [(0,.str s),(3,.own 0)]∧st=[uO rows]) (T - (s.length+1)) (some [2])
  (by
    conv=>whnf
    refine ⟨(s.map fun b=>[cellB b])++[[.int .u8 128]],?_,by simp; omega,by simp,⟨rfl,rfl,trivial⟩,rfl⟩
    exact RowsI.snoc (fun r hr=>by obtain ⟨b,_,rfl⟩:=List.mem_map.1 hr; exact ⟨_,rfl⟩) 128) ?_
 rintro n fr st ⟨rows,h1,h2,h3,hh,rfl⟩
 obtain ⟨fr,rfl⟩:=hh.split
 clear hh
 have ht:(rows.length:Int).tmod 64=((rows.length % 64:Nat):Int):=by rw [Int.tmod_eq_emod_of_nonneg (by omega)]; omega
 conv=>whnf
 refine ⟨by decide,?_⟩
 conv=>whnf
 by_cases h56:rows.length % 64=56
 · rw [eqB_t (by show (rows.length:Int).tmod 64=56; omega)]
   conv=>whnf
   obtain ⟨T2,hT2⟩:∃ T2,T2=rows.length+8:=⟨_,rfl⟩
   have hlt:rows.length≤T:=by omega
   have hw8:∀ (i:Int),0≤i→i≤7→IntKind.i64.wrap (8*i)=8*i:=fun i a b=>wrap64 (by omega) (by omega)
   refine loop_drop (fun n fr st=>∃ (q:Int) (rows':List (List V)),RowsI .u8 rows'∧n+rows'.length=T2∧rows.length≤rows'.length∧Holds fr [(3,.own 0),(4,.int .i64 q),(5,.int .i64 ((n:Int) - 1))]∧st=[uO rows']) 8 none
    (by
      conv=>whnf
      exact ⟨_,rows,h1,by omega,by omega,⟨rfl,rfl,rfl,trivial⟩,rfl⟩) ?_
   rintro n fr st ⟨q,rows',g1,g2,g3,hh,rfl⟩
   obtain ⟨fr,rfl⟩:=hh.split
   clear hh
   conv=>whnf
   by_cases hn:0 < n
   · rw [leB_t (by omega)]
     conv=>whnf
     rw [hw8 _ (by omega) (by omega)]
     refine ⟨by omega,?_⟩
     conv=>whnf
     refine ⟨fun m hm=>by rw [List.mem_singleton.1 hm]; rfl,?_⟩
     conv=>whnf
     refine ⟨by show (rows'.length+1)*1≤_; omega,?_⟩
     conv=>whnf
     refine ⟨n - 1,by omega,some [2],?_⟩
     conv=>whnf
     refine ⟨q,rows'++[[.int .u8 _]],RowsI.snoc g1 _,by simp; omega,by simp; omega,⟨rfl,rfl,?_,trivial⟩,rfl⟩
     show V.int .i64 (IntKind.i64.wrap ((n:Int) - 1 - 1))=_
     rw [wrap64 (by omega) (by omega)]
     congr 1; omega
   · rw [leB_f (by omega)]
     conv=>whnf
     refine ⟨[0],false,?_⟩
     conv=>whnf
     exact ⟨rows',g1,by omega,by omega,by omega,rfl,rfl⟩
 · rw [eqB_f (by show (rows.length:Int).tmod 64≠56; omega)]
   conv=>whnf
   refine ⟨fun m hm=>by rw [List.mem_singleton.1 hm]; rfl,?_⟩
   conv=>whnf
   refine ⟨by show (rows.length+1)*1≤_; omega,?_⟩
   conv=>whnf
   refine ⟨n - 1,by omega,some [2],?_⟩
   conv=>whnf
   exact ⟨rows++[[.int .u8 0]],RowsI.snoc h1 0,by simp; omega,by simp,⟨rfl,rfl,trivial⟩,rfl⟩
end Go.Cod
set_option linter.all false
set_option linter.all false
namespace Go.Cod
variable [Adr]
open Go Go.Proofs
set_option maxRecDepth 10000
set_option maxHeartbeats 2000000 in
theorem l1Words_full (rows:List (List V)) (hr:RowsI .u8 rows) (hl:rows.length=64):Full Tryd.prog noY 47 [.sl rows] [] fun o st'=>∃ ws:List (List V),RowsI .u32 ws∧ws.length=64∧o=.ret (.own 0)∧st'=[uO ws]:=by
 have hg:∀ k:Nat,k < 64→∃ m:Int,rows[k]? = some [.int .u8 m]:=fun k hk=>hr.get (by omega)
 have hwN:∀ (a:Int) (b:Nat),a=(b:Int)→b≤1000→IntKind.i64.wrap a=(b:Int):=fun a b h1 h2=>by rw [h1,wrap64 (by omega) (by omega)]
 refine full_of_awp good Tryd.func47 rfl (by kernel_rfl) (by decide) ?_
 conv=>whnf
 refine ⟨by decide,by decide,by decide,by decide,?_⟩
 conv=>whnf
 refine loop_drop (fun n fr st=>∃ (i:Nat) (ws:List (List V)),n+i=16∧RowsI .u32 ws∧ws.length=i∧Holds fr [(0,.sl rows),(3,.own 0),(4,.int .i64 i)]∧st=[uO ws]) 16 none
  (by
    conv=>whnf
    exact ⟨0,[],by omega,by intro r hr; simp at hr,rfl,⟨rfl,rfl,rfl,trivial⟩,rfl⟩) ?_
 rintro n fr st ⟨i,ws,j1,j2,j3,hh,rfl⟩
 obtain ⟨fr,rfl⟩:=hh.split
 clear hh
 conv=>whnf
 by_cases hi:i < 16
 · rw [ltB_t (by omega)]
   have w0:IntKind.i64.wrap (4*(i:Int))=((4*i:Nat):Int):=hwN _ _ (by omega) (by omega)
   have w1:IntKind.i64.wrap (((4*i:Nat):Int)+1)=((4*i+1:Nat):Int):=hwN _ _ (by omega) (by omega)
   have w2:IntKind.i64.wrap (((4*i:Nat):Int)+2)=((4*i+2:Nat):Int):=hwN _ _ (by omega) (by omega)
   have w3:IntKind.i64.wrap (((4*i:Nat):Int)+3)=((4*i+3:Nat):Int):=hwN _ _ (by omega) (by omega)
   obtain ⟨m0,g0⟩:=hg (4*i) (by omega)
   obtain ⟨m1,g1⟩:=hg (4*i+1) (by omega)
   obtain ⟨m2,g2⟩:=hg (4*i+2) (by omega)
   obtain ⟨m3,g3⟩:=hg (4*i+3) (by omega)
   conv=>whnf
   rw [w0]
   refine ⟨by omega,rows,_,1,rfl,g0,rfl,rfl,?_⟩
   conv=>whnf
   refine ⟨rfl,?_⟩
   conv=>whnf
   refine ⟨by decide,?_⟩
   conv=>whnf
   rw [w0,w1]
   refine ⟨by omega,rows,_,1,rfl,g1,rfl,rfl,?_⟩
   conv=>whnf
   refine ⟨rfl,?_⟩
   conv=>whnf
   refine ⟨by decide,?_⟩
   conv=>whnf
   rw [w0,w2]
   refine ⟨by omega,rows,_,1,rfl,g2,rfl,rfl,?_⟩
   conv=>whnf
   refine ⟨rfl,?_⟩
   conv=>whnf
   refine ⟨by decide,?_⟩
   conv=>whnf
   rw [w0,w3]
   refine ⟨by omega,rows,_,1,rfl,g3,rfl,rfl,?_⟩
   conv=>whnf
   refine ⟨rfl,?_⟩
   conv=>whnf
   refine ⟨fun m hm=>by rw [List.mem_singleton.1 hm]; rfl,?_⟩
   conv=>whnf
   refine ⟨by show (ws.length+1)*4≤_; omega,?_⟩
   conv=>whnf
   refine ⟨n - 1,by omega,some [2],?_⟩
   conv=>whnf
   refine ⟨i+1,ws++[[.int .u32 _]],by omega,RowsI.snoc j2 _,by simp; omega,⟨rfl,rfl,?_,trivial⟩,rfl⟩
   show V.int .i64 (IntKind.i64.wrap ((i:Int)+1))=_
   rw [wrap64 (by omega) (by omega)]
   rfl
 · rw [ltB_f (by omega)]
   obtain rfl:i=16:=by omega
   conv=>whnf
   refine loop_drop (fun n fr st=>∃ (i:Nat) (ws:List (List V)),n+i=64∧16≤i∧RowsI .u32 ws∧ws.length=i∧Holds fr [(0,.sl rows),(3,.own 0),(5,.int .i64 i)]∧st=[uO ws]) 48 none
    (by
      conv=>whnf
      exact ⟨16,ws,by omega,by omega,j2,j3,⟨rfl,rfl,rfl,trivial⟩,rfl⟩) ?_
   clear j1 j2 j3 n ws
   rintro n fr st ⟨i,ws,j1,j0,j2,j3,hh,rfl⟩
   obtain ⟨fr,rfl⟩:=hh.split
   clear hh
   conv=>whnf
   by_cases hi:i < 64
   · rw [ltB_t (by omega)]
     have hgw:∀ k:Nat,k < i→∃ m:Int,ws[k]? = some [.int .u32 m]:=fun k hk=>j2.get (by omega)
     have w0:IntKind.i64.wrap ((i:Int) - 15)=((i - 15:Nat):Int):=hwN _ _ (by omega) (by omega)
     have w1:IntKind.i64.wrap ((i:Int) - 2)=((i - 2:Nat):Int):=hwN _ _ (by omega) (by omega)
     have w2:IntKind.i64.wrap ((i:Int) - 16)=((i - 16:Nat):Int):=hwN _ _ (by omega) (by omega)
     have w3:IntKind.i64.wrap ((i:Int) - 7)=((i - 7:Nat):Int):=hwN _ _ (by omega) (by omega)
     obtain ⟨m0,g0⟩:=hgw (i - 15) (by omega)
     obtain ⟨m1,g1⟩:=hgw (i - 2) (by omega)
     obtain ⟨m2,g2⟩:=hgw (i - 16) (by omega)
     obtain ⟨m3,g3⟩:=hgw (i - 7) (by omega)
     conv=>whnf
     rw [w0]
     refine ⟨by omega,ws,_,1,rfl,g0,rfl,rfl,?_⟩
     conv=>whnf
     refine AtRow_intro _ g0 ?_
     conv=>whnf
     rw [w1]
     refine ⟨by omega,ws,_,1,rfl,g1,rfl,rfl,?_⟩
     conv=>whnf
     refine AtRow_intro _ g1 ?_
     conv=>whnf
     refine .inl ((l1Turn_pure m0 7 (by decide) (by decide)).mono ?_)
     rintro r ⟨a1,rfl⟩
     conv=>whnf
     refine .inl ((l1Turn_pure m0 18 (by decide) (by decide)).mono ?_)
     rintro r ⟨a2,rfl⟩
     conv=>whnf
     refine ⟨by decide,?_⟩
     conv=>whnf
     refine .inl ((l1Turn_pure m1 17 (by decide) (by decide)).mono ?_)
     rintro r ⟨a3,rfl⟩
     conv=>whnf
     refine .inl ((l1Turn_pure m1 19 (by decide) (by decide)).mono ?_)
     rintro r ⟨a4,rfl⟩
     conv=>whnf
     refine ⟨by decide,?_⟩
     conv=>whnf
     rw [w2]
     refine ⟨by omega,ws,_,1,rfl,g2,rfl,rfl,?_⟩
     conv=>whnf
     refine AtRow_intro _ g2 ?_
     conv=>whnf
     rw [w3]
     refine ⟨by omega,ws,_,1,rfl,g3,rfl,rfl,?_⟩
     conv=>whnf
     refine AtRow_intro _ g3 ?_
     conv=>whnf
     refine ⟨fun m hm=>by rw [List.mem_singleton.1 hm]; rfl,?_⟩
     conv=>whnf
     refine ⟨by show (ws.length+1)*4≤_; omega,?_⟩
     conv=>whnf
     refine ⟨n - 1,by omega,some [2],?_⟩
     conv=>whnf
     refine ⟨i+1,ws++[[.int .u32 _]],by omega,by omega,RowsI.snoc j2 _,by simp; omega,⟨rfl,rfl,?_,trivial⟩,rfl⟩
     show V.int .i64 (IntKind.i64.wrap ((i:Int)+1))=_
     rw [wrap64 (by omega) (by omega)]
     rfl
   · rw [ltB_f (by omega)]
     conv=>whnf
     refine ⟨[0],false,?_⟩
     conv=>whnf
     exact ⟨ws,j2,by omega,rfl,rfl⟩
end Go.Cod
set_option linter.all false
set_option linter.all false
namespace Go.Cod
variable [Adr]
open Go Go.Proofs
set_option maxRecDepth 10000
def turnW (x n:Int):Int:=IntKind.u32.wrap ((BitVec.ofInt IntKind.u32.bits (x.fdiv (2 ^ (min n.toNat IntKind.u32.bits))) ||| BitVec.ofInt IntKind.u32.bits (IntKind.u32.wrap (x*2 ^ (min (32 - n).toNat IntKind.u32.bits)))).toNat)
theorem turn_pure (x n:Int) (h0:0≤n) (h1:n≤32):Pure Tryd.prog 49 [.int .u32 x,.int .i64 n] (·=.int .u32 (turnW x n)):=by
 have hw:IntKind.i64.wrap (32 - n)=32 - n:=wrap64 (by omega) (by omega)
 refine pure_of_awp good Tryd.func49 rfl (by kernel_rfl) (by decide) ?_
 conv=>whnf
 refine ⟨h0,?_⟩
 conv=>whnf
 rw [hw]
 refine ⟨by omega,?_⟩
 conv=>whnf
 rfl
def isU32:List V→Bool
 | [.int .u32 _]=>true
 | _=>false
theorem rowsI_all {rows:List (List V)} (h:rows.all isU32=true):RowsI .u32 rows:=fun r hr=>by
 have:=List.all_eq_true.1 h r hr
 unfold isU32 at this
 split at this
 · exact ⟨_,rfl⟩
 · cases this
theorem l1Consts_full:Full Tryd.prog noY 48 [] [] fun o st'=>∃ ks:List (List V),RowsI .u32 ks∧ks.length=64∧o=.ret (.own 0)∧st'=[uO ks]:=by
 refine full_of_awp good Tryd.func48 rfl (by kernel_rfl) (by decide) ?_
 conv=>whnf
 refine ⟨[0],false,?_⟩
 conv=>whnf
 refine ⟨_,?_,?_,rfl,rfl⟩
 · exact rowsI_all rfl
 · rfl
def outV:List (List V)→V
 | []=>.nils
 | _::_=>.own 4
def outO:List (List V)→List O
 | []=>[]
 | r::rs=>[uO (r::rs)]
set_option maxHeartbeats 4000000 in
theorem l1Block_full (hs rows:List (List V)) (hh8:RowsI .u32 hs) (hl8:hs.length=8) (hr:RowsI .u8 rows) (hl:rows.length=64):Full Tryd.prog noY 42 [.own 0,.sl rows] [uO hs] fun o st'=>∃ os:List (List V),RowsI .u32 os∧os.length=8∧o=.ret (.own 1)∧st'=[uO hs,uO os]:=by
 have f1:=l1Words_full rows hr hl
 have f2:=l1Consts_full
 refine full_of_awp good Tryd.func42 rfl (by kernel_rfl) (by decide) ?_
 conv=>whnf
 refine .inr (.inl ⟨[],false,?_⟩)
 conv=>whnf
 refine f1.mono ?_
 rintro o st' ⟨ws,w1,w2,rfl,rfl⟩
 conv=>whnf
 refine .inr (.inl ⟨[],false,?_⟩)
 conv=>whnf
 refine f2.mono ?_
 rintro o st' ⟨ks,k1,k2,rfl,rfl⟩
 conv=>whnf
 refine ⟨fun m hm=>by obtain ⟨x,rfl⟩:=hh8 m hm; rfl,?_⟩
 conv=>whnf
 refine ⟨by show hs.length*4≤_; omega,.inr ⟨(by intro e; change hs=[] at e; rw [e] at hl8; cases hl8),?_⟩⟩
 conv=>whnf
 refine loop_drop (fun n fr st=>∃ (i:Nat) (ss:List (List V)),n+i=64∧RowsI .u32 ss∧ss.length=8∧Holds fr [(0,.own 0),(5,.own 1),(6,.own 2),(7,.own 3),(8,.int .i64 i)]∧st=[uO hs,uO ws,uO ks,uO ss]) 64 none
  (by
    conv=>whnf
    exact ⟨0,hs,by omega,hh8,hl8,⟨rfl,rfl,rfl,rfl,rfl,trivial⟩,rfl⟩) ?_
 rintro n fr st ⟨i,ss,j1,s1,s2,hh,rfl⟩
 obtain ⟨fr,rfl⟩:=hh.split
 clear hh
 by_cases hi:i < 64
 · have hgs:∀ k:Nat,k < 8→∃ m:Int,ss[k]? = some [.int .u32 m]:=fun k hk=>s1.get (by omega)
   obtain ⟨m0,g0⟩:=hgs 0 (by omega)
   obtain ⟨m1,g1⟩:=hgs 1 (by omega)
   obtain ⟨m2,g2⟩:=hgs 2 (by omega)
   obtain ⟨m4,g4⟩:=hgs 4 (by omega)
   obtain ⟨m5,g5⟩:=hgs 5 (by omega)
   obtain ⟨m6,g6⟩:=hgs 6 (by omega)
   obtain ⟨m7,g7⟩:=hgs 7 (by omega)
   obtain ⟨mk,gk⟩:=k1.get (i:=i) (by omega)
   obtain ⟨mw,gw⟩:=w1.get (i:=i) (by omega)
   conv=>whnf
   rw [ltB_t (by omega)]
   conv=>whnf
   refine ⟨by omega,ss,_,1,rfl,g4,rfl,rfl,?_⟩
   conv=>whnf
   refine AtRow_intro _ g4 ?_
   conv=>whnf
   refine ⟨_,.inl (turn_pure m4 6 (by decide) (by decide)),?_⟩
   conv=>whnf
   refine ⟨by omega,ss,_,1,rfl,g4,rfl,rfl,?_⟩
   conv=>whnf
   refine AtRow_intro _ g4 ?_
   conv=>whnf
   refine ⟨_,.inl (turn_pure m4 11 (by decide) (by decide)),?_⟩
   conv=>whnf
   refine ⟨by omega,ss,_,1,rfl,g4,rfl,rfl,?_⟩
   conv=>whnf
   refine AtRow_intro _ g4 ?_
   conv=>whnf
   refine ⟨_,.inl (turn_pure m4 25 (by decide) (by decide)),?_⟩
   conv=>whnf
   refine ⟨by omega,ss,_,1,rfl,g4,rfl,rfl,?_⟩
   conv=>whnf
   refine AtRow_intro _ g4 ?_
   conv=>whnf
   refine ⟨by omega,ss,_,1,rfl,g5,rfl,rfl,?_⟩
   conv=>whnf
   refine AtRow_intro _ g5 ?_
   conv=>whnf
   refine ⟨by omega,ss,_,1,rfl,g4,rfl,rfl,?_⟩
   conv=>whnf
   refine AtRow_intro _ g4 ?_
   conv=>whnf
   refine ⟨by omega,ss,_,1,rfl,g6,rfl,rfl,?_⟩
   conv=>whnf
   refine AtRow_intro _ g6 ?_
   conv=>whnf
   refine ⟨by omega,ss,_,1,rfl,g7,rfl,rfl,?_⟩
   conv=>whnf
   refine AtRow_intro _ g7 ?_
   conv=>whnf
   refine ⟨by omega,ks,_,1,rfl,gk,rfl,rfl,?_⟩
   conv=>whnf
   refine AtRow_intro _ gk ?_
   conv=>whnf
   refine ⟨by omega,ws,_,1,rfl,gw,rfl,rfl,?_⟩
   conv=>whnf
   refine AtRow_intro _ gw ?_
   conv=>whnf
   refine ⟨by omega,ss,_,1,rfl,g0,rfl,rfl,?_⟩
   conv=>whnf
   refine AtRow_intro _ g0 ?_
   conv=>whnf
   refine ⟨_,.inl (turn_pure m0 2 (by decide) (by decide)),?_⟩
   conv=>whnf
   refine ⟨by omega,ss,_,1,rfl,g0,rfl,rfl,?_⟩
   conv=>whnf
   refine AtRow_intro _ g0 ?_
   conv=>whnf
   refine ⟨_,.inl (turn_pure m0 13 (by decide) (by decide)),?_⟩
   conv=>whnf
   refine ⟨by omega,ss,_,1,rfl,g0,rfl,rfl,?_⟩
   conv=>whnf
   refine AtRow_intro _ g0 ?_
   conv=>whnf
   refine ⟨_,.inl (turn_pure m0 22 (by decide) (by decide)),?_⟩
   conv=>whnf
   refine ⟨by omega,ss,_,1,rfl,g0,rfl,rfl,?_⟩
   conv=>whnf
   refine AtRow_intro _ g0 ?_
   conv=>whnf
   refine ⟨by omega,ss,_,1,rfl,g1,rfl,rfl,?_⟩
   conv=>whnf
   refine AtRow_intro _ g1 ?_
   conv=>whnf
   refine ⟨by omega,ss,_,1,rfl,g0,rfl,rfl,?_⟩
   conv=>whnf
   refine AtRow_intro _ g0 ?_
   conv=>whnf
   refine ⟨by omega,ss,_,1,rfl,g2,rfl,rfl,?_⟩
   conv=>whnf
   refine AtRow_intro _ g2 ?_
   conv=>whnf
   refine ⟨by omega,ss,_,1,rfl,g1,rfl,rfl,?_⟩
   conv=>whnf
   refine AtRow_intro _ g1 ?_
   conv=>whnf
   refine ⟨by omega,ss,_,1,rfl,g2,rfl,rfl,?_⟩
   conv=>whnf
   refine AtRow_intro _ g2 ?_
   conv=>whnf
   refine loop_drop (fun n fr st=>∃ (ss':List (List V)) (a b c:Int),n≤7∧RowsI .u32 ss'∧ss'.length=8∧Holds fr [(0,.own 0),(5,.own 1),(6,.own 2),(7,.own 3),(8,.int .i64 i),(11,.int .u32 a),(12,.int .u32 b),(13,.int .u32 c),(14,.int .i64 n)]∧st=[uO hs,uO ws,uO ks,uO ss']) 7 none
    (by
      conv=>whnf
      exact ⟨ss,_,_,_,by omega,s1,s2,⟨rfl,rfl,rfl,rfl,rfl,rfl,rfl,rfl,rfl,trivial⟩,rfl⟩) ?_
   rintro n2 fr st ⟨ss',a,b,c,q0,q1,q2,hh,rfl⟩
   obtain ⟨fr,rfl⟩:=hh.split
   clear hh
   conv=>whnf
   have hgs':∀ k:Nat,k < 8→∃ m:Int,ss'[k]? = some [.int .u32 m]:=fun k hk=>q1.get (by omega)
   by_cases hn:0 < n2
   · rw [ltB_t (by omega)]
     have wn:IntKind.i64.wrap ((n2:Int) - 1)=((n2 - 1:Nat):Int):=by rw [wrap64 (by omega) (by omega)]; omega
     obtain ⟨x1,y1⟩:=hgs' (n2 - 1) (by omega)
     obtain ⟨x2,y2⟩:=hgs' n2 (by omega)
     conv=>whnf
     rw [wn]
     refine ⟨by omega,ss',_,1,rfl,y1,rfl,rfl,?_⟩
     conv=>whnf
     refine AtRow_intro _ y1 ?_
     conv=>whnf
     refine ⟨by omega,ss',_,1,rfl,y2,rfl,rfl,?_⟩
     conv=>whnf
     refine AtRow_intro _ y2 ?_
     conv=>whnf
     refine ⟨n2 - 1,by omega,none,ss'.set n2 [.int .u32 x1],a,b,c,by omega,q1.set _ _,by rw [List.length_set]; exact q2,⟨rfl,rfl,rfl,rfl,rfl,rfl,rfl,rfl,congrArg (V.int .i64) wn,trivial⟩,rfl⟩
   · rw [ltB_f (by omega)]
     obtain ⟨x4,y4⟩:=hgs' 4 (by omega)
     conv=>whnf
     refine ⟨by omega,ss',_,1,rfl,y4,rfl,rfl,?_⟩
     conv=>whnf
     refine AtRow_intro _ y4 ?_
     conv=>whnf
     refine ⟨by omega,ss',_,1,rfl,y4,rfl,rfl,?_⟩
     conv=>whnf
     refine AtRow_intro _ y4 ?_
     conv=>whnf
     obtain ⟨x0,y0⟩:=hgs' 0 (by omega)
     have y0':∀ v,(ss'.set 4 v)[0]? = some [.int .u32 x0]:=fun v=>by rw [List.getElem?_set_ne (by decide)]; exact y0
     refine ⟨by omega,_,_,1,rfl,y0' _,rfl,rfl,?_⟩
     conv=>whnf
     refine AtRow_intro _ (y0' _) ?_
     conv=>whnf
     refine ⟨n - 1,by omega,none,i+1,(ss'.set 4 [.int .u32 _]).set 0 [.int .u32 _],by omega,(q1.set _ _).set _ _,by rw [List.length_set,List.length_set]; exact q2,⟨rfl,rfl,rfl,rfl,?_,trivial⟩,rfl⟩
     show V.int .i64 (IntKind.i64.wrap ((i:Int)+1))=_
     rw [wrap64 (by omega) (by omega)]
     rfl
 · conv=>whnf
   rw [ltB_f (by omega)]
   conv=>whnf
   refine loop_drop (fun n fr st=>∃ (i:Nat) (os:List (List V)),n+i=8∧RowsI .u32 os∧os.length=i∧Holds fr [(0,.own 0),(7,.own 3),(15,outV os),(16,.int .i64 i)]∧st=[uO hs,uO ws,uO ks,uO ss]++outO os) 8 none
    (by
      conv=>whnf
      exact ⟨0,[],by omega,fun r hr=>by simp at hr,rfl,⟨rfl,rfl,rfl,rfl,trivial⟩,rfl⟩) ?_
   rintro n3 fr st ⟨i3,os,o1,o2,o3,hh,rfl⟩
   obtain ⟨fr,rfl⟩:=hh.split
   clear hh
   by_cases h8:i3 < 8
   · obtain ⟨xh,yh⟩:=hh8.get (i:=i3) (by omega)
     obtain ⟨xs,ys⟩:=s1.get (i:=i3) (by omega)
     have wi:IntKind.i64.wrap ((i3:Int)+1)=((i3+1:Nat):Int):=by rw [wrap64 (by omega) (by omega)]; rfl
     cases os with
     | nil =>
       conv=>whnf
       rw [ltB_t (by omega)]
       conv=>whnf
       refine ⟨by omega,hs,_,1,rfl,yh,rfl,rfl,?_⟩
       conv=>whnf
       refine AtRow_intro _ yh ?_
       conv=>whnf
       refine ⟨by omega,ss,_,1,rfl,ys,rfl,rfl,?_⟩
       conv=>whnf
       refine AtRow_intro _ ys ?_
       conv=>whnf
       refine ⟨fun m hm=>by rw [List.mem_singleton.1 hm]; rfl,?_⟩
       conv=>whnf
       refine ⟨by show 1*4≤_; omega,.inr ⟨(by intro e; cases e),?_⟩⟩
       conv=>whnf
       refine ⟨n3 - 1,by omega,some [0,1,2,3,5],?_⟩
       conv=>whnf
       refine ⟨i3+1,[]++[[.int .u32 _]],by omega,RowsI.snoc o2 _,by simp at o3 ⊢; omega,⟨rfl,rfl,rfl,congrArg (V.int .i64) wi,trivial⟩,rfl⟩
     | cons r0 os =>
       conv=>whnf
       rw [ltB_t (by omega)]
       conv=>whnf
       refine ⟨by omega,hs,_,1,rfl,yh,rfl,rfl,?_⟩
       conv=>whnf
       refine AtRow_intro _ yh ?_
       conv=>whnf
       refine ⟨by omega,ss,_,1,rfl,ys,rfl,rfl,?_⟩
       conv=>whnf
       refine AtRow_intro _ ys ?_
       conv=>whnf
       refine ⟨fun m hm=>by rw [List.mem_singleton.1 hm]; rfl,?_⟩
       conv=>whnf
       refine ⟨by show ((r0::os).length+1)*4≤_; omega,?_⟩
       conv=>whnf
       refine ⟨n3 - 1,by omega,some [0,1,2,3,6],?_⟩
       conv=>whnf
       refine ⟨i3+1,(r0::os)++[[.int .u32 _]],by omega,RowsI.snoc o2 _,by simp at o3 ⊢; omega,⟨rfl,rfl,rfl,congrArg (V.int .i64) wi,trivial⟩,rfl⟩
   · cases os with
     | nil=>simp at o3; omega
     | cons r0 os =>
       conv=>whnf
       rw [ltB_f (by omega)]
       conv=>whnf
       refine ⟨[4],false,?_⟩
       conv=>whnf
       exact ⟨r0::os,o2,by omega,rfl,rfl⟩
end Go.Cod
set_option linter.all false
set_option linter.all false
namespace Go.Cod
variable [Adr]
open Go Go.Proofs
set_option maxRecDepth 10000
def bO (e:Bool) (rows:List (List V)):O:=⟨rows,1,true,e,false,.cell⟩
def cells (bs:List UInt8):List (List V):=bs.map fun b=>[cellB b]
theorem cellB_wrap (z:Int):∃ b:UInt8,V.int .u8 (IntKind.u8.wrap z)=cellB b:=by
 refine ⟨UInt8.ofNat (z % 256).toNat,?_⟩
 rw [IntKind.wrap_u8]
 show _=V.int .u8 ((UInt8.ofNat (z % 256).toNat).toNat:Int)
 rw [UInt8.toNat_ofNat']
 congr 1
 omega
def outB:List UInt8→V
 | []=>.nils
 | _::_=>.own 2
def outBO:List UInt8→List O
 | []=>[]
 | r::rs=>[uO (cells (r::rs))]
set_option maxHeartbeats 4000000 in
theorem l1Sum_pure (s:List UInt8) (hs:s.length≤1048576):Pure Tryd.prog 36 [.str s] fun r=>∃ t:List UInt8,t.length=32∧r=.str t:=by
 have f1:=l1Padded_full s hs
 refine pure_of_awp good Tryd.func36 rfl (by kernel_rfl) (by decide) ?_
 conv=>whnf
 refine .inr (.inl ⟨[],false,?_⟩)
 conv=>whnf
 refine f1.mono ?_
 rintro o st' ⟨rows,r1,r2,r3,r4,rfl,rfl⟩
 conv=>whnf
 refine loop_drop (fun n fr st=>∃ (i:Nat) (e:Bool) (hh:List (List V)),i+64*n=rows.length∧RowsI .u32 hh∧hh.length=8∧Holds fr [(3,.own 0),(4,.own 1),(5,.int .i64 i)]∧st=[uO hh,bO e rows]) (rows.length / 64) none
  (by
    conv=>whnf
    exact ⟨0,true,_,by omega,rowsI_all rfl,rfl,⟨rfl,rfl,rfl,trivial⟩,rfl⟩) ?_
 rintro n fr st ⟨i,e,hh,j1,h1,h2,hq,rfl⟩
 obtain ⟨fr,rfl⟩:=hq.split
 clear hq
 conv=>whnf
 by_cases hi:0 < n
 · rw [ltB_t (by show (i:Int) < (rows.length:Int); omega)]
   have wi:IntKind.i64.wrap ((i:Int)+64)=((i+64:Nat):Int):=by rw [wrap64 (by omega) (by omega)]; rfl
   have hsub:((rows.take (i+64)).drop i).length=64:=by rw [List.length_drop,List.length_take]; omega
   have f2:=l1Block_full hh ((rows.take (i+64)).drop i) h1 h2 (r1.sub _ _) hsub
   conv=>whnf
   refine ⟨fun r hr=>by obtain ⟨x,rfl⟩:=r1 r hr; rfl,?_⟩
   conv=>whnf
   rw [wi]
   refine ⟨by omega,by show i+64≤rows.length; omega,?_⟩
   conv=>whnf
   refine ⟨by omega,by show i≤i+64; omega,?_⟩
   conv=>whnf
   refine ⟨[0],false,?_⟩
   conv=>whnf
   refine f2.mono ?_
   rintro o st' ⟨os,o1,o2,rfl,rfl⟩
   conv=>whnf
   refine ⟨n - 1,by omega,some [2,1],?_⟩
   conv=>whnf
   refine ⟨i+64,false,os,by omega,o1,o2,⟨rfl,rfl,congrArg (V.int .i64) wi,trivial⟩,rfl⟩
 · rw [ltB_f (by show (rows.length:Int)≤(i:Int); omega)]
   conv=>whnf
   refine loop_drop (fun n fr st=>∃ (i:Nat) (bs:List UInt8),i+n=8∧bs.length=4*i∧Holds fr [(3,.own 0),(6,outB bs),(7,.int .i64 i)]∧st=[uO hh,bO e rows]++outBO bs) 8 none
    (by
      conv=>whnf
      exact ⟨0,[],by omega,rfl,⟨rfl,rfl,rfl,trivial⟩,rfl⟩) ?_
   rintro n2 fr st ⟨i2,bs,q1,q2,hq,rfl⟩
   obtain ⟨fr,rfl⟩:=hq.split
   clear hq
   by_cases h8:i2 < 8
   · obtain ⟨x,y⟩:=h1.get (i:=i2) (by omega)
     have wi:IntKind.i64.wrap ((i2:Int)+1)=((i2+1:Nat):Int):=by rw [wrap64 (by omega) (by omega)]; rfl
     obtain ⟨b1,e1⟩:=cellB_wrap (x.fdiv (2 ^ min (Int.toNat 24) IntKind.u32.bits))
     obtain ⟨b2,e2⟩:=cellB_wrap (x.fdiv (2 ^ min (Int.toNat 16) IntKind.u32.bits))
     obtain ⟨b3,e3⟩:=cellB_wrap (x.fdiv (2 ^ min (Int.toNat 8) IntKind.u32.bits))
     obtain ⟨b4,e4⟩:=cellB_wrap x
     cases bs with
     | nil =>
       conv=>whnf
       rw [ltB_t (by omega)]
       conv=>whnf
       refine ⟨by omega,hh,_,1,rfl,y,rfl,rfl,?_⟩
       conv=>whnf
       refine AtRow_intro _ y ?_
       conv=>whnf
       refine ⟨by decide,?_⟩
       conv=>whnf
       refine ⟨rfl,?_⟩
       conv=>whnf
       refine ⟨by omega,hh,_,1,rfl,y,rfl,rfl,?_⟩
       conv=>whnf
       refine AtRow_intro _ y ?_
       conv=>whnf
       refine ⟨by decide,?_⟩
       conv=>whnf
       refine ⟨rfl,?_⟩
       conv=>whnf
       refine ⟨by omega,hh,_,1,rfl,y,rfl,rfl,?_⟩
       conv=>whnf
       refine AtRow_intro _ y ?_
       conv=>whnf
       refine ⟨by decide,?_⟩
       conv=>whnf
       refine ⟨rfl,?_⟩
       conv=>whnf
       refine ⟨by omega,hh,_,1,rfl,y,rfl,rfl,?_⟩
       conv=>whnf
       refine AtRow_intro _ y ?_
       conv=>whnf
       refine ⟨rfl,?_⟩
       conv=>whnf
       refine ⟨fun m hm=>by
        change m∈[[_],[_],[_],[_]] at hm
        simp only [List.mem_cons,List.not_mem_nil,or_false] at hm
        rcases hm with rfl | rfl | rfl | rfl <;> rfl,?_⟩
       conv=>whnf
       refine ⟨by show 4*1≤_; omega,.inr ⟨(by intro e; cases e),?_⟩⟩
       conv=>whnf
       refine ⟨n2 - 1,by omega,some [0,1,3],?_⟩
       conv=>whnf
       refine ⟨i2+1,[]++[b1,b2,b3,b4],by omega,by simp at q2 ⊢; omega,⟨rfl,rfl,congrArg (V.int .i64) wi,trivial⟩,?_⟩
       show [uO hh,bO e rows,uO ([[.int .u8 (IntKind.u8.wrap (x.fdiv (2 ^ min (Int.toNat 24) IntKind.u32.bits)))],[.int .u8 (IntKind.u8.wrap (x.fdiv (2 ^ min (Int.toNat 16) IntKind.u32.bits)))],[.int .u8 (IntKind.u8.wrap (x.fdiv (2 ^ min (Int.toNat 8) IntKind.u32.bits)))],[.int .u8 (IntKind.u8.wrap x)]])]=_
       rw [e1,e2,e3,e4]
       rfl
     | cons b bs =>
       conv=>whnf
       rw [ltB_t (by omega)]
       conv=>whnf
       refine ⟨by omega,hh,_,1,rfl,y,rfl,rfl,?_⟩
       conv=>whnf
       refine AtRow_intro _ y ?_
       conv=>whnf
       refine ⟨by decide,?_⟩
       conv=>whnf
       refine ⟨rfl,?_⟩
       conv=>whnf
       refine ⟨by omega,hh,_,1,rfl,y,rfl,rfl,?_⟩
       conv=>whnf
       refine AtRow_intro _ y ?_
       conv=>whnf
       refine ⟨by decide,?_⟩
       conv=>whnf
       refine ⟨rfl,?_⟩
       conv=>whnf
       refine ⟨by omega,hh,_,1,rfl,y,rfl,rfl,?_⟩
       conv=>whnf
       refine AtRow_intro _ y ?_
       conv=>whnf
       refine ⟨by decide,?_⟩
       conv=>whnf
       refine ⟨rfl,?_⟩
       conv=>whnf
       refine ⟨by omega,hh,_,1,rfl,y,rfl,rfl,?_⟩
       conv=>whnf
       refine AtRow_intro _ y ?_
       conv=>whnf
       refine ⟨rfl,?_⟩
       conv=>whnf
       refine ⟨fun m hm=>by
        change m∈[[_],[_],[_],[_]] at hm
        simp only [List.mem_cons,List.not_mem_nil,or_false] at hm
        rcases hm with rfl | rfl | rfl | rfl <;> rfl,?_⟩
       conv=>whnf
       refine ⟨by show ((cells (b::bs)).length+4)*1≤_; rw [cells,List.length_map]; omega,?_⟩
       conv=>whnf
       refine ⟨n2 - 1,by omega,some [0,1,4],?_⟩
       conv=>whnf
       refine ⟨i2+1,(b::bs)++[b1,b2,b3,b4],by omega,by simp at q2 ⊢; omega,⟨rfl,rfl,congrArg (V.int .i64) wi,trivial⟩,?_⟩
       show [uO hh,bO e rows,uO (cells (b::bs)++[[.int .u8 (IntKind.u8.wrap (x.fdiv (2 ^ min (Int.toNat 24) IntKind.u32.bits)))],[.int .u8 (IntKind.u8.wrap (x.fdiv (2 ^ min (Int.toNat 16) IntKind.u32.bits)))],[.int .u8 (IntKind.u8.wrap (x.fdiv (2 ^ min (Int.toNat 8) IntKind.u32.bits)))],[.int .u8 (IntKind.u8.wrap x)]])]=_
       rw [e1,e2,e3,e4]
       simp [outBO,cells]
   · cases bs with
     | nil=>simp at q2; omega
     | cons b bs =>
       conv=>whnf
       rw [ltB_f (by omega)]
       conv=>whnf
       refine ⟨b::bs,rfl,?_⟩
       conv=>whnf
       exact ⟨b::bs,by omega,rfl⟩
end Go.Cod
set_option linter.all false
set_option linter.all false
namespace Go.Cod
variable [Adr]
open Go Go.Proofs
set_option maxRecDepth 10000
def hexL:List UInt8:=[48,49,50,51,52,53,54,55,56,57,97,98,99,100,101,102]
theorem hexL_get (k:Nat) (h:k < 16):∃ b:UInt8,hexL[k]? = some b:=⟨hexL[k]'h,List.getElem?_eq_getElem h⟩
def outH:List UInt8→V
 | []=>.nils
 | _::_=>.own 0
def outHO:List UInt8→List O
 | []=>[]
 | r::rs=>[uO (cells (r::rs))]
set_option maxHeartbeats 4000000 in
theorem l1Hex_pure (s:List UInt8) (hs:s.length=32):Pure Tryd.prog 35 [.str s] fun r=>∃ t:List UInt8,t.length=64∧r=.str t:=by
 refine pure_of_awp good Tryd.func35 rfl (by kernel_rfl) (by decide) ?_
 conv=>whnf
 refine loop_drop (fun n fr st=>∃ (i:Nat) (bs:List UInt8),n+i=32∧bs.length=2*i∧Holds fr [(0,.str s),(3,outH bs),(4,.int .i64 i)]∧st=outHO bs) 32 none
  (by
    conv=>whnf
    exact ⟨0,[],by omega,rfl,⟨rfl,rfl,rfl,trivial⟩,rfl⟩) ?_
 rintro n fr st ⟨i,bs,j1,j2,hq,rfl⟩
 obtain ⟨fr,rfl⟩:=hq.split
 clear hq
 by_cases hi:i < 32
 · have hg:s[i]? = some s[i]:=List.getElem?_eq_getElem (by omega)
   have wi:IntKind.i64.wrap ((i:Int)+1)=((i+1:Nat):Int):=by rw [wrap64 (by omega) (by omega)]; rfl
   generalize s[i]=b at *
   have hb:b.toNat < 256:=b.toNat_lt
   have q1:IntKind.u8.wrap ((b.toNat:Int).tdiv 16)=((b.toNat / 16:Nat):Int):=by
    rw [Int.tdiv_eq_ediv_of_nonneg (by omega),IntKind.wrap_u8]; omega
   have q2:(b.toNat:Int).tmod 16=((b.toNat % 16:Nat):Int):=by rw [Int.tmod_eq_emod_of_nonneg (by omega)]; omega
   obtain ⟨c1,p1⟩:=hexL_get (b.toNat / 16) (by omega)
   obtain ⟨c2,p2⟩:=hexL_get (b.toNat % 16) (by omega)
   cases bs with
   | nil =>
     conv=>whnf
     rw [ltB_t (by omega)]
     conv=>whnf
     refine ⟨by omega,b,hg,?_⟩
     conv=>whnf
     refine ⟨by decide,?_⟩
     conv=>whnf
     rw [q1]
     refine ⟨by omega,c1,p1,?_⟩
     conv=>whnf
     refine ⟨by omega,b,hg,?_⟩
     conv=>whnf
     refine ⟨by decide,?_⟩
     conv=>whnf
     rw [q2]
     refine ⟨by omega,c2,p2,?_⟩
     conv=>whnf
     refine ⟨fun m hm=>by
      change m∈[[_],[_]] at hm
      simp only [List.mem_cons,List.not_mem_nil,or_false] at hm
      rcases hm with rfl | rfl <;> rfl,?_⟩
     conv=>whnf
     refine ⟨by show 2*1≤_; omega,.inr ⟨(by intro e; cases e),?_⟩⟩
     conv=>whnf
     refine ⟨n - 1,by omega,some [1],?_⟩
     conv=>whnf
     refine ⟨i+1,[]++[c1,c2],by omega,by simp at j2 ⊢; omega,⟨rfl,rfl,congrArg (V.int .i64) wi,trivial⟩,?_⟩
     show [uO ([[cellB c1],[cellB c2]])]=_
     rfl
   | cons b0 bs =>
     conv=>whnf
     rw [ltB_t (by omega)]
     conv=>whnf
     refine ⟨by omega,b,hg,?_⟩
     conv=>whnf
     refine ⟨by decide,?_⟩
     conv=>whnf
     rw [q1]
     refine ⟨by omega,c1,p1,?_⟩
     conv=>whnf
     refine ⟨by omega,b,hg,?_⟩
     conv=>whnf
     refine ⟨by decide,?_⟩
     conv=>whnf
     rw [q2]
     refine ⟨by omega,c2,p2,?_⟩
     conv=>whnf
     refine ⟨fun m hm=>by
      change m∈[[_],[_]] at hm
      simp only [List.mem_cons,List.not_mem_nil,or_false] at hm
      rcases hm with rfl | rfl <;> rfl,?_⟩
     conv=>whnf
     refine ⟨by show ((cells (b0::bs)).length+2)*1≤_; rw [cells,List.length_map]; omega,?_⟩
     conv=>whnf
     refine ⟨n - 1,by omega,some [2],?_⟩
     conv=>whnf
     refine ⟨i+1,(b0::bs)++[c1,c2],by omega,by simp at j2 ⊢; omega,⟨rfl,rfl,congrArg (V.int .i64) wi,trivial⟩,?_⟩
     show [uO (cells (b0::bs)++[[cellB c1],[cellB c2]])]=_
     simp [outHO,cells]
 · cases bs with
   | nil=>simp at j2; omega
   | cons b0 bs =>
     conv=>whnf
     rw [ltB_f (by omega)]
     conv=>whnf
     refine ⟨b0::bs,rfl,?_⟩
     conv=>whnf
     exact ⟨b0::bs,by omega,rfl⟩
theorem hashSum_pure (s:List UInt8) (hs:s.length≤1048576):Pure Tryd.prog 22 [.str s] fun r=>∃ t:List UInt8,t.length=64∧r=.str t:=by
 refine pure_of_awp good Tryd.func22 rfl (by kernel_rfl) (by decide) ?_
 conv=>whnf
 refine .inl ((l1Sum_pure s hs).mono ?_)
 rintro r ⟨t,ht,rfl⟩
 conv=>whnf
 refine .inl ((l1Hex_pure t ht).mono ?_)
 rintro r ⟨t2,ht2,rfl⟩
 conv=>whnf
 exact ⟨t2,ht2,rfl⟩
end Go.Cod
set_option linter.all false
namespace Go.Cod
variable [Adr]
open Go Go.Proofs
set_option maxRecDepth 10000
def brows (bs:List UInt8):List (List V):=bs.map fun b=>[cellB b]
theorem brows_len (bs:List UInt8):(brows bs).length=bs.length:=by simp [brows]
theorem brows_get (bs:List UInt8) (i:Nat) (h:i < bs.length):(brows bs)[i]? = some [cellB bs[i]]:=by simp [brows,h]
def rdO (bs:List UInt8) (p:Int):O:=⟨[[.sl (brows bs),.int .i64 p]],2,true,true,true,.cell⟩
theorem tmod_in {a n:Int} (h0:0≤a) (hn:1≤n):0≤a.tmod n∧a.tmod n < n:=by
 rw [Int.tmod_eq_emod_of_nonneg h0]
 exact ⟨Int.emod_nonneg _ (by omega),Int.emod_lt_of_pos _ (by omega)⟩
theorem xor_in {a b:Int} (ha:0≤a∧a < 4611686018427387904) (hb:0≤b∧b < 4611686018427387904):∃ m:Int,0≤m∧IntKind.i64.wrap (BitVec.ofInt IntKind.i64.bits a ^^^ BitVec.ofInt IntKind.i64.bits b).toNat=m:=by
 refine ⟨_,?_,rfl⟩
 have e:(BitVec.ofInt IntKind.i64.bits a ^^^ BitVec.ofInt IntKind.i64.bits b).toNat < 2 ^ 62:=by
  show (BitVec.ofInt 64 a ^^^ BitVec.ofInt 64 b).toNat < 2 ^ 62
  rw [BitVec.toNat_xor,BitVec.toNat_ofInt,BitVec.toNat_ofInt]
  refine Nat.xor_lt_two_pow ?_ ?_ <;> omega
 rw [wrap64 (by omega) (by have:(2:Nat)^62=4611686018427387904:=rfl; omega)]
 omega
theorem pick_full (bs:List UInt8) (p n:Int) (hb:bs.length≤2000) (h0:0≤p) (h1:p≤1073741824) :
  Full Tryd.prog noY 20 [.ptr 0 0 0,.int .i64 n] [rdO bs p] fun o st'=>∃ m:Int,0≤m∧(1≤n→m < n)∧o=.ret (.int .i64 m)∧st'=[rdO bs (p+1)]:=by
 have hl:=brows_len bs
 have w1:IntKind.i64.wrap (p+1)=p+1:=wrap64 (by omega) (by omega)
 have w2:IntKind.i64.wrap (p+1 - 1)=p:=by rw [wrap64 (by omega) (by omega)]; omega
 have g0:∀ i:Nat,i < bs.length→(brows bs)[i]? = some [cellB bs[i]!]:=fun i hi=>by rw [brows_get bs i hi,getElem!_pos bs i hi]
 generalize hrows:brows bs=rows at *
 refine full_of_awp good Tryd.func20 rfl (by kernel_rfl) (by decide) ?_
 unfold rdO
 rw [hrows]
 conv=>whnf
 rw [w1]
 conv=>whnf
 by_cases a1:n < 1
 · rw [ltB_t (by omega)]
   conv=>whnf
   refine ⟨[],false,?_⟩
   conv=>whnf
   exact ⟨0,by omega,fun h=>by omega,rfl,rfl⟩
 rw [ltB_f (by omega)]
 conv=>whnf
 by_cases a2:(rows.length:Int)=0
 · rw [eqB_t a2]
   conv=>whnf
   refine ⟨[],false,?_⟩
   conv=>whnf
   exact ⟨0,by omega,fun h=>by omega,rfl,rfl⟩
 rw [eqB_f a2]
 conv=>whnf
 rw [w2]
 conv=>whnf
 by_cases a3:p < (rows.length:Int)
 · rw [ltB_t a3]
   conv=>whnf
   refine ⟨h0,rows,_,1,rfl,g0 p.toNat (by omega),rfl,rfl,?_⟩
   conv=>whnf
   refine ⟨by omega,?_⟩
   conv=>whnf
   refine ⟨[],false,?_⟩
   conv=>whnf
   have hc:IntKind.i64.wrap ((bs[p.toNat]!).toNat:Int)=((bs[p.toNat]!).toNat:Int):=wrap64 (by omega) (by have:=(bs[p.toNat]!).toNat_lt; omega)
   refine ⟨_,?_,?_,rfl,rfl⟩
   · rw [hc]; exact (tmod_in (by omega) (by omega)).1
   · intro _; rw [hc]; exact (tmod_in (by omega) (by omega)).2
 rw [ltB_f (by omega)]
 conv=>whnf
 have hL:1≤(rows.length:Int):=by omega
 refine ⟨by omega,?_⟩
 conv=>whnf
 have i1:=tmod_in (a:=p) (n:=rows.length) h0 hL
 refine ⟨i1.1,rows,_,1,rfl,g0 (p.tmod rows.length).toNat (by omega),rfl,rfl,?_⟩
 conv=>whnf
 refine ⟨rfl,?_⟩
 conv=>whnf
 have w3:IntKind.i64.wrap (IntKind.i64.wrap (p*7)+3)=p*7+3:=by rw [wrap64 (a:=p*7) (by omega) (by omega),wrap64 (by omega) (by omega)]
 rw [w3]
 refine ⟨by omega,?_⟩
 conv=>whnf
 have i2:=tmod_in (a:=p*7+3) (n:=rows.length) (by omega) hL
 refine ⟨i2.1,rows,_,1,rfl,g0 ((p*7+3).tmod rows.length).toNat (by omega),rfl,rfl,?_⟩
 conv=>whnf
 refine ⟨rfl,?_⟩
 conv=>whnf
 refine ⟨by omega,?_⟩
 have c1:=(bs[(p.tmod rows.length).toNat]!).toNat_lt
 have c2:=(bs[((p*7+3).tmod rows.length).toNat]!).toNat_lt
 generalize bs[(p.tmod rows.length).toNat]! = d1 at *
 generalize bs[((p*7+3).tmod rows.length).toNat]! = d2 at *
 have q1:0≤p.tdiv rows.length∧p.tdiv rows.length≤p:=by
  rw [Int.tdiv_eq_ediv_of_nonneg h0]
  exact ⟨Int.ediv_nonneg h0 (by omega),Int.ediv_le_self _ h0⟩
 generalize p.tdiv rows.length=q at *
 obtain ⟨x,⟨hx0,hx1⟩,hx⟩:∃ x:Int,(0≤x∧x < 4611686018427387904)∧IntKind.i64.wrap (IntKind.i64.wrap (IntKind.i64.wrap (IntKind.i64.wrap (IntKind.i64.wrap (d1.toNat:Int)*131)+IntKind.i64.wrap (IntKind.i64.wrap (d2.toNat:Int)*1117))+IntKind.i64.wrap (p*29))+IntKind.i64.wrap (IntKind.i64.wrap q*53))=x:=by
  rw [wrap64 (a:=(d1.toNat:Int)) (by omega) (by omega),wrap64 (a:=(d2.toNat:Int)) (by omega) (by omega),wrap64 (a:=(d1.toNat:Int)*131) (by omega) (by omega),wrap64 (a:=(d2.toNat:Int)*1117) (by omega) (by omega),wrap64 (a:=(d1.toNat:Int)*131+_) (by omega) (by omega),
   wrap64 (a:=p*29) (by omega) (by omega),wrap64 (a:=q) (by omega) (by omega),wrap64 (a:=q*53) (by omega) (by omega),wrap64 (a:=(d1.toNat:Int)*131+_+_) (by omega) (by omega)]
  rw [wrap64 (by omega) (by omega)]
  exact ⟨_,by omega,rfl⟩
 conv=>whnf
 rw [hx]
 refine ⟨by decide,?_⟩
 conv=>whnf
 obtain ⟨y,hy0,hy⟩:=xor_in (a:=x) (b:=IntKind.i64.wrap (x.tdiv 64)) ⟨hx0,hx1⟩ (by
  rw [Int.tdiv_eq_ediv_of_nonneg hx0,wrap64 (by omega) (by omega)]; omega)
 rw [hy]
 refine ⟨by omega,?_⟩
 conv=>whnf
 refine ⟨[],false,?_⟩
 conv=>whnf
 exact ⟨_,(tmod_in hy0 (by omega)).1,fun _=>(tmod_in hy0 (by omega)).2,rfl,rfl⟩
end Go.Cod
set_option linter.all false
namespace Go.Cod
variable [Adr]
open Go Go.Proofs
set_option maxRecDepth 10000
theorem l1Many_pure (s:List UInt8) (n:Int) (h0:0≤n) (hn64:n≤1048576) (hL:s.length*n.toNat≤1048576) (hs:s.length≤1048576):Pure Tryd.prog 23 [.str s,.int .i64 n] fun r=>∃ t:List UInt8,t.length=s.length*n.toNat∧r=.str t:=by
 generalize hLL:s.length*n.toNat=L at *
 refine pure_of_awp good Tryd.func23 rfl (by kernel_rfl) (by decide) ?_
 conv=>whnf
 refine loop_intro (fun m fr st=>st=[]∧∃ (a b:List UInt8),a.length+b.length*m=L∧b.length≤2097152∧(m:Int)≤n∧Holds fr [(0,.str b),(1,.int .i64 m),(5,.str a)]) n.toNat
  ⟨rfl,[],s,by simp [hLL],by omega,by omega,rfl,by rw [Int.toNat_of_nonneg h0]; rfl,rfl,trivial⟩ ?_
 rintro m fr st ⟨rfl,a,b,h1,h2,h3,hh⟩
 obtain ⟨fr,rfl⟩:=hh.split
 clear hh
 conv=>whnf
 by_cases hlt:0 < m
 · rw [ltB_t (by omega)]
   conv=>whnf
   refine ⟨by decide,?_⟩
   conv=>whnf
   have hbm:b.length≤b.length*m:=Nat.le_mul_of_pos_right _ hlt
   have e1:(m:Int).tmod 2=((m % 2:Nat):Int):=by rw [Int.tmod_eq_emod_of_nonneg (by omega)]; omega
   have e4:IntKind.i64.wrap ((m:Int).tdiv 2)=((m / 2:Nat):Int):=by
    rw [Int.tdiv_eq_ediv_of_nonneg (by omega),wrap64 (by omega) (by omega)]; omega
   have hm:m=2*(m / 2)+m % 2:=by omega
   have hmul:b.length*m=2*(b.length*(m / 2))+b.length*(m % 2):=by
    conv=>lhs; rw [hm,Nat.mul_add,Nat.mul_left_comm]
   rw [e1]
   by_cases ho:m % 2=1
   · rw [eqB_t (by omega)]
     conv=>whnf
     rw [ho,Nat.mul_one] at hmul
     refine ⟨by omega,?_⟩
     conv=>whnf
     refine ⟨by omega,?_⟩
     conv=>whnf
     refine ⟨by decide,?_⟩
     conv=>whnf
     refine ⟨m / 2,by omega,rfl,a++b,b++b,?_,by simp; omega,by omega,rfl,by rw [← e4]; rfl,rfl,trivial⟩
     rw [List.length_append,List.length_append,Nat.add_mul]; omega
   · rw [eqB_f (by omega)]
     conv=>whnf
     rw [show m % 2=0 by omega,Nat.mul_zero] at hmul
     refine ⟨by omega,?_⟩
     conv=>whnf
     refine ⟨by decide,?_⟩
     conv=>whnf
     refine ⟨m / 2,by omega,rfl,a,b++b,?_,by simp; omega,by omega,rfl,by rw [← e4]; rfl,rfl,trivial⟩
     rw [List.length_append,Nat.add_mul]; omega
 · rw [ltB_f (by omega)]
   conv=>whnf
   have:m=0:=by omega
   subst this
   exact ⟨a,by omega,rfl⟩
def drows (ss:List (List UInt8)):List (List V):=ss.map fun s=>[.str s]
theorem drows_len (ss:List (List UInt8)):(drows ss).length=ss.length:=by simp [drows]
theorem of_full (bs:List UInt8) (p:Int) (ss:List (List UInt8)) (hb:bs.length≤2000) (h0:0≤p) (h1:p≤1073741824) (hn:1≤ss.length) (hn':ss.length≤1048576) :
  Full Tryd.prog noY 21 [.ptr 0 0 0,.sl (drows ss)] [rdO bs p] fun o st'=>∃ s∈ss,o=.ret (.str s)∧st'=[rdO bs (p+1)]:=by
 have hl:=drows_len ss
 have hp:=pick_full bs p ss.length hb h0 h1
 have hg:∀ m:Int,0≤m→m < ss.length→∃ s∈ss,(drows ss)[m.toNat]? = some [.str s]:=fun m a b=>by
  have:m.toNat < ss.length:=by omega
  exact ⟨ss[m.toNat],List.getElem_mem _,by simp [drows,this]⟩
 generalize drows ss=rows at *
 refine full_of_awp good Tryd.func21 rfl (by kernel_rfl) (by decide) ?_
 conv=>whnf
 rw [hl]
 refine ⟨[0],false,?_⟩
 conv=>whnf
 refine hp.mono ?_
 rintro o st' ⟨m,m0,m1,rfl,rfl⟩
 conv=>whnf
 obtain ⟨s,hs,hgs⟩:=hg m m0 (m1 (by omega))
 refine ⟨m0,rows,_,1,rfl,hgs,rfl,rfl,?_⟩
 conv=>whnf
 refine ⟨[],false,?_⟩
 conv=>whnf
 exact ⟨s,hs,rfl,rfl⟩
end Go.Cod
set_option linter.all false
set_option linter.all false
namespace Go.Cod
variable [Adr]
open Go Go.Proofs
set_option maxRecDepth 10000
theorem l1Open_full (bs:List UInt8) (hb:bs.length≤1048576):Full Tryd.prog noY 11 [.sl (brows bs)] [] fun o st'=>o=.ret (.ptr 0 0 0)∧∃ bs':List UInt8,bs'.length≤2000∧st'=[rdO bs' 0]:=by
 have hl:=brows_len bs
 have h1:∀ r∈brows bs,r.length=1:=fun r h=>by
  obtain ⟨b,_,rfl⟩:=List.mem_map.1 h; rfl
 have h2:((brows bs).take 2000).drop 0=brows (bs.take 2000):=by rw [brows,brows,List.map_take]; rfl
 refine full_of_awp good Tryd.func11 rfl (by kernel_rfl) (by decide) ?_
 generalize hR:brows bs=R at *
 conv=>whnf
 by_cases a:2000 < R.length
 · rw [ltB_t (by omega)]
   conv=>whnf
   refine ⟨h1,by omega,by show 2000≤_; omega,?_⟩
   conv=>whnf
   refine ⟨[0],false,?_⟩
   conv=>whnf
   refine ⟨rfl,bs.take 2000,by rw [List.length_take]; omega,?_⟩
   show [(⟨[[.sl ((R.take 2000).drop 0),.int .i64 0]],2,true,true,true,.cell⟩:O)]=_
   rw [h2]; rfl
 · rw [ltB_f (by omega)]
   conv=>whnf
   refine ⟨[0],false,?_⟩
   conv=>whnf
   refine ⟨rfl,bs,by omega,?_⟩
   rw [rdO,hR]; rfl
def dig1 (n:Int):List UInt8:=[UInt8.ofNat (48+n.toNat)]
theorem l1Dec1_pure (n:Int) (h0:0≤n) (h1:n≤9):Pure Tryd.prog 24 [.int .i64 n] (·=.str (dig1 n)):=by
 have w1:IntKind.i64.wrap (48+n)=48+n:=wrap64 (by omega) (by omega)
 have w2:V.int .u8 (IntKind.u8.wrap (48+n))=cellB (UInt8.ofNat (48+n.toNat)):=by
  rw [IntKind.wrap_u8]
  show _=V.int .u8 ((UInt8.ofNat (48+n.toNat)).toNat:Int)
  rw [UInt8.toNat_ofNat']
  congr 1
  omega
 refine pure_of_awp good Tryd.func24 rfl (by kernel_rfl) (by decide) ?_
 conv=>whnf
 rw [ltB_f (by omega)]
 conv=>whnf
 rw [ltB_f (by omega)]
 conv=>whnf
 rw [ltB_t (by omega)]
 conv=>whnf
 refine ⟨dig1 n,?_,?_⟩
 · show [[V.int .u8 (IntKind.u8.wrap (IntKind.i64.wrap (48+n)))]]=[[cellB _]]
   rw [w1,w2]
 conv=>whnf
set_option maxHeartbeats 2000000 in
theorem l11Bend_full (bs:List UInt8) (p:Int) (s:List UInt8) (ss:List (List UInt8)) (hb:bs.length≤2000) (h0:0≤p) (h1:p≤1073741000) (hs:s.length≤100000) (hn:1≤ss.length) (hn':ss.length≤1048576) (hq:∀ q∈ss,q.length≤100000) :
  Full Tryd.prog noY 12 [.ptr 0 0 0,.str s,.sl (drows ss),.int .i64 3] [rdO bs p] fun o st'=>∃ (t:List UInt8) (p':Int),t.length≤200000∧o=.ret (.str t)∧st'=[rdO bs p']:=by
 have hp:=fun (q n:Int) (a:0≤q) (b:q≤1073741824)=>pick_full bs q n hb a b
 have ho:=fun (q:Int) (a:0≤q) (b:q≤1073741824)=>of_full bs q ss hb a b hn hn'
 generalize drows ss=rows at *
 refine full_of_awp good Tryd.func12 rfl (by kernel_rfl) (by decide) ?_
 conv=>whnf
 refine ⟨[0],false,?_⟩
 conv=>whnf
 refine (hp p 3 h0 (by omega)).mono ?_
 rintro o st' ⟨m,m0,m1,rfl,rfl⟩
 conv=>whnf
 by_cases hm:0 < m
 · rw [ltB_t (by omega)]
   conv=>whnf
   refine ⟨[],false,?_⟩
   conv=>whnf
   exact ⟨s,p+1,by omega,rfl,rfl⟩
 rw [ltB_f (by omega)]
 conv=>whnf
 refine ⟨[0],false,?_⟩
 conv=>whnf
 refine (hp (p+1) _ (by omega) (by omega)).mono ?_
 rintro o st' ⟨k,k0,k1,rfl,rfl⟩
 have hw:IntKind.i64.wrap ((s.length:Int)+1)=(s.length:Int)+1:=wrap64 (by omega) (by omega)
 rw [hw] at k1
 have k1:=k1 (by omega)
 conv=>whnf
 refine ⟨by omega,by omega,?_⟩
 conv=>whnf
 refine ⟨rfl,?_⟩
 conv=>whnf
 refine ⟨by omega,by omega,?_⟩
 conv=>whnf
 refine ⟨rfl,?_⟩
 conv=>whnf
 refine ⟨[0],false,?_⟩
 conv=>whnf
 refine (ho (p+1+1) (by omega) (by omega)).mono ?_
 rintro o st' ⟨q,hq1,rfl,rfl⟩
 have hql:=hq q hq1
 conv=>whnf
 refine And.intro (by (conv=>whnf); refine ⟨by omega,by omega,?_⟩; (conv=>whnf); exact ⟨rfl,rfl⟩) ?_
 conv=>whnf
 refine And.intro (by (conv=>whnf); refine ⟨by omega,by omega,?_⟩; (conv=>whnf); exact ⟨rfl,rfl⟩) ?_
 conv=>whnf
 refine ⟨by simp; omega,?_⟩
 conv=>whnf
 repeat
  refine And.intro (by (conv=>whnf); refine ⟨by omega,by omega,?_⟩; (conv=>whnf); exact ⟨rfl,rfl⟩) ?_
  conv=>whnf
 refine ⟨by simp; omega,?_⟩
 conv=>whnf
 repeat
  refine And.intro (by (conv=>whnf); refine ⟨by omega,by omega,?_⟩; (conv=>whnf); exact ⟨rfl,rfl⟩) ?_
  conv=>whnf
 refine ⟨[],false,?_⟩
 conv=>whnf
 refine ⟨_,p+1+1+1,?_,rfl,rfl⟩
 simp
 omega
end Go.Cod
set_option linter.all false
set_option linter.all false
namespace Go.Cod
variable [Adr]
open Go Go.Proofs
set_option maxRecDepth 10000
def SmD (c:Cm) (n:Nat):Prop:=c.over.length≤n∧(∀ k∈c.over,k.length≤64)∧c.tree.length≤64∧c.note.length≤64
def CdR (bs:List UInt8) (o:Out) (st':St):Prop:=∃ (c:Cm) (p':Int),SmD c 10∧0≤p'∧p'≤1000∧o=.ret (.agg [ovV c.over 1,.str c.tree,.str c.note])∧st'=[rdO bs p']++ovO c.over
set_option maxHeartbeats 4000000 in
theorem l11Commit_full (bs:List UInt8) (hb:bs.length≤2000):Full Tryd.prog noY 13 [.ptr 0 0 0] [rdO bs 0] (CdR bs):=by
 have hp:=fun (q n:Int) (a:0≤q) (b:q≤1073741824)=>pick_full bs q n hb a b
 have ho:=fun (ss:List (List UInt8)) (q:Int) (a:0≤q) (b:q≤1073741824) (c:1≤ss.length) (d:ss.length≤1048576)=>of_full bs q ss hb a b c d
 have hh:=fun (s:List UInt8) (h:s.length≤1048576)=>hashSum_pure s h
 have hm:=fun (n:Int) (h0:0≤n) (h1:n≤1000)=>l1Many_pure [110] n h0 (by omega) (by simp; omega) (by decide)
 refine full_of_awp good Tryd.func13 rfl (by kernel_rfl) (by decide) ?_
 conv=>whnf
 refine ⟨[0],false,?_⟩
 conv=>whnf
 refine (ho [[120],[121]] 0 (by decide) (by decide) (by decide) (by decide)).mono ?_
 rintro o st' ⟨x1,hx1,rfl,rfl⟩
 have lx1:x1.length≤1048576:=by
  simp only [List.mem_cons,List.not_mem_nil,or_false] at hx1
  rcases hx1 with rfl | rfl <;> decide
 conv=>whnf
 refine .inl ((hh x1 lx1).mono ?_)
 rintro r ⟨t1,lt1,rfl⟩
 conv=>whnf
 refine .inl ((hm 12 (by decide) (by decide)).mono ?_)
 rintro r ⟨t2,lt2,rfl⟩
 conv=>whnf
 refine ⟨[0],false,?_⟩
 conv=>whnf
 refine (ho [[],[110,49],[97,32,110,111,116,101],t2] 1 (by decide) (by decide) (by simp) (by simp)).mono ?_
 rintro o st' ⟨x2,hx2,rfl,rfl⟩
 have lx2:x2.length≤64:=by
  simp only [List.mem_cons,List.not_mem_nil,or_false] at hx2
  rcases hx2 with rfl | rfl | rfl | rfl
  · decide
  · decide
  · decide
  · rw [lt2]; decide
 conv=>whnf
 refine ⟨[0],false,?_⟩
 conv=>whnf
 refine (hp 2 3 (by decide) (by decide)).mono ?_
 rintro o st' ⟨m,m0,m1,rfl,rfl⟩
 have m1:=m1 (by decide)
 conv=>whnf
 obtain ⟨N,rfl⟩:∃ N:Nat,m=(N:Int):=⟨m.toNat,by omega⟩
 refine loop_drop (fun n fr st=>∃ (c:Cm) (q:Int),n≤2∧SmD c (2 - n)∧3≤q∧q+n≤6∧Holds fr [(0,.ptr 0 0 0),(2,.ptr 1 0 0),(3,.ptr 2 0 0),(4,.int .i64 n)]∧st=[rdO bs q,bx3 [.nils,.str [],.str []],bx3 [ovV c.over 3,.str c.tree,.str c.note]]++ovO c.over) N (some [0,1,4])
  (by
    conv=>whnf
    exact ⟨⟨[],t1,x2⟩,3,by omega,⟨by simp,by simp,by show t1.length≤64; omega,lx2⟩,by omega,by omega,⟨rfl,rfl,rfl,rfl,trivial⟩,rfl⟩) ?_
 rintro n fr st ⟨c,q,j1,j2,j3,j4,hq,rfl⟩
 obtain ⟨fr,rfl⟩:=hq.split
 clear hq
 obtain ⟨ov,t,nt⟩:=c
 by_cases hn:0 < n
 · have wn:IntKind.i64.wrap ((n:Int) - 1)=((n - 1:Nat):Int):=by rw [wrap64 (by omega) (by omega)]; omega
   have hd:=l1Dec1_pure n (by omega) (by omega)
   cases ov with
   | nil =>
     conv=>whnf
     rw [ltB_t (by omega)]
     conv=>whnf
     refine ⟨[0],false,?_⟩
     conv=>whnf
     refine (ho [[112],[113]] q (by omega) (by omega) (by decide) (by decide)).mono ?_
     rintro o st' ⟨x3,hx3,rfl,rfl⟩
     have lx3:x3.length≤1:=by
      simp only [List.mem_cons,List.not_mem_nil,or_false] at hx3
      rcases hx3 with rfl | rfl <;> decide
     conv=>whnf
     repeat
      refine And.intro (by (conv=>whnf); rfl) ?_
      conv=>whnf
     refine .inl (hd.mono ?_)
     rintro r rfl
     conv=>whnf
     repeat
      refine And.intro (by (conv=>whnf); rfl) ?_
      conv=>whnf
     refine ⟨by simp [dig1]; omega,?_⟩
     conv=>whnf
     repeat
      refine And.intro (by (conv=>whnf); rfl) ?_
      conv=>whnf
     refine .inl ((hh (x3++dig1 n) (by simp [dig1]; omega)).mono ?_)
     rintro r ⟨t3,lt3,rfl⟩
     conv=>whnf
     repeat
      refine And.intro (by (conv=>whnf); rfl) ?_
      conv=>whnf
     refine ⟨fun m hm=>by rw [List.mem_singleton.1 hm]; rfl,?_⟩
     conv=>whnf
     refine ⟨by show 1*16≤_; omega,.inr ⟨(by intro e; cases e),?_⟩⟩
     conv=>whnf
     repeat
      refine And.intro (by (conv=>whnf); rfl) ?_
      conv=>whnf
     refine ⟨n - 1,by omega,some [0,1,2,5],?_⟩
     conv=>whnf
     refine ⟨⟨[]++[t3],t,nt⟩,q+1,by omega,⟨?_,?_,j2.2.2.1,j2.2.2.2⟩,by omega,by omega,⟨rfl,rfl,rfl,congrArg (V.int .i64) wn,trivial⟩,?_⟩
     · have:=j2.1
       simp at this ⊢
       omega
     · intro k hk
       rcases List.mem_append.1 hk with hk | hk
       · exact j2.2.1 k hk
       · rw [List.mem_singleton.1 hk]; omega
     · rfl
   | cons a ov =>
     conv=>whnf
     rw [ltB_t (by omega)]
     conv=>whnf
     refine ⟨[0],false,?_⟩
     conv=>whnf
     refine (ho [[112],[113]] q (by omega) (by omega) (by decide) (by decide)).mono ?_
     rintro o st' ⟨x3,hx3,rfl,rfl⟩
     have lx3:x3.length≤1:=by
      simp only [List.mem_cons,List.not_mem_nil,or_false] at hx3
      rcases hx3 with rfl | rfl <;> decide
     conv=>whnf
     repeat
      refine And.intro (by (conv=>whnf); rfl) ?_
      conv=>whnf
     refine .inl (hd.mono ?_)
     rintro r rfl
     conv=>whnf
     repeat
      refine And.intro (by (conv=>whnf); rfl) ?_
      conv=>whnf
     refine ⟨by simp [dig1]; omega,?_⟩
     conv=>whnf
     repeat
      refine And.intro (by (conv=>whnf); rfl) ?_
      conv=>whnf
     refine .inl ((hh (x3++dig1 n) (by simp [dig1]; omega)).mono ?_)
     rintro r ⟨t3,lt3,rfl⟩
     conv=>whnf
     repeat
      refine And.intro (by (conv=>whnf); rfl) ?_
      conv=>whnf
     refine ⟨fun m hm=>by rw [List.mem_singleton.1 hm]; rfl,?_⟩
     conv=>whnf
     refine ⟨by
      show ((srows (a::ov)).length+1)*16≤_
      rw [srows_len]
      have:(a::ov).length≤2 - n:=j2.1
      omega,?_⟩
     conv=>whnf
     repeat
      refine And.intro (by (conv=>whnf); rfl) ?_
      conv=>whnf
     refine ⟨n - 1,by omega,some [0,1,2,6],?_⟩
     conv=>whnf
     refine ⟨⟨(a::ov)++[t3],t,nt⟩,q+1,by omega,⟨?_,?_,j2.2.2.1,j2.2.2.2⟩,by omega,by omega,⟨rfl,rfl,rfl,congrArg (V.int .i64) wn,trivial⟩,?_⟩
     · have:=j2.1
       simp at this ⊢
       omega
     · intro k hk
       rcases List.mem_append.1 hk with hk | hk
       · exact j2.2.1 k hk
       · rw [List.mem_singleton.1 hk]; omega
     · rw [ovO_snoc]; rfl
 · cases ov with
   | nil =>
     conv=>whnf
     rw [ltB_f (by omega)]
     conv=>whnf
     refine ⟨[0],false,?_⟩
     conv=>whnf
     refine (hp q 10 (by omega) (by omega)).mono ?_
     rintro o st' ⟨m2,n0,n1,rfl,rfl⟩
     conv=>whnf
     by_cases c0:m2=0
     · rw [eqB_t c0]
       conv=>whnf
       refine ⟨[0],false,?_⟩
       conv=>whnf
       refine (ho [[],[120]] (q+1) (by omega) (by omega) (by decide) (by decide)).mono ?_
       rintro o st' ⟨x4,hx4,rfl,rfl⟩
       have lx4:x4.length≤1:=by
        simp only [List.mem_cons,List.not_mem_nil,or_false] at hx4
        rcases hx4 with rfl | rfl <;> decide
       conv=>whnf
       refine ⟨[],true,?_⟩
       conv=>whnf
       exact ⟨⟨[],x4,nt⟩,q+1+1,⟨Nat.le_trans j2.1 (by omega),j2.2.1,by show x4.length≤64; omega,j2.2.2.2⟩,by omega,by omega,rfl,rfl⟩
     by_cases c1:m2=1
     · rw [eqB_f c0]
       conv=>whnf
       rw [eqB_t c1]
       conv=>whnf
       refine .inl ((hm 13 (by decide) (by decide)).mono ?_)
       rintro r ⟨t5,lt5,rfl⟩
       conv=>whnf
       refine ⟨[0],false,?_⟩
       conv=>whnf
       refine (ho [[10],t5] (q+1) (by omega) (by omega) (by simp) (by simp)).mono ?_
       rintro o st' ⟨x4,hx4,rfl,rfl⟩
       have lx4:x4.length≤64:=by
        simp only [List.mem_cons,List.not_mem_nil,or_false] at hx4
        rcases hx4 with rfl | rfl
        · decide
        · rw [lt5]; decide
       conv=>whnf
       refine ⟨[],true,?_⟩
       conv=>whnf
       exact ⟨⟨[],t,x4⟩,q+1+1,⟨Nat.le_trans j2.1 (by omega),j2.2.1,j2.2.2.1,lx4⟩,by omega,by omega,rfl,rfl⟩
     by_cases c2:m2=2
     · rw [eqB_f c0]
       conv=>whnf
       rw [eqB_f c1]
       conv=>whnf
       rw [eqB_t c2]
       conv=>whnf
       refine .inl ((hh [112] (by decide)).mono ?_)
       rintro r ⟨u1,lu1,rfl⟩
       conv=>whnf
       repeat
        refine And.intro (by (conv=>whnf); rfl) ?_
        conv=>whnf
       refine .inl ((hh [113] (by decide)).mono ?_)
       rintro r ⟨u2,lu2,rfl⟩
       conv=>whnf
       repeat
        refine And.intro (by (conv=>whnf); rfl) ?_
        conv=>whnf
       refine ⟨fun m hm=>by
        change m∈[[_],[_]] at hm
        simp only [List.mem_cons,List.not_mem_nil,or_false] at hm
        rcases hm with rfl | rfl <;> rfl,?_⟩
       conv=>whnf
       refine ⟨by show 2*16≤_; omega,.inr ⟨(by intro e; cases e),?_⟩⟩
       conv=>whnf
       repeat
        refine And.intro (by (conv=>whnf); rfl) ?_
        conv=>whnf
       refine ⟨[4],false,?_⟩
       conv=>whnf
       refine ⟨⟨[u1,u2],t,nt⟩,q+1,⟨by simp,?_,j2.2.2.1,j2.2.2.2⟩,by omega,by omega,rfl,rfl⟩
       intro k hk
       simp only [List.mem_cons,List.not_mem_nil,or_false] at hk
       rcases hk with rfl | rfl <;> omega
     by_cases c3:m2=3
     · rw [eqB_f c0]
       conv=>whnf
       rw [eqB_f c1]
       conv=>whnf
       rw [eqB_f c2]
       conv=>whnf
       rw [eqB_t c3]
       conv=>whnf
       refine ⟨[3],false,?_⟩
       conv=>whnf
       exact ⟨⟨[[120]],t,nt⟩,q+1,⟨by simp,by simp,j2.2.2.1,j2.2.2.2⟩,by omega,by omega,rfl,rfl⟩
     rw [eqB_f c0]
     conv=>whnf
     rw [eqB_f c1]
     conv=>whnf
     rw [eqB_f c2]
     conv=>whnf
     rw [eqB_f c3]
     conv=>whnf
     refine ⟨[],true,?_⟩
     conv=>whnf
     exact ⟨⟨[],t,nt⟩,q+1,⟨Nat.le_trans j2.1 (by omega),j2.2.1,j2.2.2.1,j2.2.2.2⟩,by omega,by omega,rfl,rfl⟩
   | cons a ov =>
     conv=>whnf
     rw [ltB_f (by omega)]
     conv=>whnf
     refine ⟨[0],false,?_⟩
     conv=>whnf
     refine (hp q 10 (by omega) (by omega)).mono ?_
     rintro o st' ⟨m2,n0,n1,rfl,rfl⟩
     conv=>whnf
     by_cases c0:m2=0
     · rw [eqB_t c0]
       conv=>whnf
       refine ⟨[0],false,?_⟩
       conv=>whnf
       refine (ho [[],[120]] (q+1) (by omega) (by omega) (by decide) (by decide)).mono ?_
       rintro o st' ⟨x4,hx4,rfl,rfl⟩
       have lx4:x4.length≤1:=by
        simp only [List.mem_cons,List.not_mem_nil,or_false] at hx4
        rcases hx4 with rfl | rfl <;> decide
       conv=>whnf
       refine ⟨[3],false,?_⟩
       conv=>whnf
       exact ⟨⟨a::ov,x4,nt⟩,q+1+1,⟨Nat.le_trans j2.1 (by omega),j2.2.1,by show x4.length≤64; omega,j2.2.2.2⟩,by omega,by omega,rfl,rfl⟩
     by_cases c1:m2=1
     · rw [eqB_f c0]
       conv=>whnf
       rw [eqB_t c1]
       conv=>whnf
       refine .inl ((hm 13 (by decide) (by decide)).mono ?_)
       rintro r ⟨t5,lt5,rfl⟩
       conv=>whnf
       refine ⟨[0],false,?_⟩
       conv=>whnf
       refine (ho [[10],t5] (q+1) (by omega) (by omega) (by simp) (by simp)).mono ?_
       rintro o st' ⟨x4,hx4,rfl,rfl⟩
       have lx4:x4.length≤64:=by
        simp only [List.mem_cons,List.not_mem_nil,or_false] at hx4
        rcases hx4 with rfl | rfl
        · decide
        · rw [lt5]; decide
       conv=>whnf
       refine ⟨[3],false,?_⟩
       conv=>whnf
       exact ⟨⟨a::ov,t,x4⟩,q+1+1,⟨Nat.le_trans j2.1 (by omega),j2.2.1,j2.2.2.1,lx4⟩,by omega,by omega,rfl,rfl⟩
     by_cases c2:m2=2
     · rw [eqB_f c0]
       conv=>whnf
       rw [eqB_f c1]
       conv=>whnf
       rw [eqB_t c2]
       conv=>whnf
       refine .inl ((hh [112] (by decide)).mono ?_)
       rintro r ⟨u1,lu1,rfl⟩
       conv=>whnf
       repeat
        refine And.intro (by (conv=>whnf); rfl) ?_
        conv=>whnf
       refine .inl ((hh [113] (by decide)).mono ?_)
       rintro r ⟨u2,lu2,rfl⟩
       conv=>whnf
       repeat
        refine And.intro (by (conv=>whnf); rfl) ?_
        conv=>whnf
       refine ⟨fun m hm=>by
        change m∈[[_],[_]] at hm
        simp only [List.mem_cons,List.not_mem_nil,or_false] at hm
        rcases hm with rfl | rfl <;> rfl,?_⟩
       conv=>whnf
       refine ⟨by
        show ((srows (a::ov)).length+2)*16≤_
        rw [srows_len]
        have:(a::ov).length≤2 - n:=j2.1
        omega,?_⟩
       conv=>whnf
       repeat
        refine And.intro (by (conv=>whnf); rfl) ?_
        conv=>whnf
       refine ⟨[5],false,?_⟩
       conv=>whnf
       refine ⟨⟨(a::ov)++[u1,u2],t,nt⟩,q+1,⟨?_,?_,j2.2.2.1,j2.2.2.2⟩,by omega,by omega,rfl,?_⟩
       · have:=j2.1
         simp at this ⊢
         omega
       · intro k hk
         rcases List.mem_append.1 hk with hk | hk
         · exact j2.2.1 k hk
         · simp only [List.mem_cons,List.not_mem_nil,or_false] at hk
           rcases hk with rfl | rfl <;> omega
       · show [rdO bs (q+1),O.mk (srows (a::ov)++[[.str u1],[.str u2]]) 1 true true false .cell]=[rdO bs (q+1),O.mk (srows ((a::ov)++[u1,u2])) 1 true true false .cell]
         rw [show srows ((a::ov)++[u1,u2])=srows (a::ov)++[[.str u1],[.str u2]] by simp [srows]]
     by_cases c3:m2=3
     · rw [eqB_f c0]
       conv=>whnf
       rw [eqB_f c1]
       conv=>whnf
       rw [eqB_f c2]
       conv=>whnf
       rw [eqB_t c3]
       conv=>whnf
       refine ⟨[4],false,?_⟩
       conv=>whnf
       exact ⟨⟨[[120]],t,nt⟩,q+1,⟨by simp,by simp,j2.2.2.1,j2.2.2.2⟩,by omega,by omega,rfl,rfl⟩
     rw [eqB_f c0]
     conv=>whnf
     rw [eqB_f c1]
     conv=>whnf
     rw [eqB_f c2]
     conv=>whnf
     rw [eqB_f c3]
     conv=>whnf
     refine ⟨[3],false,?_⟩
     conv=>whnf
     exact ⟨⟨a::ov,t,nt⟩,q+1,⟨Nat.le_trans j2.1 (by omega),j2.2.1,j2.2.2.1,j2.2.2.2⟩,by omega,by omega,rfl,rfl⟩
end Go.Cod
set_option linter.all false
set_option linter.all false
namespace Go.Cod
variable [Adr]
open Go Go.Proofs
set_option maxRecDepth 10000
theorem over_len (ss:List (List UInt8)) (h:∀ k∈ss,k.length≤64):(ss.flatMap fun k=>overW++k++[10]).length≤ss.length*70:=by
 induction ss with
 | nil=>simp
 | cons k ss ih =>
   have h1:=h k (by simp)
   have h2:=ih (fun q hq=>h q (by simp [hq]))
   have h5:overW.length=5:=rfl
   simp only [List.flatMap_cons,List.length_append,List.length_cons,List.length_nil] at h2 ⊢
   omega
theorem write_len (c:Cm) (h:SmD c 10):(writeC c).length≤10000:=by
 unfold writeC
 split
 · rw [textC_flat]
   have h1:=over_len c.over h.2.1
   have h2:=h.1
   have h3:=h.2.2.1
   have h4:=h.2.2.2
   have a1:headC.length=7:=rfl
   have a2:treeW.length=5:=rfl
   have a3:noteW.length=5:=rfl
   simp only [List.length_append,List.length_cons,List.length_nil] at h1 ⊢
   omega
 · simp
theorem SmD.sm {c:Cm} (h:SmD c 10):c.Sm:=⟨Nat.le_trans h.1 (by omega),fun k hk=>Nat.le_trans (h.2.1 k hk) (by omega),Nat.le_trans h.2.2.1 (by omega),Nat.le_trans h.2.2.2 (by omega)⟩
theorem drawCommitWrite_full (bs:List UInt8) (hb:bs.length≤1048576):Full Tryd.prog noY 9 [.sl (brows bs)] [] fun o st'=>∃ c:Cm,SmD c 10∧o=.ret (.agg [ovV c.over 0,.str c.tree,.str c.note])∧st'=ovO c.over:=by
 have ho:=l1Open_full bs hb
 have hl:=brows_len bs
 generalize brows bs=rows at *
 refine full_of_awp good Tryd.func9 rfl (by kernel_rfl) (by decide) ?_
 conv=>whnf
 refine .inr (.inl ⟨[],false,?_⟩)
 conv=>whnf
 refine ho.mono ?_
 rintro o st' ⟨rfl,bs',hb',rfl⟩
 conv=>whnf
 refine ⟨[1],false,?_⟩
 conv=>whnf
 refine (l11Commit_full bs' hb').mono ?_
 rintro o st' ⟨⟨ov,t,n⟩,p',h1,h2,h3,rfl,rfl⟩
 cases ov with
 | nil =>
   conv=>whnf
   refine ⟨[],true,?_⟩
   conv=>whnf
   exact ⟨⟨[],t,n⟩,h1,rfl,rfl⟩
 | cons a ov =>
   conv=>whnf
   refine ⟨[2],false,?_⟩
   conv=>whnf
   exact ⟨⟨a::ov,t,n⟩,h1,rfl,rfl⟩
theorem drawCommitRead_pure (bs:List UInt8) (hb:bs.length≤1048576):Pure Tryd.prog 4 [.sl (brows bs)] fun r=>∃ t:List UInt8,t.length≤1048576∧r=.str t:=by
 have ho:=l1Open_full bs hb
 have hl:=brows_len bs
 generalize brows bs=rows at *
 refine pure_of_awp good Tryd.func4 rfl (by kernel_rfl) (by decide) ?_
 conv=>whnf
 refine .inr (.inl ⟨[],false,?_⟩)
 conv=>whnf
 refine ho.mono ?_
 rintro o st' ⟨rfl,bs',hb',rfl⟩
 conv=>whnf
 refine ⟨[0],false,?_⟩
 conv=>whnf
 refine (l11Commit_full bs' hb').mono ?_
 rintro o st' ⟨⟨ov,t,n⟩,p',h1,h2,h3,rfl,rfl⟩
 have hw:=write_len _ h1
 have hd:=fun (q:List UInt8) (hq:q.length≤100000)=>l11Bend_full bs' p' q [[10],[111,118,101,114,32],[120],[32],[116,114,101,101,32]] hb' h2 (by omega) hq (by decide) (by decide) (by decide)
 cases ov with
 | nil =>
   have hc:Pure Tryd.prog 10 [.agg [.sl [],.str t,.str n]] (·=.str (writeC ⟨[],t,n⟩)):=specCommitWrite_pure ⟨[],t,n⟩ h1.sm
   generalize writeC ⟨[],t,n⟩=w at *
   conv=>whnf
   refine .inl (hc.mono ?_)
   rintro r rfl
   conv=>whnf
   refine ⟨[0],false,?_⟩
   conv=>whnf
   refine (hd w (by omega)).mono ?_
   rintro o st' ⟨x,p2,hx,rfl,rfl⟩
   conv=>whnf
   exact ⟨x,by omega,rfl⟩
 | cons a ov =>
   have hc:Full Tryd.prog noY 10 [.agg [.own 0,.str t,.str n]] (ovO (a::ov)) fun o st'=>o=.ret (.str (writeC ⟨a::ov,t,n⟩))∧st'=ovO (a::ov):=own_callStr rfl rfl (fun Pr γ w cargs g hg ha hs=>rep_own3 hg ha hs) (specCommitWrite_pure ⟨a::ov,t,n⟩ h1.sm)
   generalize writeC ⟨a::ov,t,n⟩=w at *
   conv=>whnf
   refine ⟨[1],false,?_⟩
   conv=>whnf
   refine hc.mono ?_
   rintro o st' ⟨rfl,rfl⟩
   conv=>whnf
   refine ⟨[0],false,?_⟩
   conv=>whnf
   refine (hd w (by omega)).mono ?_
   rintro o st' ⟨x,p2,hx,rfl,rfl⟩
   conv=>whnf
   exact ⟨x,by omega,rfl⟩
end Go.Cod
set_option linter.all false
set_option linter.all false
namespace Go.Cod
variable [Adr]
open Go Go.Proofs
set_option maxRecDepth 10000
set_option maxHeartbeats 8000000 in
theorem law_commitText (bs ms:List UInt8):Pure Tryd.prog 3 [.sl (brows bs),.sl (brows ms)] (·=.bool true):=by
 have hl:=brows_len bs
 have hl2:=brows_len ms
 by_cases ha:1048576 < bs.length
 · generalize brows bs=R at *
   generalize brows ms=R2 at *
   refine pure_of_awp good Tryd.func3 rfl (by kernel_rfl) (by decide) ?_
   conv=>whnf
   rw [ltB_t (by omega)]
   conv=>whnf
 by_cases hb:1048576 < ms.length
 · generalize brows bs=R at *
   generalize brows ms=R2 at *
   refine pure_of_awp good Tryd.func3 rfl (by kernel_rfl) (by decide) ?_
   conv=>whnf
   rw [ltB_f (by omega)]
   conv=>whnf
   rw [ltB_t (by omega)]
   conv=>whnf
 have hD:=drawCommitRead_pure bs (by omega)
 have hW:=drawCommitWrite_full ms (by omega)
 generalize brows bs=R at *
 generalize brows ms=R2 at *
 refine pure_of_awp good Tryd.func3 rfl (by kernel_rfl) (by decide) ?_
 conv=>whnf
 rw [ltB_f (by omega)]
 conv=>whnf
 rw [ltB_f (by omega)]
 conv=>whnf
 refine .inl (hD.mono ?_)
 rintro r ⟨s,hs,rfl⟩
 have h1:=implCommitRead_full s hs
 have h2:=specCommitRead_full s hs
 have hsm:=sm_impl s hs
 cases hi:implR s with
 | none =>
   unfold RdR at h1 h2
   rw [hi] at h1 h2
   have e1:=wcCommit_nil [] []
   conv=>whnf
   refine .inr (.inl ⟨[],false,?_⟩)
   conv=>whnf
   refine h1.mono ?_
   rintro o st' ⟨rfl,rfl⟩
   conv=>whnf
   refine .inr (.inl ⟨[],false,?_⟩)
   conv=>whnf
   refine h2.mono ?_
   rintro o st' ⟨rfl,rfl⟩
   conv=>whnf
   refine .inl (e1.mono ?_)
   rintro r rfl
   conv=>whnf
   refine .inr (.inl ⟨[],false,?_⟩)
   conv=>whnf
   refine hW.mono ?_
   rintro o st' ⟨d,hd,rfl,rfl⟩
   have lw:(writeC d).length≤1048576:=Nat.le_trans (write_len d hd) (by omega)
   have r1:=implR_write d
   have r2:=write_ne d
   have g1:=implCommitRead_full (writeC d) lw
   unfold RdR at g1
   by_cases hk:okC d=true
   · rw [if_pos hk] at r1
     have r3:writeC d≠[]:=fun e=>(r2.1 e) hk
     rw [r1] at g1
     clear r1 r2
     obtain ⟨ov2,t2,n2⟩:=d
     cases ov2 with
     | nil =>
       have c1:Pure Tryd.prog 8 [.agg [.sl [],.str t2,.str n2]] (·=.str (writeC ⟨[],t2,n2⟩)):=implCommitWrite_pure ⟨[],t2,n2⟩ hd.sm
       have c2:Pure Tryd.prog 10 [.agg [.sl [],.str t2,.str n2]] (·=.str (writeC ⟨[],t2,n2⟩)):=specCommitWrite_pure ⟨[],t2,n2⟩ hd.sm
       have c3:=wcCommit_nil t2 n2
       generalize writeC ⟨[],t2,n2⟩=w at *
       conv=>whnf
       refine .inl (c1.mono ?_)
       rintro r rfl
       conv=>whnf
       refine .inr (.inl ⟨[],false,?_⟩)
       conv=>whnf
       refine g1.mono ?_
       rintro o st' ⟨rfl,rfl⟩
       conv=>whnf
       refine .inl (c2.mono ?_)
       rintro r rfl
       conv=>whnf
       rw [eqS_refl]
       conv=>whnf
       rw [eqS_f (by exact r3)]
       conv=>whnf
       refine .inl (c3.mono ?_)
       rintro r rfl
       conv=>whnf
     | cons a2 ov2 =>
       have c1:Full Tryd.prog noY 8 [.agg [.own 0,.str t2,.str n2]] [sO (a2::ov2)] fun o st'=>o=.ret (.str (writeC ⟨a2::ov2,t2,n2⟩))∧st'=[sO (a2::ov2)]:=own_callStr rfl rfl (fun Pr γ w cargs g hg ha hs=>rep_own3 hg ha hs) (implCommitWrite_pure ⟨a2::ov2,t2,n2⟩ hd.sm)
       have c2:Full Tryd.prog noY 10 [.agg [.own 0,.str t2,.str n2]] [sO (a2::ov2)] fun o st'=>o=.ret (.str (writeC ⟨a2::ov2,t2,n2⟩))∧st'=[sO (a2::ov2)]:=own_callStr rfl rfl (fun Pr γ w cargs g hg ha hs=>rep_own3 hg ha hs) (specCommitWrite_pure ⟨a2::ov2,t2,n2⟩ hd.sm)
       have c3:=wcCommit_own a2 ov2 t2 n2 hd.sm.n
       generalize writeC ⟨a2::ov2,t2,n2⟩=w at *
       conv=>whnf
       refine ⟨[2],false,?_⟩
       conv=>whnf
       refine c1.mono ?_
       rintro o st' ⟨rfl,rfl⟩
       conv=>whnf
       refine .inr (.inl ⟨[],false,?_⟩)
       conv=>whnf
       refine g1.mono ?_
       rintro o st' ⟨rfl,rfl⟩
       conv=>whnf
       refine ⟨[2],false,?_⟩
       conv=>whnf
       refine c2.mono ?_
       rintro o st' ⟨rfl,rfl⟩
       conv=>whnf
       rw [eqS_refl]
       conv=>whnf
       rw [eqS_f (by exact r3)]
       conv=>whnf
       refine ⟨[4,2],false,?_⟩
       conv=>whnf
       refine c3.mono ?_
       rintro o st' ⟨rfl,rfl⟩
       conv=>whnf
   · rw [if_neg hk] at r1
     have r3:writeC d=[]:=r2.2 hk
     rw [r1] at g1
     clear r1 r2
     obtain ⟨ov2,t2,n2⟩:=d
     cases ov2 with
     | nil =>
       have c1:Pure Tryd.prog 8 [.agg [.sl [],.str t2,.str n2]] (·=.str (writeC ⟨[],t2,n2⟩)):=implCommitWrite_pure ⟨[],t2,n2⟩ hd.sm
       have c2:Pure Tryd.prog 10 [.agg [.sl [],.str t2,.str n2]] (·=.str (writeC ⟨[],t2,n2⟩)):=specCommitWrite_pure ⟨[],t2,n2⟩ hd.sm
       have c3:=wcCommit_nil t2 n2
       generalize writeC ⟨[],t2,n2⟩=w at *
       conv=>whnf
       refine .inl (c1.mono ?_)
       rintro r rfl
       conv=>whnf
       refine .inr (.inl ⟨[],false,?_⟩)
       conv=>whnf
       refine g1.mono ?_
       rintro o st' ⟨rfl,rfl⟩
       conv=>whnf
       refine .inl (c2.mono ?_)
       rintro r rfl
       conv=>whnf
       rw [eqS_refl]
       conv=>whnf
       rw [eqS_t (by exact r3)]
       conv=>whnf
     | cons a2 ov2 =>
       have c1:Full Tryd.prog noY 8 [.agg [.own 0,.str t2,.str n2]] [sO (a2::ov2)] fun o st'=>o=.ret (.str (writeC ⟨a2::ov2,t2,n2⟩))∧st'=[sO (a2::ov2)]:=own_callStr rfl rfl (fun Pr γ w cargs g hg ha hs=>rep_own3 hg ha hs) (implCommitWrite_pure ⟨a2::ov2,t2,n2⟩ hd.sm)
       have c2:Full Tryd.prog noY 10 [.agg [.own 0,.str t2,.str n2]] [sO (a2::ov2)] fun o st'=>o=.ret (.str (writeC ⟨a2::ov2,t2,n2⟩))∧st'=[sO (a2::ov2)]:=own_callStr rfl rfl (fun Pr γ w cargs g hg ha hs=>rep_own3 hg ha hs) (specCommitWrite_pure ⟨a2::ov2,t2,n2⟩ hd.sm)
       have c3:=wcCommit_own a2 ov2 t2 n2 hd.sm.n
       generalize writeC ⟨a2::ov2,t2,n2⟩=w at *
       conv=>whnf
       refine ⟨[2],false,?_⟩
       conv=>whnf
       refine c1.mono ?_
       rintro o st' ⟨rfl,rfl⟩
       conv=>whnf
       refine .inr (.inl ⟨[],false,?_⟩)
       conv=>whnf
       refine g1.mono ?_
       rintro o st' ⟨rfl,rfl⟩
       conv=>whnf
       refine ⟨[2],false,?_⟩
       conv=>whnf
       refine c2.mono ?_
       rintro o st' ⟨rfl,rfl⟩
       conv=>whnf
       rw [eqS_refl]
       conv=>whnf
       rw [eqS_t (by exact r3)]
       conv=>whnf
 | some c =>
   have hc:=hsm c hi
   have hws:=implR_some hi
   unfold RdR at h1 h2
   rw [hi] at h1 h2
   obtain ⟨ov,t,n⟩:=c
   cases ov with
   | nil =>
     have e1:=wcCommit_nil t n
     have e2:Pure Tryd.prog 8 [.agg [.sl [],.str t,.str n]] (·=.str (writeC ⟨[],t,n⟩)):=implCommitWrite_pure ⟨[],t,n⟩ hc
     rw [hws] at e2
     conv=>whnf
     refine .inr (.inl ⟨[],false,?_⟩)
     conv=>whnf
     refine h1.mono ?_
     rintro o st' ⟨rfl,rfl⟩
     conv=>whnf
     refine .inr (.inl ⟨[],false,?_⟩)
     conv=>whnf
     refine h2.mono ?_
     rintro o st' ⟨rfl,rfl⟩
     conv=>whnf
     refine .inl (e1.mono ?_)
     rintro r rfl
     conv=>whnf
     refine .inl (e2.mono ?_)
     rintro r rfl
     conv=>whnf
     rw [eqS_refl]
     conv=>whnf
     refine .inr (.inl ⟨[],false,?_⟩)
     conv=>whnf
     refine hW.mono ?_
     rintro o st' ⟨d,hd,rfl,rfl⟩
     have lw:(writeC d).length≤1048576:=Nat.le_trans (write_len d hd) (by omega)
     have r1:=implR_write d
     have r2:=write_ne d
     have g1:=implCommitRead_full (writeC d) lw
     unfold RdR at g1
     by_cases hk:okC d=true
     · rw [if_pos hk] at r1
       have r3:writeC d≠[]:=fun e=>(r2.1 e) hk
       rw [r1] at g1
       clear r1 r2
       obtain ⟨ov2,t2,n2⟩:=d
       cases ov2 with
       | nil =>
         have c1:Pure Tryd.prog 8 [.agg [.sl [],.str t2,.str n2]] (·=.str (writeC ⟨[],t2,n2⟩)):=implCommitWrite_pure ⟨[],t2,n2⟩ hd.sm
         have c2:Pure Tryd.prog 10 [.agg [.sl [],.str t2,.str n2]] (·=.str (writeC ⟨[],t2,n2⟩)):=specCommitWrite_pure ⟨[],t2,n2⟩ hd.sm
         have c3:=wcCommit_nil t2 n2
         generalize writeC ⟨[],t2,n2⟩=w at *
         conv=>whnf
         refine .inl (c1.mono ?_)
         rintro r rfl
         conv=>whnf
         refine .inr (.inl ⟨[],false,?_⟩)
         conv=>whnf
         refine g1.mono ?_
         rintro o st' ⟨rfl,rfl⟩
         conv=>whnf
         refine .inl (c2.mono ?_)
         rintro r rfl
         conv=>whnf
         rw [eqS_refl]
         conv=>whnf
         rw [eqS_f (by exact r3)]
         conv=>whnf
         refine .inl (c3.mono ?_)
         rintro r rfl
         conv=>whnf
       | cons a2 ov2 =>
         have c1:Full Tryd.prog noY 8 [.agg [.own 0,.str t2,.str n2]] [sO (a2::ov2)] fun o st'=>o=.ret (.str (writeC ⟨a2::ov2,t2,n2⟩))∧st'=[sO (a2::ov2)]:=own_callStr rfl rfl (fun Pr γ w cargs g hg ha hs=>rep_own3 hg ha hs) (implCommitWrite_pure ⟨a2::ov2,t2,n2⟩ hd.sm)
         have c2:Full Tryd.prog noY 10 [.agg [.own 0,.str t2,.str n2]] [sO (a2::ov2)] fun o st'=>o=.ret (.str (writeC ⟨a2::ov2,t2,n2⟩))∧st'=[sO (a2::ov2)]:=own_callStr rfl rfl (fun Pr γ w cargs g hg ha hs=>rep_own3 hg ha hs) (specCommitWrite_pure ⟨a2::ov2,t2,n2⟩ hd.sm)
         have c3:=wcCommit_own a2 ov2 t2 n2 hd.sm.n
         generalize writeC ⟨a2::ov2,t2,n2⟩=w at *
         conv=>whnf
         refine ⟨[2],false,?_⟩
         conv=>whnf
         refine c1.mono ?_
         rintro o st' ⟨rfl,rfl⟩
         conv=>whnf
         refine .inr (.inl ⟨[],false,?_⟩)
         conv=>whnf
         refine g1.mono ?_
         rintro o st' ⟨rfl,rfl⟩
         conv=>whnf
         refine ⟨[2],false,?_⟩
         conv=>whnf
         refine c2.mono ?_
         rintro o st' ⟨rfl,rfl⟩
         conv=>whnf
         rw [eqS_refl]
         conv=>whnf
         rw [eqS_f (by exact r3)]
         conv=>whnf
         refine ⟨[4,2],false,?_⟩
         conv=>whnf
         refine c3.mono ?_
         rintro o st' ⟨rfl,rfl⟩
         conv=>whnf
     · rw [if_neg hk] at r1
       have r3:writeC d=[]:=r2.2 hk
       rw [r1] at g1
       clear r1 r2
       obtain ⟨ov2,t2,n2⟩:=d
       cases ov2 with
       | nil =>
         have c1:Pure Tryd.prog 8 [.agg [.sl [],.str t2,.str n2]] (·=.str (writeC ⟨[],t2,n2⟩)):=implCommitWrite_pure ⟨[],t2,n2⟩ hd.sm
         have c2:Pure Tryd.prog 10 [.agg [.sl [],.str t2,.str n2]] (·=.str (writeC ⟨[],t2,n2⟩)):=specCommitWrite_pure ⟨[],t2,n2⟩ hd.sm
         have c3:=wcCommit_nil t2 n2
         generalize writeC ⟨[],t2,n2⟩=w at *
         conv=>whnf
         refine .inl (c1.mono ?_)
         rintro r rfl
         conv=>whnf
         refine .inr (.inl ⟨[],false,?_⟩)
         conv=>whnf
         refine g1.mono ?_
         rintro o st' ⟨rfl,rfl⟩
         conv=>whnf
         refine .inl (c2.mono ?_)
         rintro r rfl
         conv=>whnf
         rw [eqS_refl]
         conv=>whnf
         rw [eqS_t (by exact r3)]
         conv=>whnf
       | cons a2 ov2 =>
         have c1:Full Tryd.prog noY 8 [.agg [.own 0,.str t2,.str n2]] [sO (a2::ov2)] fun o st'=>o=.ret (.str (writeC ⟨a2::ov2,t2,n2⟩))∧st'=[sO (a2::ov2)]:=own_callStr rfl rfl (fun Pr γ w cargs g hg ha hs=>rep_own3 hg ha hs) (implCommitWrite_pure ⟨a2::ov2,t2,n2⟩ hd.sm)
         have c2:Full Tryd.prog noY 10 [.agg [.own 0,.str t2,.str n2]] [sO (a2::ov2)] fun o st'=>o=.ret (.str (writeC ⟨a2::ov2,t2,n2⟩))∧st'=[sO (a2::ov2)]:=own_callStr rfl rfl (fun Pr γ w cargs g hg ha hs=>rep_own3 hg ha hs) (specCommitWrite_pure ⟨a2::ov2,t2,n2⟩ hd.sm)
         have c3:=wcCommit_own a2 ov2 t2 n2 hd.sm.n
         generalize writeC ⟨a2::ov2,t2,n2⟩=w at *
         conv=>whnf
         refine ⟨[2],false,?_⟩
         conv=>whnf
         refine c1.mono ?_
         rintro o st' ⟨rfl,rfl⟩
         conv=>whnf
         refine .inr (.inl ⟨[],false,?_⟩)
         conv=>whnf
         refine g1.mono ?_
         rintro o st' ⟨rfl,rfl⟩
         conv=>whnf
         refine ⟨[2],false,?_⟩
         conv=>whnf
         refine c2.mono ?_
         rintro o st' ⟨rfl,rfl⟩
         conv=>whnf
         rw [eqS_refl]
         conv=>whnf
         rw [eqS_t (by exact r3)]
         conv=>whnf
   | cons a ov =>
     have e1:=wcCommit_own a ov t n hc.n
     have e2:Full Tryd.prog noY 8 [.agg [.own 0,.str t,.str n]] [sO (a::ov)] fun o st'=>o=.ret (.str (writeC ⟨a::ov,t,n⟩))∧st'=[sO (a::ov)]:=own_callStr rfl rfl (fun Pr γ w cargs g hg ha hs=>rep_own3 hg ha hs) (implCommitWrite_pure ⟨a::ov,t,n⟩ hc)
     rw [hws] at e2
     conv=>whnf
     refine .inr (.inl ⟨[],false,?_⟩)
     conv=>whnf
     refine h1.mono ?_
     rintro o st' ⟨rfl,rfl⟩
     conv=>whnf
     refine .inr (.inl ⟨[],false,?_⟩)
     conv=>whnf
     refine h2.mono ?_
     rintro o st' ⟨rfl,rfl⟩
     conv=>whnf
     refine ⟨[0,2],false,?_⟩
     conv=>whnf
     refine e1.mono ?_
     rintro o st' ⟨rfl,rfl⟩
     conv=>whnf
     refine ⟨[0],false,?_⟩
     conv=>whnf
     refine e2.mono ?_
     rintro o st' ⟨rfl,rfl⟩
     conv=>whnf
     rw [eqS_refl]
     conv=>whnf
     refine .inr (.inl ⟨[],false,?_⟩)
     conv=>whnf
     refine hW.mono ?_
     rintro o st' ⟨d,hd,rfl,rfl⟩
     have lw:(writeC d).length≤1048576:=Nat.le_trans (write_len d hd) (by omega)
     have r1:=implR_write d
     have r2:=write_ne d
     have g1:=implCommitRead_full (writeC d) lw
     unfold RdR at g1
     by_cases hk:okC d=true
     · rw [if_pos hk] at r1
       have r3:writeC d≠[]:=fun e=>(r2.1 e) hk
       rw [r1] at g1
       clear r1 r2
       obtain ⟨ov2,t2,n2⟩:=d
       cases ov2 with
       | nil =>
         have c1:Pure Tryd.prog 8 [.agg [.sl [],.str t2,.str n2]] (·=.str (writeC ⟨[],t2,n2⟩)):=implCommitWrite_pure ⟨[],t2,n2⟩ hd.sm
         have c2:Pure Tryd.prog 10 [.agg [.sl [],.str t2,.str n2]] (·=.str (writeC ⟨[],t2,n2⟩)):=specCommitWrite_pure ⟨[],t2,n2⟩ hd.sm
         have c3:=wcCommit_nil t2 n2
         generalize writeC ⟨[],t2,n2⟩=w at *
         conv=>whnf
         refine .inl (c1.mono ?_)
         rintro r rfl
         conv=>whnf
         refine .inr (.inl ⟨[],false,?_⟩)
         conv=>whnf
         refine g1.mono ?_
         rintro o st' ⟨rfl,rfl⟩
         conv=>whnf
         refine .inl (c2.mono ?_)
         rintro r rfl
         conv=>whnf
         rw [eqS_refl]
         conv=>whnf
         rw [eqS_f (by exact r3)]
         conv=>whnf
         refine .inl (c3.mono ?_)
         rintro r rfl
         conv=>whnf
       | cons a2 ov2 =>
         have c1:Full Tryd.prog noY 8 [.agg [.own 0,.str t2,.str n2]] [sO (a2::ov2)] fun o st'=>o=.ret (.str (writeC ⟨a2::ov2,t2,n2⟩))∧st'=[sO (a2::ov2)]:=own_callStr rfl rfl (fun Pr γ w cargs g hg ha hs=>rep_own3 hg ha hs) (implCommitWrite_pure ⟨a2::ov2,t2,n2⟩ hd.sm)
         have c2:Full Tryd.prog noY 10 [.agg [.own 0,.str t2,.str n2]] [sO (a2::ov2)] fun o st'=>o=.ret (.str (writeC ⟨a2::ov2,t2,n2⟩))∧st'=[sO (a2::ov2)]:=own_callStr rfl rfl (fun Pr γ w cargs g hg ha hs=>rep_own3 hg ha hs) (specCommitWrite_pure ⟨a2::ov2,t2,n2⟩ hd.sm)
         have c3:=wcCommit_own a2 ov2 t2 n2 hd.sm.n
         generalize writeC ⟨a2::ov2,t2,n2⟩=w at *
         conv=>whnf
         refine ⟨[4],false,?_⟩
         conv=>whnf
         refine c1.mono ?_
         rintro o st' ⟨rfl,rfl⟩
         conv=>whnf
         refine .inr (.inl ⟨[],false,?_⟩)
         conv=>whnf
         refine g1.mono ?_
         rintro o st' ⟨rfl,rfl⟩
         conv=>whnf
         refine ⟨[4],false,?_⟩
         conv=>whnf
         refine c2.mono ?_
         rintro o st' ⟨rfl,rfl⟩
         conv=>whnf
         rw [eqS_refl]
         conv=>whnf
         rw [eqS_f (by exact r3)]
         conv=>whnf
         refine ⟨[6,4],false,?_⟩
         conv=>whnf
         refine c3.mono ?_
         rintro o st' ⟨rfl,rfl⟩
         conv=>whnf
     · rw [if_neg hk] at r1
       have r3:writeC d=[]:=r2.2 hk
       rw [r1] at g1
       clear r1 r2
       obtain ⟨ov2,t2,n2⟩:=d
       cases ov2 with
       | nil =>
         have c1:Pure Tryd.prog 8 [.agg [.sl [],.str t2,.str n2]] (·=.str (writeC ⟨[],t2,n2⟩)):=implCommitWrite_pure ⟨[],t2,n2⟩ hd.sm
         have c2:Pure Tryd.prog 10 [.agg [.sl [],.str t2,.str n2]] (·=.str (writeC ⟨[],t2,n2⟩)):=specCommitWrite_pure ⟨[],t2,n2⟩ hd.sm
         have c3:=wcCommit_nil t2 n2
         generalize writeC ⟨[],t2,n2⟩=w at *
         conv=>whnf
         refine .inl (c1.mono ?_)
         rintro r rfl
         conv=>whnf
         refine .inr (.inl ⟨[],false,?_⟩)
         conv=>whnf
         refine g1.mono ?_
         rintro o st' ⟨rfl,rfl⟩
         conv=>whnf
         refine .inl (c2.mono ?_)
         rintro r rfl
         conv=>whnf
         rw [eqS_refl]
         conv=>whnf
         rw [eqS_t (by exact r3)]
         conv=>whnf
       | cons a2 ov2 =>
         have c1:Full Tryd.prog noY 8 [.agg [.own 0,.str t2,.str n2]] [sO (a2::ov2)] fun o st'=>o=.ret (.str (writeC ⟨a2::ov2,t2,n2⟩))∧st'=[sO (a2::ov2)]:=own_callStr rfl rfl (fun Pr γ w cargs g hg ha hs=>rep_own3 hg ha hs) (implCommitWrite_pure ⟨a2::ov2,t2,n2⟩ hd.sm)
         have c2:Full Tryd.prog noY 10 [.agg [.own 0,.str t2,.str n2]] [sO (a2::ov2)] fun o st'=>o=.ret (.str (writeC ⟨a2::ov2,t2,n2⟩))∧st'=[sO (a2::ov2)]:=own_callStr rfl rfl (fun Pr γ w cargs g hg ha hs=>rep_own3 hg ha hs) (specCommitWrite_pure ⟨a2::ov2,t2,n2⟩ hd.sm)
         have c3:=wcCommit_own a2 ov2 t2 n2 hd.sm.n
         generalize writeC ⟨a2::ov2,t2,n2⟩=w at *
         conv=>whnf
         refine ⟨[4],false,?_⟩
         conv=>whnf
         refine c1.mono ?_
         rintro o st' ⟨rfl,rfl⟩
         conv=>whnf
         refine .inr (.inl ⟨[],false,?_⟩)
         conv=>whnf
         refine g1.mono ?_
         rintro o st' ⟨rfl,rfl⟩
         conv=>whnf
         refine ⟨[4],false,?_⟩
         conv=>whnf
         refine c2.mono ?_
         rintro o st' ⟨rfl,rfl⟩
         conv=>whnf
         rw [eqS_refl]
         conv=>whnf
         rw [eqS_t (by exact r3)]
         conv=>whnf
end Go.Cod
set_option linter.all false
namespace Go.Cod
variable [Adr]
open Go Go.Proofs Go.ChangeShapes Go.WideShapes Go.ChangeAt Go.RowKit
set_option maxRecDepth 10000
omit [Adr] in
theorem ownK:ownKnob Tryd.prog.godebug=none:=by kernel_rfl
def byteOf:List V→UInt8
 | [.int _ i]=>UInt8.ofNat i.toNat
 | _=>0
theorem argBytes {H:Type} {enc:TypeId × Value→H} {W:World}:ReadsA enc Tryd.prog W 22 fun x=>∃ bs:List UInt8,x=.sl (brows bs):=by
 intro base v d p hv h
 obtain ⟨x,⟨es,hx,_,hr⟩,hrep⟩:=readsA_slice (S:=fun vs=>∃ es,vs=[.sl es]∧es.length≤maxLen∧∀ r∈es,(∃ i,r=[.int .u8 i]∧IntKind.u8.min≤i∧i≤IntKind.u8.max)∧r.length=Tryd.prog.cellsOf 5∧(∀ v∈r,v.leaf=true)∧V.clean.cleanL 0 r=true)
  Tryd.underlying22 (fun n=>reads_slice Tryd.underlying22 (by decide +kernel) fun m _=>reads_int Tryd.underlying5) base v d p hv h
 cases hx
 refine ⟨_,⟨es.map byteOf,?_⟩,hrep⟩
 congr 1
 rw [brows,List.map_map]
 refine (List.map_id es).symm.trans (List.map_congr_left fun r hr'=>?_)
 obtain ⟨⟨i,rfl,h1,h2⟩,_⟩:=hr r hr'
 have h1:0≤i:=h1
 have h2:i≤255:=h2
 simp only [id_eq,Function.comp,byteOf,cellB]
 congr 2
 simp only [UInt8.toNat_ofNat']
 omega
end Go.Cod
set_option linter.all false
namespace Go.Cod
variable [Adr]
open Go Go.Proofs Go.ChangeShapes Go.WideShapes Go.ChangeAt Go.RowKit
set_option maxRecDepth 10000
theorem lawFnCommitText (bs ms:List UInt8):Pure Tryd.prog 3 [.sl (brows bs),.sl (brows ms)] (·=.bool true):=law_commitText bs ms
omit [Adr]
theorem conFnCommitText (H:Type) (enc:TypeId × Value→H) (W:World) (base:Nat) (args:Array Value) (ds gs:List (DataW H)) (before:List MemPlace)
  (hval:∀ (j:Nat) t v,Tryd.f3.params[j]? = some t→args[j]? = some v→Value.okWide Tryd.prog W .any base t v)
  (hW:DataW.Whole enc Tryd.prog Tryd.f3.params.toList YtfmkgbbficcjaaaDoor.Rows.fnCommitTextSpec.vars false W args.toList ds gs before) (hL:laidMetH Tryd.prog YtfmkgbbficcjaaaDoor.Rows.fnCommitTextRow.laid W) {fresh handsOn again:Bool} :
  Calls Tryd.prog 3 args W fun e W'=>∃ v,e=.returned v∧YtfmkgbbficcjaaaDoor.Rows.fnCommitTextSpec.post enc Tryd.prog Tryd.f3 false fresh handsOn again W args v W':=by
 have hm:laidMet Tryd.prog YtfmkgbbficcjaaaDoor.Rows.fnCommitTextRow.laid W:=by
  rw [← MakeChecks.laidMetH_plain _ _ _ (by kernel_rfl)]; exact hL
 obtain ⟨⟨a0,c0,l0⟩,hm⟩:=laid_err hm (g:=0) (by kernel_rfl) (by kernel_rfl)
 letI A:Adr:=⟨fun g=>match g with | 0=>a0 | _=>default⟩
 have hlaid:Laid (oldP W) W:=by
  intro g cs h
  match g,h with
  | 0,h=>cases h; exact rep_var c0 l0 rfl
  | g+1,h=>cases h
 refine law_callsV kids full globals_ok (tb:=4) rfl Tryd.underlying4 (by decide +kernel) hW (fun ds gs h h'=>by match ds,gs,h,h' with | [_,_],[_],_,_=>exact ⟨rfl,rfl,rfl⟩) hval
  (Ss:=[fun x=>∃ bs:List UInt8,x=.sl (brows bs),fun x=>∃ bs:List UInt8,x=.sl (brows bs)]) hlaid ?_ ?_
 · rw [Tryd.params3]
   exact ⟨argBytes,argBytes,trivial⟩
 · intro xs h
   obtain ⟨_,_,rfl,⟨t0,rfl⟩,⟨t1,rfl⟩⟩:=hold2 h
   exact lawFnCommitText t0 t1
theorem doorFnCommitText (os:Os) (args:Array Value):laidMetH Tryd.prog YtfmkgbbficcjaaaDoor.Rows.fnCommitTextRow.laid ((World.doorLaid Tryd.prog 400 os).forCall (fun _ _=>0) ⟨#[],args,[]⟩).memory :=
 laidMetH_of_parts3 (fuel:=8) (laidMet_of_run' 8 (by kernel_rfl) (by kernel_rfl)) (by kernel_rfl) (by kernel_rfl)
set_option maxRecDepth 100000 in
theorem rowFnCommitText:YtfmkgbbficcjaaaDoor.Rows.FnCommitTextSaid :=
 OpenClaim.holds_of_wide 3 Tryd.f3 rfl rfl rfl rfl rfl rfl rfl ⟨rfl,rfl,rfl,rfl,rfl⟩ rfl rfl rfl rfl rfl (by kernel_rfl) Tryd.func3 (by kernel_rfl)
  (of_decide_eq_true (by kernel_rfl)) (by unfold Func.isWrapper; first | (rw [if_pos (by decide +kernel)]; kernel_rfl) | (rw [if_neg (by decide +kernel)]; exact ⟨rfl,rfl⟩))
  (fun os started H enc _=>returnsInHanded_of_change_and (C:=Tryd.checked) (X:=fun w _=>laidMetH Tryd.prog YtfmkgbbficcjaaaDoor.Rows.fnCommitTextRow.laid w) (fun _ _ _ hh h=>h.of_heap hh) ownK started (by kernel_rfl) Tryd.func3
    (ChangeSpec.witness_shaped (enc:=enc) (C:=Tryd.checked) (os:=os) (X:=fun w _=>laidMetH Tryd.prog YtfmkgbbficcjaaaDoor.Rows.fnCommitTextRow.laid w) false (World.doorLaid Tryd.prog 400 os) #[.slice none 0 0,.slice none 0 0] 8 rfl (World.shaped_of_RefB (by kernel_rfl) (by kernel_rfl)) (by kernel_rfl) (by kernel_rfl) (by kernel_rfl) (doorFnCommitText os _))
    (fun W base args ds gs before hval hW _ _ hL _=>conFnCommitText H enc W base args ds gs before hval hW hL))
set_option maxRecDepth 100000 in
theorem overFnCommitText:YtfmkgbbficcjaaaDoor.Rows.FnCommitTextCardSaid :=
 Claim7.holds_tied_plain_at .later [] [.sentinel] true (true, "75f1229654c0d13370982411ce2d9b9e3f97d9800951aef35e13ce7a2f6ef4aa") false
  rowFnCommitText (fun _ h=>by cases h) (by kernel_rfl) (fun _ h=>by cases h) YtfmkgbbficcjaaaDoor.fnCommitText_row_tie rfl ⟨rfl,rfl⟩ (by kernel_rfl) rfl
  (fun f fn hf hfn=>by
    obtain rfl : f = 3 := Option.some.inj ((show Tryd.prog.funcNamed "loop.example/codicil/laws.FnCommitText" = some 3 by kernel_rfl).symm.trans hf) |>.symm
    obtain rfl:fn=Tryd.f3:=(Option.some.inj (Tryd.func3.symm.trans hfn)).symm
    exact ⟨by kernel_rfl,fun j t ht=>by
     rw [Tryd.params3] at ht
     have hm:t∈([22,22]:List Nat):=by simpa using Array.mem_of_getElem? ht
     have hall:(([22,22]:List Nat).all fun u=>!Tryd.prog.wantsStandIn u)=true:=by kernel_rfl
     exact (show Tryd.prog.wantsStandIn t=false by simpa using List.all_eq_true.1 hall t hm)⟩)
  (by kernel_rfl)
end Go.Cod
