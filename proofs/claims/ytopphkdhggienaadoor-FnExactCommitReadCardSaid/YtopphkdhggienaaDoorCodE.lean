import Derived.Test.YtopphkdhggienaaDoorChecked
import Derived.Test.YtopphkdhggienaaDoorRows
import Derived.WalkKit
import Derived.LaidEql
import Derived.RowKitTokens
import Derived.Stop.LaidErr
import Derived.Shelf.Strings.Search1
import Derived.ProofKit
import Derived.OpenShut
import Derived.JoinedOf
import Derived.Handed
import Derived.Defers
import Derived.Recover
import Derived.Laws.Pointers
import Derived.Tactics
import Derived.Tactics2
import Derived.Test.YtopphkdhggienaaDoorCards
import Derived.Test.YtopphkdhggienaaDoorTie
import Derived.LaidMore
import Derived.LaidOnce
import Derived.SevenTiedAt
import Derived.Test.YtopphkdhggienaaDoorCodD
set_option linter.all false
namespace Go.Cod
open Go Go.Proofs
variable [Adr]
instance lam0:Lam:=⟨fun g=>match g with
 | 0=>some (sentCells 65 0)
 | _=>none,fun g=>false,fun g=>Nat.beq g 20||Nat.beq g 21||Nat.beq g 22,fun g=>false,fun g=>false⟩
def tauL:List (Nat × TI):=[
 (1,⟨.other,1,8,.raw .nilFunc,[],[],false⟩),
 (2,⟨.int .i64,1,8,.int .i64 0,[],[],false⟩),
 (3,⟨.int .i64,1,8,.int .i64 0,[],[],false⟩),
 (4,⟨.bool,1,1,.bool false,[],[],false⟩),
 (5,⟨.int .u8,1,1,.int .u8 0,[],[],false⟩),
 (6,⟨.int .u8,1,1,.int .u8 0,[],[],false⟩),
 (7,⟨.agg,4,24,.agg [.int .i64 0,.int .i64 0,.bool false,.int .u8 0],[(0,1,false),(1,1,false),(2,1,false),(3,1,false)],[],false⟩),
 (8,⟨.agg,4,24,.agg [.int .i64 0,.int .i64 0,.bool false,.int .u8 0],[(0,1,false),(1,1,false),(2,1,false),(3,1,false)],[],false⟩),
 (9,⟨.str,1,16,.str [],[],[],false⟩),
 (10,⟨.str,1,16,.str [],[],[],false⟩),
 (11,⟨.str,1,16,.str [],[],[],false⟩),
 (12,⟨.int .u64,1,8,.int .u64 0,[],[],false⟩),
 (13,⟨.agg,2,24,.agg [.str [],.int .u64 0],[(0,1,false),(1,1,false)],[],false⟩),
 (14,⟨.agg,2,24,.agg [.str [],.int .u64 0],[(0,1,false),(1,1,false)],[],false⟩),
 (15,⟨.ptr,1,8,.raw (.pointer none),[],[],false⟩),
 (16,⟨.ptr,1,8,.raw (.pointer none),[],[],false⟩),
 (17,⟨.ptr,1,8,.raw (.pointer none),[],[],false⟩),
 (18,⟨.agg,1,8,.agg [.raw (.pointer none)],[(0,1,false)],[],false⟩),
 (19,⟨.agg,1,8,.agg [.raw (.pointer none)],[(0,1,false)],[],false⟩),
 (20,⟨.iface,1,16,.raw .nilIface,[],[],false⟩),
 (21,⟨.int .i32,1,4,.int .i32 0,[],[],false⟩),
 (22,⟨.slice 9,1,24,.nils,[],[],false⟩),
 (23,⟨.agg,3,56,.agg [.nils,.str [],.str []],[(0,1,false),(1,1,false),(2,1,false)],[],false⟩),
 (24,⟨.agg,3,56,.agg [.nils,.str [],.str []],[(0,1,false),(1,1,false),(2,1,false)],[],false⟩),
 (26,⟨.other,1,8,.raw .nilFunc,[],[],false⟩),
 (27,⟨.other,1,8,.raw .nilFunc,[],[],false⟩),
 (28,⟨.other,1,8,.raw .nilFunc,[],[],false⟩),
 (29,⟨.other,1,8,.raw .nilFunc,[],[],false⟩),
 (30,⟨.other,1,8,.raw .nilFunc,[],[],false⟩),
 (31,⟨.other,1,8,.raw .nilFunc,[],[],false⟩),
 (32,⟨.agg,2,24,.agg [.str [],.int .i64 0],[(0,1,false),(1,1,false)],[],false⟩),
 (33,⟨.agg,2,24,.agg [.str [],.int .i64 0],[(0,1,false),(1,1,false)],[],false⟩),
 (34,⟨.agg,2,24,.agg [.str [],.int .i64 0],[(0,2,true)],[],false⟩),
 (35,⟨.agg,2,24,.agg [.str [],.int .i64 0],[(0,2,true)],[],false⟩),
 (36,⟨.other,1,8,.raw .nilFunc,[],[],false⟩),
 (37,⟨.other,1,8,.raw .nilFunc,[],[],false⟩),
 (38,⟨.other,1,8,.raw .nilFunc,[],[],false⟩),
 (39,⟨.other,1,8,.raw .nilFunc,[],[],false⟩),
 (40,⟨.other,1,8,.raw .nilFunc,[],[],false⟩),
 (41, ⟨.ptr, 1, 8, .raw (.pointer none), [], [("loop.example/codicil/impl.commit", 12), ("loop.example/codicil/impl.line", 20)], false⟩),
 (42,⟨.other,1,8,.raw .nilFunc,[],[],false⟩),
 (43,⟨.other,1,8,.raw .nilFunc,[],[],false⟩),
 (44,⟨.other,1,8,.raw .nilFunc,[],[],false⟩),
 (45,⟨.other,1,8,.raw .nilFunc,[],[],false⟩),
 (46, ⟨.ptr, 1, 8, .raw (.pointer none), [], [("loop.example/codicil/impl.atEnd", 60), ("loop.example/codicil/impl.must", 21), ("loop.example/codicil/impl.skip", 19), ("loop.example/codicil/impl.want", 18)], false⟩),
 (47,⟨.other,1,8,.raw .nilFunc,[],[],false⟩),
 (49,⟨.other,1,8,.raw .nilFunc,[],[],false⟩),
 (50,⟨.iface,1,16,.raw .nilIface,[],[],false⟩),
 (51,⟨.iface,1,16,.raw .nilIface,[],[],false⟩),
 (52,⟨.slice 5,1,24,.nils,[],[],false⟩),
 (53,⟨.other,1,8,.raw .nilFunc,[],[],false⟩),
 (54,⟨.other,1,8,.raw .nilFunc,[],[],false⟩),
 (55,⟨.other,1,8,.raw .nilFunc,[],[],false⟩),
 (56,⟨.other,1,8,.raw .nilFunc,[],[],false⟩),
 (57,⟨.other,1,8,.raw .nilFunc,[],[],false⟩),
 (58,⟨.other,1,8,.raw .nilFunc,[],[],false⟩),
 (59,⟨.other,1,8,.raw .nilFunc,[],[],false⟩),
 (60,⟨.int .u64,1,8,.int .u64 0,[],[],false⟩),
 (61,⟨.other,1,8,.raw .nilFunc,[],[],false⟩),
 (62,⟨.int .u32,1,4,.int .u32 0,[],[],false⟩),
 (64,⟨.other,1,8,.raw .nilFunc,[],[],false⟩),
 (65,⟨.ptr,1,8,.raw (.pointer none),[],[],false⟩),
 (66,⟨.agg,4,40,.agg [.raw (.pointer none),.raw (.pointer none),.raw (.pointer none),.str []],[(0,1,false),(1,1,false),(2,1,false),(3,1,false)],[],false⟩),
 (67,⟨.agg,4,40,.agg [.raw (.pointer none),.raw (.pointer none),.raw (.pointer none),.str []],[(0,1,false),(1,1,false),(2,1,false),(3,1,false)],[],false⟩),
 (71,⟨.other,1,8,.raw .nilFunc,[],[],false⟩),
 (72,⟨.int .u8,1,1,.int .u8 0,[],[],false⟩),
 (73,⟨.int .u8,1,1,.int .u8 0,[],[],false⟩),
 (74,⟨.other,1,8,.raw .nilFunc,[],[],false⟩),
 (75,⟨.ptr,1,8,.raw (.pointer none),[],[],false⟩),
 (76,⟨.int .i32,1,4,.int .i32 0,[],[],false⟩),
 (77,⟨.int .i32,1,4,.int .i32 0,[],[],false⟩),
 (78,⟨.agg,11,48,.agg [.int .u64 0,.int .u64 0,.int .u32 0,.int .u8 0,.int .u8 0,.int .u8 0,.int .u8 0,.raw .nilFunc,.raw (.pointer none),.int .i32 0,.int .i32 0],[(0,1,false),(1,1,false),(2,1,false),(3,1,false),(4,1,false),(5,1,false),(6,1,false),(7,1,false),(8,1,false),(9,1,false),(10,1,false)],[],false⟩),
 (79,⟨.agg,11,48,.agg [.int .u64 0,.int .u64 0,.int .u32 0,.int .u8 0,.int .u8 0,.int .u8 0,.int .u8 0,.raw .nilFunc,.raw (.pointer none),.int .i32 0,.int .i32 0],[(0,1,false),(1,1,false),(2,1,false),(3,1,false),(4,1,false),(5,1,false),(6,1,false),(7,1,false),(8,1,false),(9,1,false),(10,1,false)],[],false⟩),
 (80,⟨.other,1,8,.raw .nilFunc,[],[],false⟩),
 (81,⟨.agg,1,16,.agg [.str []],[(0,1,false)],[],false⟩),
 (82,⟨.agg,1,16,.agg [.str []],[(0,1,false)],[],false⟩),
 (84,⟨.other,1,8,.raw .nilFunc,[],[],false⟩)]
set_option maxRecDepth 100000 in
theorem good:TauGood Tryd.prog (tauOf tauL):=tauGood (by kernel_rfl) (by kernel_rfl) (by decide)
end Go.Cod
set_option linter.all false
namespace Go.Cod
variable [Adr]
open Go Go.Proofs Go.ChangeShapes Go.RowKit
set_option maxRecDepth 100000
abbrev errV (g:Nat):V:=.raw (.iface 65 (.pointer (some (Adr.a g))))
omit [Adr] in
theorem star : "*" ++ "errors.errorString" = "*errors.errorString" := by decide
omit [Adr] in
theorem rowErr (u : TypeId) (h : Tryd.prog.typeName? 3 u = some "*errors.errorString") : u = 65 :=
 typeName_ptr_named (nm := "errors.errorString") (by rw [star]; kernel_rfl) (by kernel_rfl) (by decide) u (by rw [star]; exact h)
omit [Adr] in
theorem laid_err {n : String} {text : List UInt8} {r : List (String × DataW Unit)} {W : World} {g : Nat} (h : laidMet Tryd.prog ((n, .iface "*errors.errorString" (.ptr (.agg [.lit (.string text)]))) :: r) W) (hg : Tryd.prog.globalNamed n = some g)
  (ht:(Tryd.prog.globals[g]?).map (·.type)=some 51):(∃ a:Addr,W.cell? ⟨g,0,none⟩=some (.iface 65 (.pointer (some a)))∧g < W.heap.size∧W.cell? ⟨g,1,none⟩=none)∧laidMet Tryd.prog r W:=by
 obtain ⟨a,s,hv,_⟩:=laid_sentinel h hg ht Tryd.underlying51 rowErr Tryd.underlying65 Tryd.underlying82 rfl rfl Tryd.underlying9 (by kernel_rfl) (by kernel_rfl)
 exact ⟨⟨a,laid_cell hg hv⟩,h.tail⟩
omit [Adr] in
theorem globals_ok:∀ (g:Nat) x,Tryd.prog.globals[g]? = some x→x.type < Tryd.prog.types.size:=by
 intro g x h
 have h1:(Tryd.prog.globals.toList.all fun x=>decide (x.type < Tryd.prog.types.size))=true:=by kernel_rfl
 exact of_decide_eq_true (List.all_eq_true.1 h1 x (by simpa using Array.mem_of_getElem? h))
end Go.Cod
set_option linter.all false
set_option linter.all false
namespace Go.Cod
variable [Adr]
open Go Go.Proofs Go.Shelf Go.RowKit
def layRen3:Go.Shelf.Ren:=⟨fun | 217=>37 | 266=>43 | n=>n,fun | 3=>3 | 5=>5 | 9=>9 | n=>n,fun n=>n⟩
theorem lay_Lays_n217c:Lays.n217 Tryd.prog layRen3:={
 mixed:=by kernel_rfl,
 f217:=Tryd.func37.trans (congrArg some (by kernel_rfl)),
 f266:=Tryd.func43.trans (congrArg some (by kernel_rfl)),
 t3:=Tryd.underlying3,
 a3:=Tryd.isAgg3,
 z3:=Tryd.sizeOf3,
 v3:=Tryd.zeroValue3,
 t5:=Tryd.underlying5,
 a5:=Tryd.isAgg5,
 z5:=Tryd.sizeOf5,
 v5:=Tryd.zeroValue5,
 t9:=Tryd.underlying9,
 a9:=Tryd.isAgg9,
 z9:=Tryd.sizeOf9,
 v9:=Tryd.zeroValue9 }
theorem indexByte_pure (s:List UInt8) (c:Int):Pure Tryd.prog 37 [.str s,.int .u8 c] (·=.int .i64 (Lib.indexByte s c.toNat.toUInt8)):=by
 refine pure_of_below (r:=.int .i64 (Lib.indexByte s c.toNat.toUInt8)) ⟨_,Tryd.func37,by kernel_rfl,by kernel_rfl⟩ rfl fun Pr w cargs ha hst=>⟨_,fun _ _=>.int _ _,?_⟩
 match cargs,ha with
 | [],ha=>cases ha.1
 | [_],ha=>exact absurd ha.1 (by simp)
 | _::_::_::_,ha=>exact absurd ha.1 (by simp)
 | [c0,c1],ha =>
   have r0:=ha.2 0 _ c0 rfl rfl
   have r1:=ha.2 1 _ c1 rfl rfl
   cases r0
   cases r1
   refine (Any.stringslite_IndexByte lay_Lays_n217c ⟨s.toArray⟩ c w).mono ?_
   rintro e w' ⟨rfl,rfl⟩
   exact ⟨rfl,Below.refl _ _⟩
def idx10:List UInt8→Int:=fun s=>Lib.indexByte s 10
theorem index_line (s:List UInt8):Pure Tryd.prog 34 [.str s,.str [10]] (·=.int .i64 (idx10 s)):=by
 have hb:=indexByte_pure s 10
 have hb:Pure Tryd.prog 37 [.str s,.int .u8 10] (·=.int .i64 (idx10 s)):=hb
 refine pure_of_awp good Tryd.func34 rfl (by kernel_rfl) (by decide) ?_
 conv=>whnf
 rw [eqB_f (by show ((1:Nat):Int)≠0; decide)]
 conv=>whnf
 by_cases hs:[10]=s
 · rw [eqS_t hs]
   conv=>whnf
   subst hs
   rfl
 · rw [eqS_f hs]
   conv=>whnf
   rw [eqB_t (by rfl)]
   conv=>whnf
   refine ⟨by decide,10,rfl,?_⟩
   conv=>whnf
   refine .inl (hb.mono ?_)
   rintro r rfl
   conv=>whnf
end Go.Cod
set_option linter.all false
namespace Go.Cod
variable [Adr]
open Go Go.Proofs Go.ChangeShapes Go.WideShapes Go.ChangeAt Go.RowKit
set_option maxRecDepth 10000
theorem kids:Kids Tryd.prog (· < Tryd.prog.types.size):=kids_rows (by kernel_rfl) (by kernel_rfl)
theorem full:∀ t e,t < Tryd.prog.types.size→Tryd.prog.underlying t=some (.slice e)→0 < Tryd.prog.cellsOf e:=slices_full_of Tryd.prog (by kernel_rfl)
def srows (ss:List (List UInt8)):List (List V):=ss.map fun s=>[.str s]
theorem srows_len (ss:List (List UInt8)):(srows ss).length=ss.length:=by simp [srows]
theorem srows_get (ss:List (List UInt8)) (i:Nat) (h:i < ss.length):(srows ss)[i]? = some [.str ss[i]]:=by simp [srows,h]
theorem srows_take (ss:List (List UInt8)) (i:Nat):(srows ss).take i=srows (ss.take i):=by simp [srows]
structure Cm where
 over:List (List UInt8)
 tree:List UInt8
 note:List UInt8
def Cm.cells (c:Cm):List V:=[.sl (srows c.over),.str c.tree,.str c.note]
structure Cm.Sm (c:Cm):Prop where
 n:c.over.length≤1048576
 o:∀ s∈c.over,s.length≤1048576
 t:c.tree.length≤1048576
 x:c.note.length≤1048576
theorem eqB_refl (a:Int):eqB a a=true:=eqB_t rfl
theorem eqS_refl (a:List UInt8):eqS a a=true:=eqS_t rfl
theorem eqStringS_pure (ss:List (List UInt8)) (hl:ss.length≤1048576):Pure Tryd.prog 13 [.sl (srows ss),.sl (srows ss)] (·=.bool true):=by
 have hlr:=srows_len ss
 refine pure_of_awp good Tryd.func13 rfl (by kernel_rfl) (by decide) ?_
 conv=>whnf
 rw [eqB_refl]
 conv=>whnf
 refine loop_intro (fun n fr st=>∃ i:Nat,n+i=ss.length∧st=[]∧Holds fr [(0,.sl (srows ss)),(1,.sl (srows ss)),(5,.int .i64 i)]) ss.length
  ⟨0,rfl,rfl,rfl,rfl,rfl,trivial⟩ ?_
 rintro n fr st ⟨i,hi,rfl,hh⟩
 obtain ⟨fr,rfl⟩:=hh.split
 clear hh
 conv=>whnf
 by_cases hlt:i < ss.length
 · rw [ltB_t (by omega)]
   conv=>whnf
   have hg:=srows_get ss i hlt
   refine ⟨by omega,srows ss,_,1,rfl,hg,rfl,rfl,?_⟩
   conv=>whnf
   refine ⟨by omega,srows ss,_,1,rfl,hg,rfl,rfl,?_⟩
   conv=>whnf
   rw [eqS_refl]
   conv=>whnf
   refine ⟨n - 1,by omega,i+1,by omega,rfl,rfl,rfl,?_,trivial⟩
   show V.int .i64 (IntKind.i64.wrap (i+1))=_
   rw [wrap64 (by omega) (by omega)]; simp
 · rw [ltB_f (by omega)]
   conv=>whnf
theorem eqCommit_pure (c:Cm) (hc:c.Sm):Pure Tryd.prog 6 [.agg c.cells,.agg c.cells] (·=.bool true):=by
 have f1:=eqStringS_pure c.over hc.n
 obtain ⟨over,tree,note⟩:=c
 simp only [Cm.cells] at f1 ⊢
 generalize srows over=rows at *
 refine pure_of_awp good Tryd.func6 rfl (by kernel_rfl) (by decide) ?_
 conv=>whnf
 refine .inl (f1.mono ?_)
 rintro r rfl
 conv=>whnf
 rw [eqS_refl]
 conv=>whnf
 rw [eqS_refl]
 conv=>whnf
end Go.Cod
set_option linter.all false
namespace Go.Cod
variable [Adr]
open Go Go.Proofs
set_option maxRecDepth 10000
def hexB (b:UInt8):Bool:=decide ((48≤b.toNat∧b.toNat≤57)∨(97≤b.toNat∧b.toNat≤102))
def noteB (b:UInt8):Bool:=decide (32≤b.toNat∧b.toNat≤126)
def keyL (s:List UInt8):Bool:=s.all hexB&&decide (s.length=64)
def overB (ss:List (List UInt8)):Bool:=decide (ss.length≤2)&&ss.all keyL&&decide ss.Nodup
def okC (c:Cm):Bool:=overB c.over&&keyL c.tree&&decide (c.note.length≤12)&&c.note.all noteB
def ovT (ss:List (List UInt8)) (acc:List UInt8):List UInt8:=match ss with
 | []=>acc
 | s::ss=>ovT ss (acc++([111,118,101,114,32]++s++[10]))
def headC:List UInt8:=[99,111,109,109,105,116,10]
def textC (c:Cm):List UInt8:=ovT c.over headC++[116,114,101,101,32]++c.tree++[10,110,111,116,101,32]++c.note++[10]
def writeC (c:Cm):List UInt8:=if okC c=true then textC c else []
theorem take_all {α:Type} {p:α→Bool} {s:List α} {i:Nat} (h:i < s.length):(s.take (i+1)).all p=((s.take i).all p&&p s[i]):=by
 rw [List.take_succ_eq_append_getElem h,List.all_append]; simp
theorem ovT_drop (ss:List (List UInt8)) (i:Nat) (h:i < ss.length) (acc:List UInt8):ovT (ss.drop i) acc=ovT (ss.drop (i+1)) (acc++([111,118,101,114,32]++ss[i]++[10])):=by
 rw [List.drop_eq_getElem_cons h]; rfl
theorem all_no {α:Type} {p:α→Bool} {s:List α} {i:Nat} (h:i < s.length) (hp:p s[i]=false):s.all p=false:=by
 rw [List.all_eq_false]; exact ⟨s[i],List.getElem_mem _,by simp [hp]⟩
theorem textHasOnly_pure (s:List UInt8) (hs:s.length≤9223372036854775806) (g:Nat) (p:UInt8→Bool) (hp:∀ b:UInt8,Pure Tryd.prog g [cellB b] (·=.bool (p b))) :
  Pure Tryd.prog 32 [.str s,.fn g []] (·=.bool (s.all p)):=by
 refine pure_of_awp good Tryd.func32 rfl (by kernel_rfl) (by decide) ?_
 conv=>whnf
 refine loop_intro (fun n fr st=>st=[]∧∃ i:Nat,n+i=s.length∧(s.take i).all p=true∧Holds fr [(0,.str s),(1,.fn g []),(7,.int .i64 s.length),(8,.int .i64 i)]) s.length ⟨rfl,0,rfl,rfl,rfl,rfl,rfl,rfl,trivial⟩ ?_
 rintro n fr st ⟨rfl,i,hi,hx,hh⟩
 obtain ⟨fr,rfl⟩:=hh.split
 clear hh
 conv=>whnf
 by_cases hlt:i < s.length
 · rw [ltB_t (by omega)]
   conv=>whnf
   refine ⟨by omega,s[i],by simp [hlt],?_⟩
   conv=>whnf
   have hst:=take_all (p:=p) hlt
   have hno:p s[i]=false→s.all p=false:=all_no hlt
   refine .inl ((hp s[i]).mono ?_)
   rintro r rfl
   cases a:p s[i]
   · conv=>whnf
     rw [hno a]
   conv=>whnf
   refine ⟨n - 1,by omega,rfl,i+1,by omega,by rw [hst,hx,a]; rfl,rfl,rfl,rfl,?_,trivial⟩
   show V.int .i64 (IntKind.i64.wrap (i+1))=_
   rw [wrap64 (by omega) (by omega)]; simp
 · rw [ltB_f (by omega)]
   conv=>whnf
   rw [List.take_of_length_le (by omega)] at hx
   rw [hx]
theorem isFigure_pure (b:UInt8):Pure Tryd.prog 42 [cellB b] (·=.bool (decide (48≤b.toNat∧b.toNat≤57))):=by
 refine pure_of_awp good Tryd.func42 rfl (by kernel_rfl) (by decide) ?_
 conv=>whnf
 by_cases h1:(48:Int)≤(b.toNat:Int)
 · rw [leB_t (by omega)]
   conv=>whnf
   congr 1
   rw [leB_def]
   exact decide_eq_decide.2 (by omega)
 · rw [leB_f (by omega)]
   conv=>whnf
   congr 1
   symm
   exact decide_eq_false (by omega)
theorem isSumFigure_pure (b:UInt8):Pure Tryd.prog 36 [cellB b] (·=.bool (hexB b)):=by
 have f1:=isFigure_pure b
 refine pure_of_awp good Tryd.func36 rfl (by kernel_rfl) (by decide) ?_
 conv=>whnf
 refine .inl (f1.mono ?_)
 rintro r rfl
 by_cases h0:48≤b.toNat∧b.toNat≤57
 · rw [decide_eq_true h0]
   conv=>whnf
   congr 1
   symm
   exact decide_eq_true (.inl h0)
 rw [decide_eq_false h0]
 conv=>whnf
 by_cases h1:(97:Int)≤(b.toNat:Int)
 · rw [leB_t (by omega)]
   conv=>whnf
   congr 1
   rw [leB_def,hexB]
   exact decide_eq_decide.2 (by omega)
 · rw [leB_f (by omega)]
   conv=>whnf
   congr 1
   symm
   exact decide_eq_false (by omega)
theorem isNoteText_pure (b:UInt8):Pure Tryd.prog 33 [cellB b] (·=.bool (noteB b)):=by
 refine pure_of_awp good Tryd.func33 rfl (by kernel_rfl) (by decide) ?_
 conv=>whnf
 by_cases h1:(32:Int)≤(b.toNat:Int)
 · rw [leB_t (by omega)]
   conv=>whnf
   congr 1
   rw [leB_def,noteB]
   exact decide_eq_decide.2 (by omega)
 · rw [leB_f (by omega)]
   conv=>whnf
   congr 1
   symm
   exact decide_eq_false (by omega)
theorem sumOk_pure (s:List UInt8) (hs:s.length≤1048576):Pure Tryd.prog 31 [.str s] (·=.bool (keyL s)):=by
 have f1:=textHasOnly_pure s (by omega) _ hexB isSumFigure_pure
 have hk:keyL s=(s.all hexB&&decide (s.length=64)):=rfl
 generalize keyL s=k at *
 refine pure_of_awp good Tryd.func31 rfl (by kernel_rfl) (by decide) ?_
 conv=>whnf
 by_cases h:(s.length:Int)=64
 · rw [eqB_t h]
   conv=>whnf
   refine .inl (f1.mono ?_)
   rintro r rfl
   conv=>whnf
   rw [hk,decide_eq_true (by omega)]; simp
 · rw [eqB_f h]
   conv=>whnf
   rw [hk,decide_eq_false (by omega)]; simp
theorem index_pure (ss:List (List UInt8)) (x:List UInt8) (hl:ss.length≤1048576):Pure Tryd.prog 41 [.sl (srows ss),.str x] (fun r=>∃ k:Int,r=.int .i64 k∧(0≤k↔x∈ss)):=by
 have hlr:=srows_len ss
 have hgr:=srows_get ss
 generalize srows ss=rows at *
 refine pure_of_awp good Tryd.func41 rfl (by kernel_rfl) (by decide) ?_
 conv=>whnf
 refine loop_intro (fun n fr st=>st=[]∧∃ i:Nat,n+i=ss.length∧x∉ss.take i∧Holds fr [(0,.sl rows),(1,.str x),(7,.int .i64 ss.length),(8,.int .i64 i)]) ss.length ⟨rfl,0,rfl,by simp,rfl,rfl,by rw [← hlr]; rfl,rfl,trivial⟩ ?_
 rintro n fr st ⟨rfl,i,hi,hx,hh⟩
 obtain ⟨fr,rfl⟩:=hh.split
 clear hh
 conv=>whnf
 by_cases hlt:i < ss.length
 · rw [ltB_t (by omega)]
   conv=>whnf
   have hg:=hgr i hlt
   have hmem:ss[i]∈ss:=List.getElem_mem _
   have htk:ss.take (i+1)=ss.take i++[ss[i]]:=List.take_succ_eq_append_getElem hlt
   generalize ss[i]=y at *
   refine ⟨by omega,rows,_,1,rfl,hg,rfl,rfl,?_⟩
   conv=>whnf
   by_cases hxy:x=y
   · rw [eqS_t hxy]
     conv=>whnf
     exact ⟨i,rfl,⟨fun _=>hxy ▸ hmem,fun _=>by omega⟩⟩
   · rw [eqS_f hxy]
     conv=>whnf
     refine ⟨n - 1,by omega,rfl,i+1,by omega,?_,rfl,rfl,rfl,?_,trivial⟩
     · rw [htk]
       intro h
       rcases List.mem_append.1 h with h | h
       · exact hx h
       · exact hxy (List.mem_singleton.1 h)
     · show V.int .i64 (IntKind.i64.wrap (i+1))=_
       rw [wrap64 (by omega) (by omega)]; simp
 · rw [ltB_f (by omega)]
   conv=>whnf
   rw [List.take_of_length_le (by omega)] at hx
   exact ⟨-1,rfl,⟨fun h=>absurd h (by omega),fun h=>absurd h hx⟩⟩
theorem contains_pure (ss:List (List UInt8)) (x:List UInt8) (hl:ss.length≤1048576):Pure Tryd.prog 35 [.sl (srows ss),.str x] (·=.bool (decide (x∈ss))):=by
 have f1:=index_pure ss x hl
 generalize srows ss=rows at *
 refine pure_of_awp good Tryd.func35 rfl (by kernel_rfl) (by decide) ?_
 conv=>whnf
 refine .inl (f1.mono ?_)
 rintro r ⟨k,rfl,hk⟩
 conv=>whnf
 congr 1
 rw [leB_def]
 exact decide_eq_decide.2 hk
theorem nodup_take {ss:List (List UInt8)} {i:Nat} (h:i < ss.length):(ss.take (i+1)).Nodup↔(ss.take i).Nodup∧ss[i]∉ss.take i:=by
 rw [List.take_succ_eq_append_getElem h,List.nodup_append]
 simp only [List.nodup_cons,List.not_mem_nil,not_false_eq_true,List.nodup_nil,and_self,List.mem_singleton,forall_eq,true_and]
 exact ⟨fun ⟨a,b⟩=>⟨a,fun h=>b _ h rfl⟩,fun ⟨a,b⟩=>⟨a,fun x hx e=>b (e ▸ hx)⟩⟩
set_option maxHeartbeats 4000000 in
theorem commitOverOk_pure (ss:List (List UInt8)) (hs:∀ s∈ss,s.length≤1048576) (hl:ss.length≤1048576):Pure Tryd.prog 30 [.sl (srows ss)] (·=.bool (overB ss)):=by
 have hlr:=srows_len ss
 have hgr:=srows_get ss
 have hw:∀ r∈srows ss,r.length=1:=fun r hr=>by obtain ⟨s,_,rfl⟩:=List.mem_map.1 hr; rfl
 have htk:=srows_take ss
 have hO:overB ss=(decide (ss.length≤2)&&ss.all keyL&&decide ss.Nodup):=rfl
 generalize overB ss=res at *
 generalize hrows:srows ss=rows at *
 refine pure_of_awp good Tryd.func30 rfl (by kernel_rfl) (by decide) ?_
 conv=>whnf
 by_cases h2:(2:Int) < (ss.length:Int)
 · rw [hlr,ltB_t h2]
   conv=>whnf
   rw [hO,decide_eq_false (by omega)]; rfl
 rw [hlr,ltB_f (by omega)]
 conv=>whnf
 refine loop_intro (fun n fr st=>st=[]∧∃ i:Nat,n+i=ss.length∧(ss.take i).all keyL=true∧(ss.take i).Nodup∧Holds fr [(0,.sl rows),(8,.sl rows),(9,.int .i64 ss.length),(10,.int .i64 i)]) ss.length ⟨rfl,0,rfl,rfl,by simp,rfl,rfl,by rw [← hlr]; rfl,rfl,trivial⟩ ?_
 rintro n fr st ⟨rfl,i,hi,hx,hn,hh⟩
 obtain ⟨fr,rfl⟩:=hh.split
 clear hh
 conv=>whnf
 by_cases hlt:i < ss.length
 · rw [ltB_t (by omega)]
   conv=>whnf
   have hg:=hgr i hlt
   have f1:=sumOk_pure ss[i] (hs _ (List.getElem_mem _))
   have f2:=contains_pure (ss.take i) ss[i] (by rw [List.length_take]; omega)
   have hno:keyL ss[i]=false→ss.all keyL=false:=all_no hlt
   have hst:=take_all (p:=keyL) hlt
   have hnt:=nodup_take hlt
   have hnd:ss[i]∈ss.take i→¬ ss.Nodup:=fun h hd=>by
    have h3:(ss.take (i+1)).Nodup:=hd.sublist (List.take_sublist _ _)
    exact (hnt.1 h3).2 h
   rw [← htk] at f2
   generalize ss[i]=y at *
   refine ⟨by omega,rows,_,1,rfl,hg,rfl,rfl,?_⟩
   conv=>whnf
   refine .inl (f1.mono ?_)
   rintro r rfl
   cases hk:keyL y with
   | false =>
     conv=>whnf
     rw [hO,hno hk]; simp
   | true =>
     conv=>whnf
     refine ⟨hw,?_⟩
     conv=>whnf
     refine ⟨by omega,by omega,?_⟩
     conv=>whnf
     refine .inl (f2.mono ?_)
     rintro r rfl
     by_cases hm:y∈ss.take i
     · rw [decide_eq_true hm]
       conv=>whnf
       rw [hO,decide_eq_false (hnd hm)]; simp
     · rw [decide_eq_false hm]
       conv=>whnf
       refine ⟨n - 1,by omega,rfl,i+1,by omega,by rw [hst,hx,hk]; rfl,hnt.2 ⟨hn,hm⟩,rfl,rfl,rfl,?_,trivial⟩
       show V.int .i64 (IntKind.i64.wrap (i+1))=_
       rw [wrap64 (by omega) (by omega)]; simp
 · rw [ltB_f (by omega)]
   conv=>whnf
   rw [List.take_of_length_le (by omega)] at hx hn
   rw [hO,hx,decide_eq_true hn,decide_eq_true (by omega)]; rfl
end Go.Cod
set_option linter.all false
namespace Go.Cod
variable [Adr]
open Go Go.Proofs
set_option maxRecDepth 10000
theorem commitOk_pure (c:Cm) (hc:c.Sm):Pure Tryd.prog 27 [.agg c.cells] (·=.bool (okC c)):=by
 have f1:=commitOverOk_pure c.over hc.o hc.n
 have f2:=sumOk_pure c.tree hc.t
 have hx:=hc.x
 have f3:=textHasOnly_pure c.note (by omega) _ noteB isNoteText_pure
 have hO:okC c=(overB c.over&&keyL c.tree&&decide (c.note.length≤12)&&c.note.all noteB):=rfl
 generalize okC c=res at *
 obtain ⟨over,tree,note⟩:=c
 simp only [Cm.cells] at f1 f2 f3 hO hx ⊢
 generalize srows over=rows at *
 generalize overB over=b1 at *
 generalize keyL tree=b2 at *
 generalize note.all noteB=b3 at *
 refine pure_of_awp good Tryd.func27 rfl (by kernel_rfl) (by decide) ?_
 conv=>whnf
 refine .inl (f1.mono ?_)
 rintro r rfl
 cases b1 with
 | false =>
   conv=>whnf
   rw [hO]; rfl
 | true =>
   conv=>whnf
   refine .inl (f2.mono ?_)
   rintro r rfl
   cases b2 with
   | false =>
     conv=>whnf
     rw [hO]; rfl
   | true =>
     conv=>whnf
     by_cases h:(note.length:Int)≤12
     · rw [leB_t h]
       conv=>whnf
       refine .inl (f3.mono ?_)
       rintro r rfl
       conv=>whnf
       rw [hO,decide_eq_true (by omega)]; rfl
     · rw [leB_f (by omega)]
       conv=>whnf
       rw [hO,decide_eq_false (by omega)]; rfl
set_option maxHeartbeats 4000000 in
theorem implCommitWrite_pure (c:Cm) (hc:c.Sm):Pure Tryd.prog 22 [.agg c.cells] (·=.str (writeC c)):=by
 have f1:=commitOk_pure c hc
 have hO:writeC c=if okC c=true then textC c else []:=rfl
 have hT:textC c=ovT (c.over.drop 0) headC++[116,114,101,101,32]++c.tree++[10,110,111,116,101,32]++c.note++[10]:=rfl
 have hn:=hc.n
 have ho:=hc.o
 have ht:=hc.t
 have hx:=hc.x
 generalize writeC c=res at *
 generalize textC c=tx at *
 generalize okC c=ok at *
 obtain ⟨over,tree,note⟩:=c
 simp only [Cm.cells] at f1 hT hn ho ht hx ⊢
 have hlr:=srows_len over
 have hgr:=srows_get over
 generalize srows over=rows at *
 refine pure_of_awp good Tryd.func22 rfl (by kernel_rfl) (by decide) ?_
 conv=>whnf
 refine .inl (f1.mono ?_)
 rintro r rfl
 cases ok with
 | false =>
   conv=>whnf
   rw [hO]; rfl
 | true =>
   rw [if_pos rfl] at hO
   conv=>whnf
   refine loop_drop (fun n fr st=>∃ (i:Nat) (acc:List UInt8),n+i=over.length∧acc.length≤7+i*1048582∧ovT (over.drop 0) headC=ovT (over.drop i) acc∧st=[⟨[[.sl rows,.str tree,.str note]],3,true,true,true,.cell⟩] ∧
     Holds fr [(1,.ptr 0 0 0),(3,.str acc),(10,.sl rows),(11,.int .i64 over.length),(12,.int .i64 i)]) over.length none
    ⟨0,headC,rfl,by simp [headC],rfl,rfl,rfl,rfl,rfl,by rw [← hlr]; rfl,rfl,trivial⟩ ?_
   rintro n fr st ⟨i,acc,hi,hal,hov,rfl,hh⟩
   obtain ⟨fr,rfl⟩:=hh.split
   clear hh
   conv=>whnf
   by_cases hlt:i < over.length
   · rw [ltB_t (by omega)]
     conv=>whnf
     have hg:=hgr i hlt
     have hd:=ovT_drop over i hlt acc
     have hl:=ho over[i] (List.getElem_mem _)
     generalize over[i]=y at *
     refine ⟨by omega,rows,_,1,rfl,hg,rfl,rfl,?_⟩
     conv=>whnf
     refine ⟨by simp; omega,?_⟩
     conv=>whnf
     refine ⟨by simp; omega,?_⟩
     conv=>whnf
     refine ⟨by simp; omega,?_⟩
     conv=>whnf
     refine ⟨n - 1,by omega,none,i+1,_,by omega,?_,hov.trans hd,rfl,rfl,rfl,rfl,rfl,?_,trivial⟩
     · simp only [List.length_append,List.length_cons,List.length_nil]; omega
     · show V.int .i64 (IntKind.i64.wrap (i+1))=_
       rw [wrap64 (by omega) (by omega)]; simp
   · rw [ltB_f (by omega)]
     have hil:i=over.length:=by omega
     subst hil
     rw [List.drop_length] at hov
     have hov:ovT (over.drop 0) headC=acc:=hov
     conv=>whnf
     refine ⟨by simp; omega,?_⟩
     conv=>whnf
     refine ⟨by simp; omega,?_⟩
     conv=>whnf
     refine ⟨by simp; omega,?_⟩
     conv=>whnf
     refine ⟨by simp; omega,?_⟩
     conv=>whnf
     refine ⟨by simp; omega,?_⟩
     conv=>whnf
     rw [hO,hT,hov]
end Go.Cod
set_option linter.all false
namespace Go.Cod
variable [Adr]
open Go Go.Proofs
set_option maxRecDepth 10000
set_option maxHeartbeats 4000000 in
theorem l8Key_pure (s:List UInt8) (hs:s.length≤1048576):Pure Tryd.prog 24 [.str s] (·=.bool (keyL s)):=by
 have hk:keyL s=(s.all hexB&&decide (s.length=64)):=rfl
 generalize keyL s=res at *
 refine pure_of_awp good Tryd.func24 rfl (by kernel_rfl) (by decide) ?_
 conv=>whnf
 refine loop_intro (fun n fr st=>st=[]∧∃ i:Nat,n+i=s.length∧(s.take i).all hexB=true∧Holds fr [(0,.str s),(3,.int .i64 i)]) s.length ⟨rfl,0,rfl,rfl,rfl,rfl,trivial⟩ ?_
 rintro n fr st ⟨rfl,i,hi,hx,hh⟩
 obtain ⟨fr,rfl⟩:=hh.split
 clear hh
 conv=>whnf
 by_cases hlt:i < s.length
 · rw [ltB_t (by omega)]
   conv=>whnf
   have hst:=take_all (p:=hexB) hlt
   have hno:hexB s[i]=false→s.all hexB=false:=all_no hlt
   have hgb:s[i]? = some s[i]:=by simp [hlt]
   have hw:V.int .i64 (IntKind.i64.wrap ((i:Int)+1))=.int .i64 ((i+1:Nat):Int):=by rw [wrap64 (by omega) (by omega)]; simp
   have hhx:hexB s[i]=decide ((48≤s[i].toNat∧s[i].toNat≤57)∨(97≤s[i].toNat∧s[i].toNat≤102)):=rfl
   generalize s[i]=b at *
   have hgo:hexB b=true→∃ n',n' < n∧(([]:St)=[]∧∃ j:Nat,n'+j=s.length∧(s.take j).all hexB=true∧j=i+1):=fun h=>⟨n - 1,by omega,rfl,i+1,by omega,by rw [hst,hx,h]; rfl,rfl⟩
   refine ⟨by omega,b,hgb,?_⟩
   conv=>whnf
   by_cases h1:(48:Int)≤(b.toNat:Int)
   · rw [leB_t h1]
     conv=>whnf
     refine ⟨by omega,b,hgb,?_⟩
     conv=>whnf
     by_cases h2:(b.toNat:Int)≤57
     · rw [leB_t h2]
       have hb:hexB b=true:=by rw [hhx]; exact decide_eq_true (.inl ⟨by omega,by omega⟩)
       conv=>whnf
       exact ⟨n - 1,by omega,rfl,i+1,by omega,by rw [hst,hx,hb]; rfl,rfl,hw,trivial⟩
     · rw [leB_f (by omega)]
       conv=>whnf
       refine ⟨by omega,b,hgb,?_⟩
       conv=>whnf
       by_cases h3:(97:Int)≤(b.toNat:Int)
       · rw [leB_t h3]
         conv=>whnf
         refine ⟨by omega,b,hgb,?_⟩
         conv=>whnf
         by_cases h4:(b.toNat:Int)≤102
         · rw [leB_t h4]
           have hb:hexB b=true:=by rw [hhx]; exact decide_eq_true (.inr ⟨by omega,by omega⟩)
           conv=>whnf
           exact ⟨n - 1,by omega,rfl,i+1,by omega,by rw [hst,hx,hb]; rfl,rfl,hw,trivial⟩
         · rw [leB_f (by omega)]
           have hb:hexB b=false:=by rw [hhx]; exact decide_eq_false (by omega)
           conv=>whnf
           rw [hk,hno hb]; rfl
       · rw [leB_f (by omega)]
         have hb:hexB b=false:=by rw [hhx]; exact decide_eq_false (by omega)
         conv=>whnf
         rw [hk,hno hb]; rfl
   · rw [leB_f (by omega)]
     have hb:hexB b=false:=by rw [hhx]; exact decide_eq_false (by omega)
     conv=>whnf
     refine ⟨by omega,b,hgb,?_⟩
     conv=>whnf
     rw [leB_f (by omega)]
     conv=>whnf
     rw [hk,hno hb]; rfl
 · rw [ltB_f (by omega)]
   conv=>whnf
   rw [List.take_of_length_le (by omega)] at hx
   rw [hk,hx,eqB_def]
   congr 1
   rw [Bool.true_and]
   exact decide_eq_decide.2 (by omega)
def adjB:List (List UInt8)→Bool
 | []=>true
 | [_]=>true
 | a::b::ss=>decide (a≠b)&&adjB (b::ss)
theorem over_adj (ss:List (List UInt8)):overB ss=(ss.all keyL&&adjB ss&&decide (ss.length≤2)):=by
 match ss with
 | []=>rfl
 | [a]=>simp [overB,adjB]
 | [a,b]=>simp [overB,adjB,Bool.and_comm]
 | a::b::c::ss=>simp [overB]
theorem adj_take:∀ (ss:List (List UInt8)) (i:Nat) (h:i+1 < ss.length),adjB (ss.take (i+2))=(adjB (ss.take (i+1))&&decide (ss[i]≠ss[i+1]))
 | a::b::ss,0,h=>by simp [adjB]
 | a::b::ss,i+1,h=>by
   have:=adj_take (b::ss) i (by simpa using h)
   simp only [List.take_succ_cons,adjB,List.getElem_cons_succ] at this ⊢
   rw [this,Bool.and_assoc]
theorem adj_one (ss:List (List UInt8)):adjB (ss.take 1)=true:=by
 cases ss with
 | nil=>rfl
 | cons a ss=>rfl
theorem adj_mono:∀ (ss:List (List UInt8)) (i:Nat),adjB (ss.take i)=false→adjB ss=false
 | [],i,h=>by simpa using h
 | [a],i,h=>by
   cases i <;> simp [adjB] at h
 | a::b::ss,0,h=>by simp [adjB] at h
 | a::b::ss,1,h=>by simp [adjB] at h
 | a::b::ss,i+2,h=>by
   simp only [List.take_succ_cons,adjB,Bool.and_eq_false_iff] at h ⊢
   rcases h with h | h
   · exact .inl h
   · exact .inr (adj_mono (b::ss) (i+1) (by simpa [List.take_succ_cons] using h))
set_option maxHeartbeats 8000000 in
theorem l9Ok_pure (c:Cm) (hc:c.Sm):Pure Tryd.prog 16 [.agg c.cells] (·=.bool (okC c)):=by
 have hO:okC c=((c.over.all keyL&&adjB c.over&&decide (c.over.length≤2))&&keyL c.tree&&decide (c.note.length≤12)&&c.note.all noteB):=by rw [← over_adj]; rfl
 have f2:=l8Key_pure c.tree hc.t
 have hn:=hc.n
 have ho:=hc.o
 have ht:=hc.t
 have hx:=hc.x
 generalize okC c=res at *
 obtain ⟨over,tree,note⟩:=c
 simp only [Cm.cells] at f2 hO hn ho ht hx ⊢
 have hlr:=srows_len over
 have hgr:=srows_get over
 generalize srows over=rows at *
 generalize keyL tree=kt at *
 refine pure_of_awp good Tryd.func16 rfl (by kernel_rfl) (by decide) ?_
 conv=>whnf
 refine loop_intro (fun n fr st=>st=[⟨[[.sl rows,.str tree,.str note]],3,true,true,true,.cell⟩]∧∃ i:Nat,n+i=over.length∧(over.take i).all keyL=true∧adjB (over.take i)=true∧Holds fr [(1,.ptr 0 0 0),(3,.int .i64 i)]) over.length ⟨rfl,0,rfl,rfl,rfl,rfl,rfl,trivial⟩ ?_
 rintro n fr st ⟨rfl,i,hi,hk,ha,hh⟩
 obtain ⟨fr,rfl⟩:=hh.split
 clear hh
 conv=>whnf
 by_cases hlt:i < over.length
 · rw [hlr,ltB_t (by omega)]
   conv=>whnf
   have hg:=hgr i hlt
   have f1:=l8Key_pure over[i] (ho _ (List.getElem_mem _))
   have hno:keyL over[i]=false→over.all keyL=false:=all_no hlt
   have hst:=take_all (p:=keyL) hlt
   have hw:V.int .i64 (IntKind.i64.wrap ((i:Int)+1))=.int .i64 ((i+1:Nat):Int):=by rw [wrap64 (by omega) (by omega)]; simp
   have hw1:0 < i→IntKind.i64.wrap ((i:Int) - 1)=((i - 1:Nat):Int):=fun h=>by rw [wrap64 (by omega) (by omega)]; omega
   have hprev:∀ h:0 < i,rows[i - 1]? = some [.str (over[i - 1]'(by omega))]:=fun h=>hgr (i - 1) (by omega)
   have hadj:∀ h:0 < i,adjB (over.take (i+1))=(adjB (over.take i)&&decide (over[i - 1]'(by omega)≠over[i])):=fun h=>by
    obtain ⟨j,rfl⟩:∃ j,i=j+1:=⟨i - 1,by omega⟩
    exact adj_take over j hlt
   have hadj0:i=0→adjB (over.take (i+1))=true:=fun h=>by rw [h]; exact adj_one over
   have hmono:=adj_mono over (i+1)
   refine ⟨by omega,rows,_,1,rfl,hg,rfl,rfl,?_⟩
   conv=>whnf
   refine ⟨_,.inl f1,?_⟩
   conv=>whnf
   cases hky:keyL over[i] with
   | false =>
     conv=>whnf
     rw [hO,hno hky]; rfl
   | true =>
     conv=>whnf
     by_cases h0:0 < i
     · have hprev:=hprev h0
       have hadj:=hadj h0
       have hw1:=hw1 h0
       generalize over[i]=y at *
       generalize over[i - 1]'(by omega)=z at *
       rw [ltB_t (by omega)]
       conv=>whnf
       have hprev2:rows[(IntKind.i64.wrap ((i:Int) - 1)).toNat]? = some [.str z]:=by rw [hw1]; exact hprev
       repeat (first
        | (refine ⟨by omega,rows,_,1,rfl,hg,rfl,rfl,?_⟩
           conv=>whnf)
        | (refine ⟨by rw [hw1]; omega,rows,_,1,rfl,hprev2,rfl,rfl,?_⟩
           conv=>whnf))
       by_cases hyz:y=z
       · rw [eqS_t hyz]
         conv=>whnf
         have:adjB over=false:=hmono (by rw [hadj,decide_eq_false (by simp [hyz])]; simp)
         rw [hO,this]; simp
       · rw [eqS_f hyz]
         conv=>whnf
         exact ⟨n - 1,by omega,rfl,i+1,by omega,by rw [hst,hk,hky]; rfl,by rw [hadj,ha,Bool.true_and]; exact decide_eq_true (show z≠y from fun e=>hyz e.symm),rfl,hw,trivial⟩
     · rw [ltB_f (by omega)]
       conv=>whnf
       exact ⟨n - 1,by omega,rfl,i+1,by omega,by rw [hst,hk,hky]; rfl,hadj0 (by omega),rfl,hw,trivial⟩
 · rw [hlr,ltB_f (by omega)]
   conv=>whnf
   rw [List.take_of_length_le (by omega)] at hk ha
   rw [hk,ha,Bool.true_and,Bool.true_and] at hO
   refine loop_intro (fun n fr st=>st=[⟨[[.sl rows,.str tree,.str note]],3,true,true,true,.cell⟩]∧∃ i:Nat,n+i=note.length∧(note.take i).all noteB=true∧Holds fr [(1,.ptr 0 0 0),(4,.int .i64 i)]) note.length ⟨rfl,0,rfl,rfl,rfl,rfl,trivial⟩ ?_
   rintro n fr st ⟨rfl,i,hi,hx2,hh⟩
   obtain ⟨fr,rfl⟩:=hh.split
   clear hh
   conv=>whnf
   by_cases hlt:i < note.length
   · rw [ltB_t (by omega)]
     conv=>whnf
     have hst:=take_all (p:=noteB) hlt
     have hno:noteB note[i]=false→note.all noteB=false:=all_no hlt
     have hgb:note[i]? = some note[i]:=by simp [hlt]
     have hw:V.int .i64 (IntKind.i64.wrap ((i:Int)+1))=.int .i64 ((i+1:Nat):Int):=by rw [wrap64 (by omega) (by omega)]; simp
     have hhx:noteB note[i]=decide (32≤note[i].toNat∧note[i].toNat≤126):=rfl
     generalize note[i]=b at *
     refine ⟨by omega,b,hgb,?_⟩
     conv=>whnf
     by_cases h1:(b.toNat:Int) < 32
     · rw [ltB_t h1]
       have hb:noteB b=false:=by rw [hhx]; exact decide_eq_false (by omega)
       conv=>whnf
       rw [hO,hno hb]; simp
     · rw [ltB_f (by omega)]
       conv=>whnf
       refine ⟨by omega,b,hgb,?_⟩
       conv=>whnf
       by_cases h2:(126:Int) < (b.toNat:Int)
       · rw [ltB_t h2]
         have hb:noteB b=false:=by rw [hhx]; exact decide_eq_false (by omega)
         conv=>whnf
         rw [hO,hno hb]; simp
       · rw [ltB_f (by omega)]
         have hb:noteB b=true:=by rw [hhx]; exact decide_eq_true ⟨by omega,by omega⟩
         conv=>whnf
         exact ⟨n - 1,by omega,rfl,i+1,by omega,by rw [hst,hx2,hb]; rfl,rfl,hw,trivial⟩
   · rw [ltB_f (by omega)]
     conv=>whnf
     rw [List.take_of_length_le (by omega)] at hx2
     rw [hx2,Bool.and_true] at hO
     rw [hlr]
     by_cases h2:(over.length:Int)≤2
     · rw [leB_t h2]
       conv=>whnf
       rw [decide_eq_true (show over.length≤2 by omega),Bool.true_and] at hO
       refine .inl (f2.mono ?_)
       rintro r rfl
       cases kt with
       | false =>
         conv=>whnf
         rw [hO]; rfl
       | true =>
         conv=>whnf
         rw [hO,leB_def,Bool.true_and]
         congr 1
         exact decide_eq_decide.2 (by omega)
     · rw [leB_f (by omega)]
       conv=>whnf
       rw [hO,decide_eq_false (show ¬ over.length≤2 by omega)]; rfl
end Go.Cod
set_option linter.all false
namespace Go.Cod
variable [Adr]
open Go Go.Proofs Go.ChangeShapes Go.WideShapes Go.ChangeAt Go.RowKit
set_option maxRecDepth 10000
set_option maxHeartbeats 4000000 in
theorem specCommitWrite_pure (c:Cm) (hc:c.Sm):Pure Tryd.prog 10 [.agg c.cells] (·=.str (writeC c)):=by
 have f1:=l9Ok_pure c hc
 have hO:writeC c=if okC c=true then textC c else []:=rfl
 have hT:textC c=ovT (c.over.drop 0) headC++[116,114,101,101,32]++c.tree++[10,110,111,116,101,32]++c.note++[10]:=rfl
 have hn:=hc.n
 have ho:=hc.o
 have ht:=hc.t
 have hx:=hc.x
 generalize writeC c=res at *
 generalize textC c=tx at *
 generalize okC c=ok at *
 obtain ⟨over,tree,note⟩:=c
 simp only [Cm.cells] at f1 hT hn ho ht hx ⊢
 have hlr:=srows_len over
 have hgr:=srows_get over
 generalize srows over=rows at *
 refine pure_of_awp good Tryd.func10 rfl (by kernel_rfl) (by decide) ?_
 conv=>whnf
 refine .inl (f1.mono ?_)
 rintro r rfl
 cases ok with
 | false =>
   conv=>whnf
   rw [hO]; rfl
 | true =>
   rw [if_pos rfl] at hO
   conv=>whnf
   refine loop_drop (fun n fr st=>∃ (i:Nat) (acc:List UInt8),n+i=over.length∧acc.length≤7+i*1048582∧ovT (over.drop 0) headC=ovT (over.drop i) acc∧st=[⟨[[.sl rows,.str tree,.str note]],3,true,true,true,.cell⟩] ∧
     Holds fr [(1,.ptr 0 0 0),(3,.str acc),(4,.int .i64 i)]) over.length none
    ⟨0,headC,rfl,by simp [headC],rfl,rfl,rfl,rfl,rfl,trivial⟩ ?_
   rintro n fr st ⟨i,acc,hi,hal,hov,rfl,hh⟩
   obtain ⟨fr,rfl⟩:=hh.split
   clear hh
   conv=>whnf
   by_cases hlt:i < over.length
   · rw [hlr,ltB_t (by omega)]
     conv=>whnf
     have hg:=hgr i hlt
     have hd:=ovT_drop over i hlt acc
     have hl:=ho over[i] (List.getElem_mem _)
     generalize over[i]=y at *
     have hacc:acc++([111,118,101,114,32]++y++[10])=acc++[111,118,101,114,32]++y++[10]:=by simp
     rw [hacc] at hd
     refine ⟨by simp; omega,?_⟩
     conv=>whnf
     refine ⟨by omega,rows,_,1,rfl,hg,rfl,rfl,?_⟩
     conv=>whnf
     refine ⟨by simp; omega,?_⟩
     conv=>whnf
     refine ⟨by simp; omega,?_⟩
     conv=>whnf
     refine ⟨n - 1,by omega,none,i+1,_,by omega,?_,hov.trans hd,rfl,rfl,rfl,?_,trivial⟩
     · simp only [List.length_append,List.length_cons,List.length_nil]; omega
     · show V.int .i64 (IntKind.i64.wrap (i+1))=_
       rw [wrap64 (by omega) (by omega)]; simp
   · rw [hlr,ltB_f (by omega)]
     have hil:i=over.length:=by omega
     subst hil
     rw [List.drop_length] at hov
     have hov:ovT (over.drop 0) headC=acc:=hov
     conv=>whnf
     refine ⟨by simp; omega,?_⟩
     conv=>whnf
     refine ⟨by simp; omega,?_⟩
     conv=>whnf
     refine ⟨by simp; omega,?_⟩
     conv=>whnf
     refine ⟨by simp; omega,?_⟩
     conv=>whnf
     refine ⟨by simp; omega,?_⟩
     conv=>whnf
     rw [hO,hT,hov]
end Go.Cod
set_option linter.all false
namespace Go.Cod
variable [Adr]
open Go Go.Proofs
set_option linter.all false
set_option maxRecDepth 10000
def overW:List UInt8:=[111,118,101,114,32]
def treeW:List UInt8:=[116,114,101,101,32]
def noteW:List UInt8:=[110,111,116,101,32]
def lineP:List UInt8→Option (List UInt8 × List UInt8)
 | []=>none
 | b::r=>if b=10 then some ([],r) else match lineP r with
   | none=>none
   | some (l,t)=>some (b::l,t)
def skipP (w s:List UInt8):Option (List UInt8):=if s.take w.length=w then some (s.drop w.length) else none
def tailP (os:List (List UInt8)) (s:List UInt8):Option Cm:=match skipP treeW s with
 | none=>none
 | some s1=>match lineP s1 with
   | none=>none
   | some (t,s2)=>match skipP noteW s2 with
     | none=>none
     | some s3=>match lineP s3 with
       | none=>none
       | some (n,_)=>some ⟨os,t,n⟩
def contP:Nat→List (List UInt8)→List UInt8→Option Cm
 | 0,_,_=>none
 | n+1,os,s=>match skipP overW s with
   | none=>tailP os s
   | some s1=>match lineP s1 with
     | none=>none
     | some (l,s2)=>contP n (os++[l]) s2
def cP (s:List UInt8):Option Cm:=match skipP headC s with
 | none=>none
 | some s1=>contP (s1.length+1) [] s1
def implR (s:List UInt8):Option Cm:=match cP s with
 | none=>none
 | some c=>if writeC c=s then some c else none
def cutL:List UInt8→List (List UInt8)
 | []=>[[]]
 | b::r=>if b=10 then []::cutL r else match cutL r with
   | []=>[[b]]
   | l::ls=>(b::l)::ls
def stepC (c:Cm) (l:List UInt8):Cm :=
 if l.length < 5 then c else if l.take 5=overW then ⟨c.over++[l.drop 5],c.tree,c.note⟩ else if l.take 5=treeW then ⟨c.over,l.drop 5,c.note⟩ else if l.take 5=noteW then ⟨c.over,c.tree,l.drop 5⟩ else c
def foldC (s:List UInt8):Cm:=(((cutL s).take 6).drop 1).foldl stepC ⟨[],[],[]⟩
def specR (s:List UInt8):Option Cm:=if s=[]∨writeC (foldC s)≠s then none else some (foldC s)
theorem lineP_line (l r:List UInt8) (h:(10:UInt8)∉l):lineP (l++10::r)=some (l,r):=by
 induction l with
 | nil=>rfl
 | cons b l ih =>
   have hb:b≠10:=fun e=>h (by simp [e])
   rw [List.cons_append,lineP,if_neg hb,ih (fun hm=>h (by simp [hm]))]
theorem cutL_line (l r:List UInt8) (h:(10:UInt8)∉l):cutL (l++10::r)=l::cutL r:=by
 induction l with
 | nil=>rfl
 | cons b l ih =>
   have hb:b≠10:=fun e=>h (by simp [e])
   rw [List.cons_append,cutL,if_neg hb,ih (fun hm=>h (by simp [hm]))]
theorem skipP_app (w r:List UInt8):skipP w (w++r)=some r:=by
 unfold skipP
 rw [List.take_left,if_pos rfl,List.drop_left]
theorem ovT_flat (ss:List (List UInt8)):∀ acc,ovT ss acc=acc++ss.flatMap fun k=>overW++k++[10]:=by
 induction ss with
 | nil=>intro acc; simp [ovT]
 | cons s ss ih =>
   intro acc
   rw [ovT,ih]
   simp [overW]
theorem hex_no10 {s:List UInt8} (h:keyL s=true):(10:UInt8)∉s:=fun hm=>by
 unfold keyL at h
 simp only [Bool.and_eq_true] at h
 have:=List.all_eq_true.1 h.1 _ hm
 exact absurd this (by decide)
theorem note_no10 {s:List UInt8} (h:s.all noteB=true):(10:UInt8)∉s:=fun hm=>by
 have:=List.all_eq_true.1 h _ hm
 exact absurd this (by decide)
theorem okC_parts {c:Cm} (h:okC c=true):(∀ k∈c.over,(10:UInt8)∉k)∧c.over.length≤2∧(10:UInt8)∉c.tree∧(10:UInt8)∉c.note:=by
 unfold okC overB at h
 simp only [Bool.and_eq_true,decide_eq_true_eq] at h
 obtain ⟨⟨⟨⟨⟨h1,h2⟩,_⟩,h3⟩,_⟩,h4⟩:=h
 exact ⟨fun k hk=>hex_no10 (List.all_eq_true.1 h2 k hk),h1,hex_no10 h3,note_no10 h4⟩
theorem textC_flat (c:Cm):textC c=headC++((c.over.flatMap fun k=>overW++k++[10])++(treeW++(c.tree++10::(noteW++(c.note++10::[]))))):=by
 unfold textC
 rw [ovT_flat]
 simp [treeW,noteW]
theorem cont_ok (t n:List UInt8) (ht:(10:UInt8)∉t) (hn:(10:UInt8)∉n) (ss:List (List UInt8)) (hs:∀ k∈ss,(10:UInt8)∉k):∀ (m:Nat) (acc:List (List UInt8)),ss.length < m →
  contP m acc ((ss.flatMap fun k=>overW++k++[10])++(treeW++(t++10::(noteW++(n++10::[])))))=some ⟨acc++ss,t,n⟩:=by
 induction ss with
 | nil =>
   intro m acc hm
   obtain ⟨m,rfl⟩:∃ k,m=k+1:=⟨m - 1,by simp at hm; omega⟩
   rw [List.flatMap_nil,List.nil_append,contP]
   have h1:skipP overW (treeW++(t++10::(noteW++(n++10::[]))))=none:=by
    unfold skipP
    rw [if_neg]
    simp [overW,treeW]
   rw [h1,tailP,skipP_app]
   simp only [lineP_line t _ ht,skipP_app,lineP_line n _ hn,List.append_nil]
 | cons k ss ih =>
   intro m acc hm
   obtain ⟨m,rfl⟩:∃ k,m=k+1:=⟨m - 1,by simp at hm; omega⟩
   have e:((k::ss).flatMap fun k=>overW++k++[10])++(treeW++(t++10::(noteW++(n++10::[]))))=overW++(k++10::((ss.flatMap fun k=>overW++k++[10])++(treeW++(t++10::(noteW++(n++10::[])))))):=by simp
   rw [e,contP,skipP_app]
   simp only [lineP_line k _ (hs k (by simp))]
   rw [ih (fun q hq=>hs q (by simp [hq])) m _ (by simp at hm; omega)]
   simp
theorem cP_ok {c:Cm} (h:okC c=true):cP (textC c)=some c:=by
 obtain ⟨h1,h2,h3,h4⟩:=okC_parts h
 rw [textC_flat,cP,skipP_app]
 simp only
 rw [cont_ok _ _ h3 h4 c.over h1]
 · rfl
 · simp only [List.length_append]
   have:c.over.length≤(c.over.flatMap fun k=>overW++k++[10]).length:=by
    generalize c.over=ss
    induction ss with
    | nil=>simp
    | cons k ss ih=>simp only [List.flatMap_cons,List.length_append,List.length_cons] at ih ⊢; omega
   omega
theorem cutL_over (ss:List (List UInt8)) (hs:∀ k∈ss,(10:UInt8)∉k) (r:List UInt8):cutL ((ss.flatMap fun k=>overW++k++[10])++r)=(ss.map fun k=>overW++k)++cutL r:=by
 induction ss with
 | nil=>rfl
 | cons k ss ih =>
   have e:((k::ss).flatMap fun k=>overW++k++[10])++r=(overW++k)++10::((ss.flatMap fun k=>overW++k++[10])++r):=by simp
   have hk:(10:UInt8)∉overW++k:=by
    intro hm
    rcases List.mem_append.1 hm with hm | hm
    · exact absurd hm (by decide)
    · exact hs k (by simp) hm
   rw [e,cutL_line _ _ hk,ih (fun q hq=>hs q (by simp [hq]))]
   rfl
theorem fold_over (ss:List (List UInt8)):∀ c:Cm,(ss.map fun k=>overW++k).foldl stepC c=⟨c.over++ss,c.tree,c.note⟩:=by
 induction ss with
 | nil=>intro c; simp
 | cons k ss ih =>
   intro c
   have e:stepC c (overW++k)=⟨c.over++[k],c.tree,c.note⟩:=by
    have h5:overW.length=5:=rfl
    unfold stepC
    rw [if_neg (by rw [List.length_append,h5]; omega),if_pos (by rw [show (5:Nat)=overW.length from rfl,List.take_left])]
    rw [show (5:Nat)=overW.length from rfl,List.drop_left]
   rw [List.map_cons,List.foldl_cons,e,ih]
   simp
theorem foldC_ok {c:Cm} (h:okC c=true):foldC (textC c)=c:=by
 obtain ⟨h1,h2,h3,h4⟩:=okC_parts h
 have e:textC c=[99,111,109,109,105,116]++10::((c.over.flatMap fun k=>overW++k++[10])++((treeW++c.tree)++10::((noteW++c.note)++10::[]))):=by
  rw [textC_flat]
  simp [headC]
 have ht:(10:UInt8)∉treeW++c.tree:=fun hm=>(List.mem_append.1 hm).elim (fun h=>absurd h (by decide)) h3
 have hn:(10:UInt8)∉noteW++c.note:=fun hm=>(List.mem_append.1 hm).elim (fun h=>absurd h (by decide)) h4
 have hc:cutL (textC c)=[99,111,109,109,105,116]::((c.over.map fun k=>overW++k)++[treeW++c.tree,noteW++c.note,[]]):=by
  rw [e,cutL_line _ _ (by decide),cutL_over c.over h1,cutL_line _ _ ht,cutL_line _ _ hn]
  rfl
 unfold foldC
 rw [hc,List.take_of_length_le (by simp; omega),List.drop_one,List.tail_cons,List.foldl_append,fold_over]
 obtain ⟨ov,t,n⟩:=c
 simp only [List.nil_append,List.foldl_cons,List.foldl_nil]
 have e1:stepC ⟨ov,[],[]⟩ (treeW++t)=⟨ov,t,[]⟩:=by
  simp [stepC,treeW,overW]
  intro h
  omega
 have e2:stepC ⟨ov,t,[]⟩ (noteW++n)=⟨ov,t,n⟩:=by
  simp [stepC,treeW,overW,noteW]
  intro h
  omega
 rw [e1,e2]
 simp [stepC]
theorem impl_spec (s:List UInt8):implR s=specR s:=by
 by_cases h:∃ c,okC c=true∧textC c=s
 · obtain ⟨c,hc,rfl⟩:=h
   have hw:writeC c=textC c:=by rw [writeC,if_pos hc]
   have hne:textC c≠[]:=by rw [textC_flat]; simp [headC]
   unfold implR specR
   rw [cP_ok hc,foldC_ok hc]
   simp only [hw,if_pos]
   rw [if_neg]
   simp [hne]
 · have hno:∀ c,s≠[]→writeC c≠s:=fun c hs e=>by
    unfold writeC at e
    split at e
    · rename_i hc
      exact h ⟨c,hc,e⟩
    · exact hs e.symm
   by_cases hs:s=[]
   · subst hs
     rfl
   · have h1:specR s=none:=by
      unfold specR
      rw [if_pos (.inr (hno _ hs))]
     rw [h1]
     unfold implR
     cases cP s with
     | none=>rfl
     | some c=>simp only; rw [if_neg (hno c hs)]
end Go.Cod
set_option linter.all false
namespace Go.Cod
variable [Adr]
open Go Go.Proofs
set_option linter.all false
set_option maxRecDepth 10000
theorem idx_cons (b:UInt8) (s:List UInt8):idx10 (b::s)=if b=10 then 0 else if idx10 s=-1 then -1 else idx10 s+1:=by
 unfold idx10
 rw [Lib.indexByte]
 by_cases h:b=10
 · simp [h]
 · simp [h]
theorem lineP_idx (s:List UInt8):(lineP s=none∧idx10 s=-1)∨∃ l r,lineP s=some (l,r)∧idx10 s=(l.length:Int)∧s=l++10::r:=by
 induction s with
 | nil=>exact .inl ⟨rfl,rfl⟩
 | cons b s ih =>
   rw [idx_cons,lineP]
   by_cases h:b=10
   · rw [if_pos h,if_pos h]
     exact .inr ⟨[],s,rfl,rfl,by simp [h]⟩
   · rw [if_neg h,if_neg h]
     rcases ih with ⟨h1,h2⟩ | ⟨l,r,h1,h2,h3⟩
     · rw [h1,h2]
       exact .inl ⟨rfl,rfl⟩
     · rw [h1,h2,if_neg (by omega)]
       exact .inr ⟨b::l,r,rfl,by simp,by rw [h3]; rfl⟩
def cutV (s:List UInt8):V:=match lineP s with
 | none=>.tup [.str s,.str [],.bool false]
 | some (l,r)=>.tup [.str l,.str r,.bool true]
theorem cut1_line (s:List UInt8) (hs:s.length≤4611686018427387904):Pure Tryd.prog 29 [.str s,.str [10]] (·=cutV s):=by
 have hi:=index_line s
 rcases lineP_idx s with ⟨h1,h2⟩ | ⟨l,r,h1,h2,h3⟩
 · rw [cutV,h1]
   rw [h2] at hi
   refine pure_of_awp good Tryd.func29 rfl (by kernel_rfl) (by decide) ?_
   conv=>whnf
   refine .inl (hi.mono ?_)
   rintro q rfl
   conv=>whnf
   rw [leB_f (by omega)]
   conv=>whnf
   rfl
 · rw [cutV,h1]
   rw [h2] at hi
   have hl:l.length+1≤s.length:=by rw [h3,List.length_append,List.length_cons]; omega
   refine pure_of_awp good Tryd.func29 rfl (by kernel_rfl) (by decide) ?_
   conv=>whnf
   refine .inl (hi.mono ?_)
   rintro q rfl
   conv=>whnf
   rw [leB_t (by omega)]
   conv=>whnf
   have w1:IntKind.i64.wrap ((l.length:Int)+1)=((l.length+1:Nat):Int):=by rw [wrap64 (by omega) (by omega)]; omega
   refine ⟨by omega,by omega,rfl,?_⟩
   conv=>whnf
   rw [show IntKind.i64.wrap ((l.length:Int)+(([10]:List UInt8).length:Int))=((l.length+1:Nat):Int) from w1]
   refine ⟨by omega,by omega,rfl,?_⟩
   conv=>whnf
   show V.tup [.str ((s.take l.length)),.str ((s.take s.length).drop (l.length+1)),.bool true]=_
   rw [List.take_length,h3]
   simp
theorem cut_line (s:List UInt8) (hs:s.length≤4611686018427387904):Pure Tryd.prog 26 [.str s,.str [10]] (·=cutV s):=by
 have h:=cut1_line s hs
 have hv:∃ a b c,cutV s=.tup [.str a,.str b,.bool c]:=by
  unfold cutV
  split
  · exact ⟨_,_,_,rfl⟩
  · exact ⟨_,_,_,rfl⟩
 obtain ⟨a,b,c,hv⟩:=hv
 rw [hv] at h ⊢
 refine pure_of_awp good Tryd.func26 rfl (by kernel_rfl) (by decide) ?_
 conv=>whnf
 refine .inl (h.mono ?_)
 rintro q rfl
 conv=>whnf
 rfl
def curO (s:List UInt8) (n:Nat):O:=⟨[[.str s,.int .i64 (n:Int)]],2,true,true,true,.cell⟩
theorem must_full (s:List UInt8) (n:Nat) (b:Bool):Full Tryd.prog noY 21 [.ptr 0 0 0,.bool b] [curO s n] fun o st'=>(b=true∧o=.ret (.tup [])∨b=false∧o=.pan (errV 0))∧st'=[curO s n]:=by
 cases b with
 | true =>
   refine full_of_awp good Tryd.func21 rfl (by kernel_rfl) (by decide) ?_
   conv=>whnf
   refine ⟨[],false,?_⟩
   conv=>whnf
   exact ⟨.inl ⟨rfl,rfl⟩,rfl⟩
 | false =>
   refine full_of_awp good Tryd.func21 rfl (by kernel_rfl) (by decide) ?_
   conv=>whnf
   refine ⟨[],false,?_⟩
   conv=>whnf
   exact ⟨.inr ⟨rfl,rfl⟩,rfl⟩
theorem hasPrefix1_pure (a w:List UInt8) (ha:a.length≤4611686018427387904):Pure Tryd.prog 28 [.str a,.str w] (·=.bool (decide (a.take w.length=w))):=by
 by_cases hl:w.length≤a.length
 · refine pure_of_awp good Tryd.func28 rfl (by kernel_rfl) (by decide) ?_
   conv=>whnf
   rw [leB_t (by omega)]
   conv=>whnf
   refine ⟨by omega,by omega,?_⟩
   conv=>whnf
   rw [Int.toNat_natCast,List.drop_zero,eqS_def]
 · have h:a.take w.length≠w:=fun e=>by
    have:=congrArg List.length e
    rw [List.length_take] at this
    omega
   rw [decide_eq_false h]
   refine pure_of_awp good Tryd.func28 rfl (by kernel_rfl) (by decide) ?_
   conv=>whnf
   rw [leB_f (by omega)]
   conv=>whnf
theorem hasPrefix_pure (a w:List UInt8) (ha:a.length≤4611686018427387904):Pure Tryd.prog 25 [.str a,.str w] (·=.bool (decide (a.take w.length=w))):=by
 have h:=hasPrefix1_pure a w ha
 generalize decide (a.take w.length=w)=b at *
 refine pure_of_awp good Tryd.func25 rfl (by kernel_rfl) (by decide) ?_
 conv=>whnf
 refine .inl (h.mono ?_)
 rintro q rfl
 conv=>whnf
def SkR (s:List UInt8) (n:Nat) (w:List UInt8) (o:Out) (st':St):Prop:=match skipP w (s.drop n) with
 | none=>o=.ret (.bool false)∧st'=[curO s n]
 | some _=>o=.ret (.bool true)∧st'=[curO s (n+w.length)]
theorem skip_full (s w:List UInt8) (n:Nat) (hs:s.length≤1048576) (hn:n≤s.length) (hw:w.length≤1048576):Full Tryd.prog noY 19 [.ptr 0 0 0,.str w] [curO s n] (SkR s n w):=by
 have hp:=hasPrefix_pure (s.drop n) w (by rw [List.length_drop]; omega)
 have hd:List.drop n (List.take s.length s)=s.drop n:=by rw [List.take_length]
 rw [← hd] at hp
 unfold SkR skipP
 by_cases h:(s.drop n).take w.length=w
 · rw [if_pos h]
   rw [hd,decide_eq_true h,← hd] at hp
   have hwn:n+w.length≤s.length:=by
    have:=congrArg List.length h
    rw [List.length_take,List.length_drop] at this
    omega
   refine full_of_awp good Tryd.func19 rfl (by kernel_rfl) (by decide) ?_
   conv=>whnf
   refine ⟨by omega,by omega,rfl,?_⟩
   conv=>whnf
   refine ⟨_,.inl hp,?_⟩
   conv=>whnf
   refine ⟨[],false,?_⟩
   conv=>whnf
   refine ⟨rfl,?_⟩
   show [O.mk [[.str s,.int .i64 (IntKind.i64.wrap ((n:Int)+(w.length:Int)))]] 2 true true true .cell]=[O.mk [[.str s,.int .i64 ((n+w.length:Nat):Int)]] 2 true true true .cell]
   rw [wrap64 (by omega) (by omega)]
   simp
 · rw [if_neg h]
   rw [hd,decide_eq_false h,← hd] at hp
   refine full_of_awp good Tryd.func19 rfl (by kernel_rfl) (by decide) ?_
   conv=>whnf
   refine ⟨by omega,by omega,rfl,?_⟩
   conv=>whnf
   refine ⟨_,.inl hp,?_⟩
   conv=>whnf
   refine ⟨[],false,?_⟩
   conv=>whnf
   exact ⟨rfl,rfl⟩
def WtR (s:List UInt8) (n:Nat) (w:List UInt8) (o:Out) (st':St):Prop:=match skipP w (s.drop n) with
 | none=>o=.pan (errV 0)∧st'=[curO s n]
 | some _=>o=.ret (.tup [])∧st'=[curO s (n+w.length)]
theorem want_full (s w:List UInt8) (n:Nat) (hs:s.length≤1048576) (hn:n≤s.length) (hw:w.length≤1048576):Full Tryd.prog noY 18 [.ptr 0 0 0,.str w] [curO s n] (WtR s n w):=by
 have hk:=skip_full s w n hs hn hw
 unfold SkR at hk
 unfold WtR
 cases h:skipP w (s.drop n) with
 | none =>
   rw [h] at hk
   refine full_of_awp good Tryd.func18 rfl (by kernel_rfl) (by decide) ?_
   conv=>whnf
   refine ⟨[0],false,?_⟩
   conv=>whnf
   refine hk.mono ?_
   rintro o st' ⟨rfl,rfl⟩
   conv=>whnf
   refine ⟨[0],false,?_⟩
   conv=>whnf
   refine (must_full s n false).mono ?_
   rintro o st' ⟨⟨hb,rfl⟩ | ⟨hb,rfl⟩,rfl⟩
   · cases hb
   · conv=>whnf
     refine ⟨[],false,?_⟩
     conv=>whnf
     exact ⟨rfl,rfl⟩
 | some r =>
   rw [h] at hk
   refine full_of_awp good Tryd.func18 rfl (by kernel_rfl) (by decide) ?_
   conv=>whnf
   refine ⟨[0],false,?_⟩
   conv=>whnf
   refine hk.mono ?_
   rintro o st' ⟨rfl,rfl⟩
   conv=>whnf
   refine ⟨[0],false,?_⟩
   conv=>whnf
   refine (must_full s (n+w.length) true).mono ?_
   rintro o st' ⟨⟨hb,rfl⟩ | ⟨hb,rfl⟩,rfl⟩
   · conv=>whnf
     refine ⟨[],false,?_⟩
     conv=>whnf
     exact ⟨rfl,rfl⟩
   · cases hb
def LnR (s:List UInt8) (n:Nat) (o:Out) (st':St):Prop:=match lineP (s.drop n) with
 | none=>o=.pan (errV 0)∧st'=[curO s n]
 | some (l,_)=>o=.ret (.str l)∧st'=[curO s (n+(l.length+1))]
theorem line_full (s:List UInt8) (n:Nat) (hs:s.length≤1048576) (hn:n≤s.length):Full Tryd.prog noY 20 [.ptr 0 0 0] [curO s n] (LnR s n):=by
 have hc:=cut_line (s.drop n) (by rw [List.length_drop]; omega)
 have hd:List.drop n (List.take s.length s)=s.drop n:=by rw [List.take_length]
 rw [← hd] at hc
 unfold LnR
 unfold cutV at hc
 rcases lineP_idx (s.drop n) with ⟨h1,_⟩ | ⟨l,r,h1,_,h3⟩
 · rw [h1]
   rw [hd,h1,← hd] at hc
   refine full_of_awp good Tryd.func20 rfl (by kernel_rfl) (by decide) ?_
   conv=>whnf
   refine ⟨by omega,by omega,rfl,?_⟩
   conv=>whnf
   refine ⟨_,.inl hc,?_⟩
   conv=>whnf
   refine ⟨[0],false,?_⟩
   conv=>whnf
   refine (must_full s n false).mono ?_
   rintro o st' ⟨⟨hb,rfl⟩ | ⟨hb,rfl⟩,rfl⟩
   · cases hb
   · conv=>whnf
     refine ⟨[],false,?_⟩
     conv=>whnf
     exact ⟨rfl,rfl⟩
 · rw [h1]
   rw [hd,h1,← hd] at hc
   have hl:n+(l.length+1)≤s.length:=by
    have:=congrArg List.length h3
    rw [List.length_drop,List.length_append,List.length_cons] at this
    omega
   refine full_of_awp good Tryd.func20 rfl (by kernel_rfl) (by decide) ?_
   conv=>whnf
   refine ⟨by omega,by omega,rfl,?_⟩
   conv=>whnf
   refine ⟨_,.inl hc,?_⟩
   conv=>whnf
   refine ⟨[0],false,?_⟩
   conv=>whnf
   refine (must_full s n true).mono ?_
   rintro o st' ⟨⟨hb,rfl⟩ | ⟨hb,rfl⟩,rfl⟩
   · conv=>whnf
     refine ⟨[],false,?_⟩
     conv=>whnf
     refine ⟨rfl,?_⟩
     show [O.mk [[.str s,.int .i64 (IntKind.i64.wrap ((n:Int)+IntKind.i64.wrap ((l.length:Int)+1)))]] 2 true true true .cell]=[O.mk [[.str s,.int .i64 ((n+(l.length+1):Nat):Int)]] 2 true true true .cell]
     rw [wrap64 (a:=(l.length:Int)+1) (by omega) (by omega),wrap64 (by omega) (by omega)]
     simp
   · cases hb
end Go.Cod
set_option linter.all false
namespace Go.Cod
variable [Adr]
open Go Go.Proofs
set_option linter.all false
set_option maxRecDepth 10000
def bx3 (cs:List V):O:=⟨[cs],3,true,true,true,.cell⟩
def ovV (ss:List (List UInt8)) (k:Nat):V:=match ss with
 | []=>.nils
 | _::_=>.own k
def ovO (ss:List (List UInt8)):List O:=match ss with
 | []=>[]
 | _::_=>[⟨srows ss,1,true,true,false,.cell⟩]
theorem ovO_snoc (a:List UInt8) (ss:List (List UInt8)) (b:List UInt8):ovO ((a::ss)++[b])=[⟨srows (a::ss)++[[.str b]],1,true,true,false,.cell⟩]:=by
 show [O.mk (srows ((a::ss)++[b])) 1 true true false .cell]=_
 rw [show srows ((a::ss)++[b])=srows (a::ss)++[[.str b]] by simp [srows]]
def CmR (s:List UInt8) (o:Out) (st':St):Prop:=∃ n':Nat,match implR s with
 | none=>o=.pan (errV 0)∧st'=[curO s n']
 | some c=>o=.ret (.agg [ovV c.over 1,.str c.tree,.str c.note])∧st'=[curO s n']++ovO c.over
set_option maxHeartbeats 4000000 in
theorem commit_full (s:List UInt8) (hs:s.length≤1048576):Full Tryd.prog noY 12 [.ptr 0 0 0] [curO s 0] (CmR s):=by
 have hw:=fun (w:List UInt8) (n:Nat) (hn:n≤s.length) (hw:w.length≤1048576)=>want_full s w n hs hn hw
 have hl:=fun (n:Nat) (hn:n≤s.length)=>line_full s n hs hn
 have hk:=fun (w:List UInt8) (n:Nat) (hn:n≤s.length) (hw:w.length≤1048576)=>skip_full s w n hs hn hw
 have hno:cP s=none→implR s=none:=fun h=>by rw [implR,h]
 have h1:=hw headC 0 (by omega) (by decide)
 unfold WtR at h1
 rw [List.drop_zero] at h1
 have hsk:∀ (w:List UInt8) (n:Nat) (r:List UInt8),skipP w (s.drop n)=some r→r=s.drop (n+w.length)∧(w≠[]→n+w.length≤s.length):=fun w n r h=>by
  unfold skipP at h
  split at h
  · rename_i e
    refine ⟨by rw [← List.drop_drop]; exact (Option.some.inj h).symm,fun hw=>?_⟩
    have:=congrArg List.length e
    rw [List.length_take,List.length_drop] at this
    have:0 < w.length:=List.length_pos_iff.2 hw
    omega
  · cases h
 have hafter:∀ (p:Nat) (r l r2:List UInt8),r=s.drop (p+5)→p+5≤s.length→lineP r=some (l,r2)→r2=s.drop (p+5+(l.length+1))∧p+5+(l.length+1)≤s.length∧l.length≤1048576:=fun p r l r2 h1 h2 h3=>by
  rcases lineP_idx r with ⟨h4,_⟩ | ⟨l',r',h4,_,h5⟩
  · rw [h4] at h3; cases h3
  · rw [h4] at h3
    cases h3
    have hlen:=congrArg List.length h5
    rw [h1,List.length_drop,List.length_append,List.length_cons] at hlen
    refine ⟨?_,by omega,by omega⟩
    rw [← List.drop_drop,← h1,h5]
    simp
 refine full_of_awp good Tryd.func12 rfl (by kernel_rfl) (by decide) ?_
 conv=>whnf
 refine ⟨[0],false,?_⟩
 conv=>whnf
 refine h1.mono ?_
 cases hh:skipP headC s with
 | none =>
   rintro o st' ⟨rfl,rfl⟩
   have hc:implR s=none:=hno (by rw [cP,hh])
   conv=>whnf
   refine ⟨[],false,?_⟩
   conv=>whnf
   refine ⟨0,?_⟩
   rw [hc]
   exact ⟨rfl,rfl⟩
 | some s1 =>
   rintro o st' ⟨rfl,rfl⟩
   have hh':=hsk headC 0 s1 (by rw [List.drop_zero]; exact hh)
   obtain ⟨hr1,hr2⟩:=hh'
   have hr2:=hr2 (by decide)
   have hc0:cP s=contP (s1.length+1) [] s1:=by rw [cP,hh]
   have hl1:s1.length=s.length - 7:=by rw [hr1,List.length_drop]; rfl
   have h7:headC.length=7:=rfl
   rw [h7] at hr1 hr2
   conv=>whnf
   refine loop_drop (fun n fr st=>∃ (p m:Nat) (acc:List (List UInt8)),n+p=s.length∧cP s=contP m acc (s.drop p)∧s.length - p < m∧acc.length≤p∧(∀ x∈acc,x.length≤1048576) ∧
     Holds fr [(0,.ptr 0 0 0),(2,.ptr 1 0 0),(3,.ptr 2 0 0)]∧st=[curO s p,bx3 [.nils,.str [],.str []],bx3 [ovV acc 3,.str [],.str []]]++ovO acc) (s.length - 7) none
    (by
      conv=>whnf
      exact ⟨7,s1.length+1,[],by omega,by rw [hc0,hr1],by omega,by simp,by simp,⟨rfl,rfl,rfl,trivial⟩,rfl⟩) ?_
   rintro n fr st ⟨p,m,acc,j1,j2,j3,j4,j5,hh2,rfl⟩
   obtain ⟨fr,rfl⟩:=hh2.split
   clear hh2
   obtain ⟨m,rfl⟩:∃ k,m=k+1:=⟨m - 1,by omega⟩
   have hk1:=hk overW p (by omega) (by decide)
   unfold SkR at hk1
   rw [contP] at j2
   cases hsk1:skipP overW (s.drop p) with
   | some r =>
     rw [hsk1] at hk1 j2
     simp only at j2
     obtain ⟨q1,q2⟩:=hsk overW p r hsk1
     have q2:=q2 (by decide)
     have h5:overW.length=5:=rfl
     rw [h5] at q1 q2 hk1
     have hln:=hl (p+5) (by omega)
     unfold LnR at hln
     rw [← q1] at hln
     cases acc with
     | nil =>
       conv=>whnf
       refine ⟨[0],false,?_⟩
       conv=>whnf
       refine hk1.mono ?_
       rintro o st' ⟨rfl,rfl⟩
       conv=>whnf
       refine ⟨[0],false,?_⟩
       conv=>whnf
       refine hln.mono ?_
       cases hlp:lineP r with
       | none =>
         rintro o st' ⟨rfl,rfl⟩
         rw [hlp] at j2
         simp only at j2
         have hc:implR s=none:=hno j2
         conv=>whnf
         intro fr'
         conv=>whnf
         refine ⟨[],false,?_⟩
         conv=>whnf
         refine ⟨p+5,?_⟩
         rw [hc]
         exact ⟨rfl,rfl⟩
       | some lr =>
         obtain ⟨l,r2⟩:=lr
         rintro o st' ⟨rfl,rfl⟩
         rw [hlp] at j2
         simp only at j2
         obtain ⟨t1,t2,t3⟩:=hafter p r l r2 q1 q2 hlp
         conv=>whnf
         repeat
          refine And.intro (by (conv=>whnf); rfl) ?_
          conv=>whnf
         refine ⟨fun m hm=>by rw [List.mem_singleton.1 hm]; rfl,?_⟩
         conv=>whnf
         refine ⟨by show 1*16≤_; omega,.inr ⟨(by intro e; cases e),?_⟩⟩
         conv=>whnf
         refine ⟨n - (5+(l.length+1)),by omega,some [0,1,2,4],?_⟩
         conv=>whnf
         exact ⟨p+5+(l.length+1),m,[l],by omega,by rw [← t1]; exact j2,by omega,by simp; omega,by intro x hx; rw [List.mem_singleton.1 hx]; exact t3,⟨rfl,rfl,rfl,trivial⟩,rfl⟩
     | cons a0 acc =>
       conv=>whnf
       refine ⟨[0],false,?_⟩
       conv=>whnf
       refine hk1.mono ?_
       rintro o st' ⟨rfl,rfl⟩
       conv=>whnf
       refine ⟨[0],false,?_⟩
       conv=>whnf
       refine hln.mono ?_
       cases hlp:lineP r with
       | none =>
         rintro o st' ⟨rfl,rfl⟩
         rw [hlp] at j2
         simp only at j2
         have hc:implR s=none:=hno j2
         conv=>whnf
         intro fr'
         conv=>whnf
         refine ⟨[],false,?_⟩
         conv=>whnf
         refine ⟨p+5,?_⟩
         rw [hc]
         exact ⟨rfl,rfl⟩
       | some lr =>
         obtain ⟨l,r2⟩:=lr
         rintro o st' ⟨rfl,rfl⟩
         rw [hlp] at j2
         simp only at j2
         obtain ⟨t1,t2,t3⟩:=hafter p r l r2 q1 q2 hlp
         conv=>whnf
         repeat
          refine And.intro (by (conv=>whnf); rfl) ?_
          conv=>whnf
         refine ⟨fun m hm=>by rw [List.mem_singleton.1 hm]; rfl,?_⟩
         conv=>whnf
         refine ⟨by
          show ((srows (a0::acc)).length+1)*16≤_
          rw [srows_len]; omega,?_⟩
         conv=>whnf
         refine ⟨n - (5+(l.length+1)),by omega,some [0,1,2,5],?_⟩
         conv=>whnf
         refine ⟨p+5+(l.length+1),m,(a0::acc)++[l],by omega,by rw [← t1]; exact j2,by omega,by simp at j4 ⊢; omega,?_,⟨rfl,rfl,rfl,trivial⟩,?_⟩
         · intro x hx
           rcases List.mem_append.1 hx with h | h
           · exact j5 x h
           · rw [List.mem_singleton.1 h]; exact t3
         · rw [ovO_snoc]
           rfl
   | none =>
     rw [hsk1] at hk1 j2
     simp only at j2
     have hw1:=hw treeW p (by omega) (by decide)
     unfold WtR at hw1
     cases acc with
     | nil =>
       conv=>whnf
       refine ⟨[0],false,?_⟩
       conv=>whnf
       refine hk1.mono ?_
       rintro o st' ⟨rfl,rfl⟩
       conv=>whnf
       refine ⟨[0],false,?_⟩
       conv=>whnf
       refine hw1.mono ?_
       cases hw2:skipP treeW (s.drop p) with
       | none =>
         rintro o st' ⟨rfl,rfl⟩
         have hc:implR s=none:=hno (by rw [j2,tailP,hw2])
         conv=>whnf
         refine ⟨[],false,?_⟩
         conv=>whnf
         refine ⟨p,?_⟩
         rw [hc]
         exact ⟨rfl,rfl⟩
       | some r1 =>
         rintro o st' ⟨rfl,rfl⟩
         obtain ⟨q1,q2⟩:=hsk treeW p r1 hw2
         have q2:=q2 (by decide)
         have h5:treeW.length=5:=rfl
         rw [h5] at q1 q2
         have hln:=hl (p+5) (by omega)
         unfold LnR at hln
         rw [← q1] at hln
         conv=>whnf
         refine ⟨[0],false,?_⟩
         conv=>whnf
         refine hln.mono ?_
         cases hlp:lineP r1 with
         | none =>
           rintro o st' ⟨rfl,rfl⟩
           have hc:implR s=none:=hno (by rw [j2,tailP,hw2]; simp only [hlp])
           conv=>whnf
           refine ⟨[],false,?_⟩
           conv=>whnf
           refine ⟨p+5,?_⟩
           rw [hc]
           exact ⟨rfl,rfl⟩
         | some lr =>
           obtain ⟨t,r2⟩:=lr
           rintro o st' ⟨rfl,rfl⟩
           obtain ⟨t1,t2,t3⟩:=hafter p r1 t r2 q1 q2 hlp
           have hw3:=hw noteW (p+5+(t.length+1)) (by omega) (by decide)
           unfold WtR at hw3
           rw [← t1] at hw3
           conv=>whnf
           refine ⟨[0],false,?_⟩
           conv=>whnf
           refine hw3.mono ?_
           cases hw4:skipP noteW r2 with
           | none =>
             rintro o st' ⟨rfl,rfl⟩
             have hc:implR s=none:=hno (by rw [j2,tailP,hw2]; simp only [hlp,hw4])
             conv=>whnf
             refine ⟨[],false,?_⟩
             conv=>whnf
             refine ⟨p+5+(t.length+1),?_⟩
             rw [hc]
             exact ⟨rfl,rfl⟩
           | some r3 =>
             rintro o st' ⟨rfl,rfl⟩
             have hw4':=hw4
             rw [t1] at hw4'
             obtain ⟨v1,v2⟩:=hsk noteW (p+5+(t.length+1)) r3 hw4'
             have v2:=v2 (by decide)
             have h6:noteW.length=5:=rfl
             rw [h6] at v1 v2
             have hln2:=hl (p+5+(t.length+1)+5) (by omega)
             unfold LnR at hln2
             rw [← v1] at hln2
             conv=>whnf
             refine ⟨[0],false,?_⟩
             conv=>whnf
             refine hln2.mono ?_
             cases hlq:lineP r3 with
             | none =>
               rintro o st' ⟨rfl,rfl⟩
               have hc:implR s=none:=hno (by rw [j2,tailP,hw2]; simp only [hlp,hw4,hlq])
               conv=>whnf
               refine ⟨[],false,?_⟩
               conv=>whnf
               refine ⟨p+5+(t.length+1)+5,?_⟩
               rw [hc]
               exact ⟨rfl,rfl⟩
             | some lr2 =>
               obtain ⟨nt,r4⟩:=lr2
               rintro o st' ⟨rfl,rfl⟩
               obtain ⟨u1,u2,u3⟩:=hafter (p+5+(t.length+1)) r3 nt r4 v1 v2 hlq
               have hwc:Pure Tryd.prog 22 [.agg [.sl [],.str t,.str nt]] (·=.str (writeC ⟨[],t,nt⟩)):=implCommitWrite_pure ⟨[],t,nt⟩ ⟨by simp,by simp,t3,u3⟩
               have hcp:cP s=some ⟨[],t,nt⟩:=by rw [j2,tailP,hw2]; simp only [hlp,hw4,hlq]
               have him:implR s=if writeC ⟨[],t,nt⟩=s then some ⟨[],t,nt⟩ else none:=by rw [implR,hcp]
               generalize writeC ⟨[],t,nt⟩=wc at *
               conv=>whnf
               refine .inl (hwc.mono ?_)
               rintro q rfl
               conv=>whnf
               repeat
                refine And.intro (by (conv=>whnf); rfl) ?_
                conv=>whnf
               refine ⟨[0],false,?_⟩
               conv=>whnf
               refine (must_full s (p+5+(t.length+1)+5+(nt.length+1)) (eqS wc s)).mono ?_
               rintro o st' ⟨⟨hb,rfl⟩ | ⟨hb,rfl⟩,rfl⟩
               · rw [if_pos (eqS_iff.1 hb)] at him
                 conv=>whnf
                 refine ⟨[],true,?_⟩
                 conv=>whnf
                 refine ⟨p+5+(t.length+1)+5+(nt.length+1),?_⟩
                 rw [him]
                 exact ⟨rfl,rfl⟩
               · rw [if_neg (eqS_nff.1 hb)] at him
                 conv=>whnf
                 intro fr'
                 conv=>whnf
                 refine ⟨[],false,?_⟩
                 conv=>whnf
                 refine ⟨p+5+(t.length+1)+5+(nt.length+1),?_⟩
                 rw [him]
                 exact ⟨rfl,rfl⟩
     | cons a0 acc =>
       conv=>whnf
       refine ⟨[0],false,?_⟩
       conv=>whnf
       refine hk1.mono ?_
       rintro o st' ⟨rfl,rfl⟩
       conv=>whnf
       refine ⟨[0],false,?_⟩
       conv=>whnf
       refine hw1.mono ?_
       cases hw2:skipP treeW (s.drop p) with
       | none =>
         rintro o st' ⟨rfl,rfl⟩
         have hc:implR s=none:=hno (by rw [j2,tailP,hw2])
         conv=>whnf
         refine ⟨[],false,?_⟩
         conv=>whnf
         refine ⟨p,?_⟩
         rw [hc]
         exact ⟨rfl,rfl⟩
       | some r1 =>
         rintro o st' ⟨rfl,rfl⟩
         obtain ⟨q1,q2⟩:=hsk treeW p r1 hw2
         have q2:=q2 (by decide)
         have h5:treeW.length=5:=rfl
         rw [h5] at q1 q2
         have hln:=hl (p+5) (by omega)
         unfold LnR at hln
         rw [← q1] at hln
         conv=>whnf
         refine ⟨[0],false,?_⟩
         conv=>whnf
         refine hln.mono ?_
         cases hlp:lineP r1 with
         | none =>
           rintro o st' ⟨rfl,rfl⟩
           have hc:implR s=none:=hno (by rw [j2,tailP,hw2]; simp only [hlp])
           conv=>whnf
           refine ⟨[],false,?_⟩
           conv=>whnf
           refine ⟨p+5,?_⟩
           rw [hc]
           exact ⟨rfl,rfl⟩
         | some lr =>
           obtain ⟨t,r2⟩:=lr
           rintro o st' ⟨rfl,rfl⟩
           obtain ⟨t1,t2,t3⟩:=hafter p r1 t r2 q1 q2 hlp
           have hw3:=hw noteW (p+5+(t.length+1)) (by omega) (by decide)
           unfold WtR at hw3
           rw [← t1] at hw3
           conv=>whnf
           refine ⟨[0],false,?_⟩
           conv=>whnf
           refine hw3.mono ?_
           cases hw4:skipP noteW r2 with
           | none =>
             rintro o st' ⟨rfl,rfl⟩
             have hc:implR s=none:=hno (by rw [j2,tailP,hw2]; simp only [hlp,hw4])
             conv=>whnf
             refine ⟨[],false,?_⟩
             conv=>whnf
             refine ⟨p+5+(t.length+1),?_⟩
             rw [hc]
             exact ⟨rfl,rfl⟩
           | some r3 =>
             rintro o st' ⟨rfl,rfl⟩
             have hw4':=hw4
             rw [t1] at hw4'
             obtain ⟨v1,v2⟩:=hsk noteW (p+5+(t.length+1)) r3 hw4'
             have v2:=v2 (by decide)
             have h6:noteW.length=5:=rfl
             rw [h6] at v1 v2
             have hln2:=hl (p+5+(t.length+1)+5) (by omega)
             unfold LnR at hln2
             rw [← v1] at hln2
             conv=>whnf
             refine ⟨[0],false,?_⟩
             conv=>whnf
             refine hln2.mono ?_
             cases hlq:lineP r3 with
             | none =>
               rintro o st' ⟨rfl,rfl⟩
               have hc:implR s=none:=hno (by rw [j2,tailP,hw2]; simp only [hlp,hw4,hlq])
               conv=>whnf
               refine ⟨[],false,?_⟩
               conv=>whnf
               refine ⟨p+5+(t.length+1)+5,?_⟩
               rw [hc]
               exact ⟨rfl,rfl⟩
             | some lr2 =>
               obtain ⟨nt,r4⟩:=lr2
               rintro o st' ⟨rfl,rfl⟩
               obtain ⟨u1,u2,u3⟩:=hafter (p+5+(t.length+1)) r3 nt r4 v1 v2 hlq
               have hwc:Full Tryd.prog noY 22 [.agg [.own 0,.str t,.str nt]] (ovO (a0::acc)) fun o st'=>o=.ret (.str (writeC ⟨a0::acc,t,nt⟩))∧st'=ovO (a0::acc):=own_callStr rfl rfl (fun Pr γ w cargs g hg ha hs=>rep_own3 hg ha hs) (implCommitWrite_pure ⟨a0::acc,t,nt⟩ ⟨by show (a0::acc).length≤_; omega,j5,t3,u3⟩)
               have hcp:cP s=some ⟨a0::acc,t,nt⟩:=by rw [j2,tailP,hw2]; simp only [hlp,hw4,hlq]
               have him:implR s=if writeC ⟨a0::acc,t,nt⟩=s then some ⟨a0::acc,t,nt⟩ else none:=by rw [implR,hcp]
               generalize writeC ⟨a0::acc,t,nt⟩=wc at *
               conv=>whnf
               refine ⟨[3],false,?_⟩
               conv=>whnf
               refine hwc.mono ?_
               rintro o st' ⟨rfl,rfl⟩
               conv=>whnf
               repeat
                refine And.intro (by (conv=>whnf); rfl) ?_
                conv=>whnf
               refine ⟨[0],false,?_⟩
               conv=>whnf
               refine (must_full s (p+5+(t.length+1)+5+(nt.length+1)) (eqS wc s)).mono ?_
               rintro o st' ⟨⟨hb,rfl⟩ | ⟨hb,rfl⟩,rfl⟩
               · rw [if_pos (eqS_iff.1 hb)] at him
                 conv=>whnf
                 refine ⟨[3],true,?_⟩
                 trace_state
                 conv=>whnf
                 refine ⟨p+5+(t.length+1)+5+(nt.length+1),?_⟩
                 rw [him]
                 exact ⟨rfl,rfl⟩
               · rw [if_neg (eqS_nff.1 hb)] at him
                 conv=>whnf
                 intro fr'
                 conv=>whnf
                 refine ⟨[],false,?_⟩
                 conv=>whnf
                 refine ⟨p+5+(t.length+1)+5+(nt.length+1),?_⟩
                 rw [him]
                 exact ⟨rfl,rfl⟩
end Go.Cod
set_option linter.all false
namespace Go.Cod
variable [Adr]
open Go Go.Proofs Go.RowKit
set_option maxRecDepth 100000
theorem catchPCommit (p:Addr) (x:Bool) (u:TypeId) (pv:Value) (older:List PanicEntry) (w:World) (hc:w.cell? p=some (.bool x)) (hz:w.frozen? p=false) :
  CallsD Tryd.prog 17 #[.pointer (some p)] (.panicking ({ v:=.iface u pv,recovered:=false }::older)) w fun e u' w' =>
   e=.returned (.tuple #[])∧u'=.panicking ({ v:=.iface u pv,recovered:=true }::older)∧w'=w.setCell p (.bool false):=by
 have hn:=fun w=>run_equal_nil_iface (P:=Tryd.prog) (d:=u) (u:=pv) Tryd.underlying20 w
 refine callsD_of_wpS Tryd.func17 rfl fun c₀ cs hu=>?_
 apply wpS_region
 simp [wpOpsS,go_sem,recoverD,hu,Tryd.ntmps17,Exit.thenS,hc,hz,bodyPostS,results,Tryd.results17,binOp,hn]
theorem catchICommit (p:Addr) (x:Bool) (w:World) (hc:w.cell? p=some (.bool x)) (hz:w.frozen? p=false) :
  CallsD Tryd.prog 17 #[.pointer (some p)] .returning w fun e u' w'=>e=.returned (.tuple #[])∧u'=.returning∧w'=w.setCell p (.bool true):=by
 have hn:=fun w=>run_equal_nil_nil (P:=Tryd.prog) Tryd.underlying20 w
 refine callsD_of_wpS Tryd.func17 rfl fun c₀ cs hu=>?_
 apply wpS_region
 simp [wpOpsS,go_sem,recoverD,hu,Tryd.ntmps17,Exit.thenS,hc,hz,bodyPostS,results,Tryd.results17,binOp,hn]
 cases c₀
 simp_all
def svCommit (cv:Value):Prop:=∃ a0 a1 a2,cv=.agg #[a0,a1,a2]∧a0.oneCell'=true∧a1.oneCell'=true∧a2.oneCell'=true
def fitsCommit (cargs gcargs:List Value):Prop:=∃ p,cargs=[.func (.func 12) #[p] #[]]∧gcargs=[p]
set_option maxHeartbeats 4000000 in
theorem bodyCommit (w:World) (cargs gcargs:List Value) (Q:World→Ending→World→Prop) (hf:fitsCommit cargs gcargs)
  (hcall:∀ w2,Grew2 w w2→Calls Tryd.prog 12 gcargs.toArray w2 (Q w2))
  (hQ:∀ w2 e W,Grew2 w w2→Q w2 e W→W.heap[w.heap.size]? = w2.heap[w.heap.size]? ∧ W.heap[w.heap.size+1]? = w2.heap[w.heap.size+1]? ∧ ((∃ cv,e=.returned cv∧svCommit cv)∨∃ u v,e=.panicked [{ v:=.iface u v,recovered:=false }])) :
  Calls Tryd.prog 11 cargs.toArray w fun e5 w5=>∃ w2 e W,Grew2 w w2∧Q w2 e W∧Sets w.heap.size W w5∧((∃ cv,e=.returned cv∧e5=.returned (.tuple #[cv,.bool true]))∨∃ u v,e=.panicked [{ v:=.iface u v,recovered:=false }]∧e5=.returned (.tuple #[.agg #[.slice none 0 0,.string ⟨#[]⟩,.string ⟨#[]⟩],.bool false])):=by
 have hmf:∀ (fn:Fn) (first cap:Array Value) (w:World),(Instr.makeFunc fn first cap).run Tryd.prog w=.ok (.func fn first cap) w:=fun _ _ _ _=>rfl
 obtain ⟨p,rfl,rfl⟩:=hf
 go_enter_defers Tryd.func11,Tryd.ntmps11
 go_wp2_with (go_at_call 12; refine (hcall _ ?_).mono ?_)
 · exact grew2_alloc _ _ _
 intro e W hq
 obtain ⟨h1,h2,h3⟩:=hQ _ e W (grew2_alloc _ _ _) hq
 have h1:W.heap[w.heap.size]? = some (.cells #[.slice none 0 0,.string ⟨#[]⟩,.string ⟨#[]⟩] 24 (0,0)):=h1.trans (alloc2_at0 _ _ _)
 have h2:W.heap[w.heap.size+1]? = some (.cells #[.bool false] 4 (0,0)):=h2.trans (alloc2_at1 _ _ _)
 have cb:W.cell? ⟨w.heap.size+1,0,none⟩=some (.bool false):=by simp [World.cell?,h2]
 have f0:∀ o,W.frozen? ⟨w.heap.size,o,none⟩=false:=fun o=>by simp [World.frozen?,h1]
 have f1:∀ o,W.frozen? ⟨w.heap.size+1,o,none⟩=false:=fun o=>by simp [World.frozen?,h2]
 have c0:W.cell? ⟨w.heap.size,0,none⟩=some (.slice none 0 0):=by simp [World.cell?,h1]
 have c1:W.cell? ⟨w.heap.size,1,none⟩=some (.string ⟨#[]⟩):=by simp [World.cell?,h1]
 have c2:W.cell? ⟨w.heap.size,2,none⟩=some (.string ⟨#[]⟩):=by simp [World.cell?,h1]
 rcases h3 with ⟨_,rfl,a0,a1,a2,rfl,g0,g1,g2⟩ | ⟨u,v,rfl⟩
 · have d0:W.cell? ⟨w.heap.size,0,none⟩=some (.slice none 0 0):=by exact c0
   have s0:=run_store_cell (P:=Tryd.prog) g0 d0 (by exact f0 0)
   have d1:(W.setCell ⟨w.heap.size,0,none⟩ a0).cell? ⟨w.heap.size,1,none⟩=some (.string ⟨#[]⟩):=by rw [World.cell?_setCell_other _ _ _ _ (by simp)]; exact c1
   have s1:=run_store_cell (P:=Tryd.prog) g1 d1 (by rw [World.frozen?_setCell]; exact f0 1)
   have d2:((W.setCell ⟨w.heap.size,0,none⟩ a0).setCell ⟨w.heap.size,1,none⟩ a1).cell? ⟨w.heap.size,2,none⟩=some (.string ⟨#[]⟩):=by rw [World.cell?_setCell_other _ _ _ _ (by simp),World.cell?_setCell_other _ _ _ _ (by simp)]; exact c2
   have s2:=run_store_cell (P:=Tryd.prog) g2 d2 (by rw [World.frozen?_setCell,World.frozen?_setCell]; exact f0 2)
   go_wp2
   refine leaves_cons (f:=17) (args:=#[.pointer (some ⟨w.heap.size+1,0,none⟩)]) (by simp) (by simp [go_sem]) ?_
   refine (catchICommit ⟨w.heap.size+1,0,none⟩ false _ ?_ ?_).mono ?_
   · rw [World.cell?_setCell_other _ _ _ _ (by simp),World.cell?_setCell_other _ _ _ _ (by simp),World.cell?_setCell_other _ _ _ _ (by simp)]; exact cb
   · rw [World.frozen?_setCell,World.frozen?_setCell,World.frozen?_setCell]; exact f1 0
   rintro e u' w'' ⟨rfl,rfl,rfl⟩
   have r0:((((W.setCell ⟨w.heap.size,0,none⟩ a0).setCell ⟨w.heap.size,1,none⟩ a1).setCell ⟨w.heap.size,2,none⟩ a2).setCell ⟨w.heap.size+1,0,none⟩ (.bool true)).cell? ⟨w.heap.size,0,none⟩=some a0:=by
    rw [World.cell?_setCell_other _ _ _ _ (by simp),World.cell?_setCell_other _ _ _ _ (by simp),World.cell?_setCell_other _ _ _ _ (by simp)]; exact World.cell?_setCell_same _ _ _ d0
   have r1:((((W.setCell ⟨w.heap.size,0,none⟩ a0).setCell ⟨w.heap.size,1,none⟩ a1).setCell ⟨w.heap.size,2,none⟩ a2).setCell ⟨w.heap.size+1,0,none⟩ (.bool true)).cell? ⟨w.heap.size,1,none⟩=some a1:=by
    rw [World.cell?_setCell_other _ _ _ _ (by simp),World.cell?_setCell_other _ _ _ _ (by simp)]; exact World.cell?_setCell_same _ _ _ d1
   have r2:((((W.setCell ⟨w.heap.size,0,none⟩ a0).setCell ⟨w.heap.size,1,none⟩ a1).setCell ⟨w.heap.size,2,none⟩ a2).setCell ⟨w.heap.size+1,0,none⟩ (.bool true)).cell? ⟨w.heap.size,2,none⟩=some a2:=by
    rw [World.cell?_setCell_other _ _ _ _ (by simp)]; exact World.cell?_setCell_same _ _ _ d2
   have rb:((((W.setCell ⟨w.heap.size,0,none⟩ a0).setCell ⟨w.heap.size,1,none⟩ a1).setCell ⟨w.heap.size,2,none⟩ a2).setCell ⟨w.heap.size+1,0,none⟩ (.bool true)).cell? ⟨w.heap.size+1,0,none⟩=some (.bool true):=by
    refine World.cell?_setCell_same _ _ _ (u:=.bool false) ?_
    rw [World.cell?_setCell_other _ _ _ _ (by simp),World.cell?_setCell_other _ _ _ _ (by simp),World.cell?_setCell_other _ _ _ _ (by simp)]; exact cb
   have hS:=((((Sets.refl w.heap.size W).set ⟨w.heap.size,0,none⟩ a0 (.inl rfl)).set ⟨w.heap.size,1,none⟩ a1 (.inl rfl)).set ⟨w.heap.size,2,none⟩ a2 (.inl rfl)).set ⟨w.heap.size+1,0,none⟩ (.bool true) (.inr rfl)
   generalize ((((W.setCell ⟨w.heap.size,0,none⟩ a0).setCell ⟨w.heap.size,1,none⟩ a1).setCell ⟨w.heap.size,2,none⟩ a2).setCell ⟨w.heap.size+1,0,none⟩ (.bool true))=W5 at *
   simp [Leaves,settle,results,Tryd.results11,go_sem,r0,r1,r2,rb]
   trace_state
   first | exact ⟨_,grew2_alloc _ _ _,_,W,hq,hS,rfl⟩ | exact ⟨_,W,⟨_,grew2_alloc _ _ _,hq⟩,hS,rfl⟩ | exact ⟨_,_,W,grew2_alloc _ _ _,hq,hS,rfl⟩
 · go_wp2
   refine leaves_cons (f:=17) (args:=#[.pointer (some ⟨w.heap.size+1,0,none⟩)]) (by simp) (by simp [go_sem]) ?_
   refine (catchPCommit ⟨w.heap.size+1,0,none⟩ false u v [] _ cb (f1 0)).mono ?_
   rintro e u' w'' ⟨rfl,rfl,rfl⟩
   have r0:(W.setCell ⟨w.heap.size+1,0,none⟩ (.bool false)).cell? ⟨w.heap.size,0,none⟩=some (.slice none 0 0):=by
    rw [World.cell?_setCell_other _ _ _ _ (by simp)]; exact c0
   have r1:(W.setCell ⟨w.heap.size+1,0,none⟩ (.bool false)).cell? ⟨w.heap.size,1,none⟩=some (.string ⟨#[]⟩):=by
    rw [World.cell?_setCell_other _ _ _ _ (by simp)]; exact c1
   have r2:(W.setCell ⟨w.heap.size+1,0,none⟩ (.bool false)).cell? ⟨w.heap.size,2,none⟩=some (.string ⟨#[]⟩):=by
    rw [World.cell?_setCell_other _ _ _ _ (by simp)]; exact c2
   have rb:(W.setCell ⟨w.heap.size+1,0,none⟩ (.bool false)).cell? ⟨w.heap.size+1,0,none⟩=some (.bool false):=World.cell?_setCell_same _ _ _ cb
   have hS:=(Sets.refl w.heap.size W).set ⟨w.heap.size+1,0,none⟩ (.bool false) (.inr rfl)
   generalize (W.setCell ⟨w.heap.size+1,0,none⟩ (.bool false))=W5 at *
   simp [Leaves,settle,results,Tryd.results11,go_sem,r0,r1,r2,rb]
   first | exact ⟨_,grew2_alloc _ _ _,_,W,hq,hS,u,v,rfl⟩ | exact ⟨_,W,⟨_,grew2_alloc _ _ _,hq⟩,hS,u,v,rfl⟩
theorem zeroCommit (Pr γ) (w:World):Rep Pr γ w (.agg [.nils,.str [],.str []]) (.agg #[.slice none 0 0,.string ⟨#[]⟩,.string ⟨#[]⟩]):=by
 have:=RepL.nil (Pr:=Pr) (γ:=γ) (w:=w)
 have:=RepL.cons (.str []) this
 have:=RepL.cons (.str []) this
 have:=RepL.cons (.nils none) this
 exact Rep.agg this.1 this.2
theorem readTextCommit {ok:OkY} {st0:St} {p:V} {σ:List Nat} {kn:Bool} {K Z:V→St→Prop} {R:Out→St→Prop} (hA:ACallG Tryd.prog ok 12 [p] st0 σ kn K Z)
  (hK:∀ v st',K v st'→(∃ a0 a1 a2,v=.agg [a0,a1,a2]∧a0.leaf=true∧a1.leaf=true∧a2.leaf=true)∧R (.ret (.tup [v,.bool true])) st')
  (hZ:∀ v st',Z v st'→((∃ u x,v=.iface u x)∨∃ u x,v=.raw (.iface u x))∧R (.ret (.tup [.agg [.nils,.str [],.str []],.bool false])) st') :
  Full Tryd.prog ok 11 [.bnd 12 p] st0 R:=by
 refine full_frame (Fits:=fitsCommit) (SV:=svCommit) ⟨_,Tryd.func11,by kernel_rfl,by kernel_rfl⟩ hA (fun Pr γ w cargs h=>?_) bodyCommit zeroCommit (fun v st' Pr γ w cv h hr=>?_) (fun v st' Pr γ w cv h hr=>?_) (fun v st' h=>(hK v st' h).2) (fun v st' h=>(hZ v st' h).2)
 · obtain ⟨hl,hr⟩:=h
   match cargs,hl with
   | [c],_ =>
     have h0:=hr 0 _ _ rfl rfl
     cases h0 with
     | @bnd _ _ u hu=>exact ⟨[u],RepL.cons hu RepL.nil,u,rfl,rfl⟩
 · obtain ⟨a0,a1,a2,rfl,g0,g1,g2⟩:=(hK v st' h).1
   cases hr with
   | @agg _ us hl hr =>
   match us,hl with
   | [u0,u1,u2],_ =>
     exact ⟨u0,u1,u2,rfl,(hr 0 _ _ rfl rfl).leaf g0,(hr 1 _ _ rfl rfl).leaf g1,(hr 2 _ _ rfl rfl).leaf g2⟩
 · rcases (hZ v st' h).1 with ⟨u,x,rfl⟩ | ⟨u,x,rfl⟩
   · cases hr; exact ⟨_,_,rfl⟩
   · cases hr; exact ⟨_,_,rfl⟩
end Go.Cod
set_option linter.all false
namespace Go.Cod
variable [Adr]
open Go Go.Proofs
set_option linter.all false
set_option maxRecDepth 10000
def RdR (s:List UInt8) (o:Out) (st':St):Prop:=match implR s with
 | none=>o=.ret (.tup [.agg [.nils,.str [],.str []],.bool false])∧st'=[]
 | some c=>o=.ret (.tup [.agg [ovV c.over 0,.str c.tree,.str c.note],.bool true])∧st'=ovO c.over
def RtR (s:List UInt8) (o:Out) (st':St):Prop:=∃ n':Nat,match implR s with
 | none=>o=.ret (.tup [.agg [.nils,.str [],.str []],.bool false])∧st'=[curO s n']
 | some c=>o=.ret (.tup [.agg [ovV c.over 1,.str c.tree,.str c.note],.bool true])∧st'=[curO s n']++ovO c.over
theorem read_full (s:List UInt8) (hs:s.length≤1048576):Full Tryd.prog noY 11 [.bnd 12 (.ptr 0 0 0)] [curO s 0] (RtR s):=by
 have hc:=commit_full s hs
 refine readTextCommit (σ:=[0]) (kn:=false) (K:=fun v st'=>CmR s (.ret v) st') (Z:=fun v st'=>CmR s (.pan v) st') ?_ ?_ ?_
 · conv=>whnf
   refine hc.mono ?_
   rintro o st' ⟨n',h⟩
   cases hi:implR s with
   | none =>
     rw [hi] at h
     obtain ⟨rfl,rfl⟩:=h
     show CmR s (.pan _) _
     refine ⟨n',?_⟩
     rw [hi]
     exact ⟨rfl,rfl⟩
   | some c =>
     rw [hi] at h
     obtain ⟨rfl,rfl⟩:=h
     show CmR s (.ret _) _
     refine ⟨n',?_⟩
     rw [hi]
     obtain ⟨ov,t,n⟩:=c
     cases ov with
     | nil=>exact ⟨rfl,rfl⟩
     | cons a ov=>exact ⟨rfl,rfl⟩
 · rintro v st' ⟨n',h⟩
   refine ⟨?_,n',?_⟩
   · cases hi:implR s with
     | none=>rw [hi] at h; cases h.1
     | some c =>
       rw [hi] at h
       obtain ⟨h1,_⟩:=h
       cases h1
       exact ⟨_,_,_,rfl,by cases c.over <;> rfl,rfl,rfl⟩
   · cases hi:implR s with
     | none=>rw [hi] at h; cases h.1
     | some c =>
       rw [hi] at h
       obtain ⟨h1,h2⟩:=h
       cases h1
       exact ⟨rfl,h2⟩
 · rintro v st' ⟨n',h⟩
   refine ⟨?_,n',?_⟩
   · cases hi:implR s with
     | none=>rw [hi] at h; obtain ⟨h1,_⟩:=h; cases h1; exact .inr ⟨_,_,rfl⟩
     | some c =>
       rw [hi] at h
       cases h.1
   · cases hi:implR s with
     | none=>rw [hi] at h; exact ⟨rfl,h.2⟩
     | some c =>
       rw [hi] at h
       cases h.1
theorem implCommitRead_full (s:List UInt8) (hs:s.length≤1048576):Full Tryd.prog noY 5 [.str s] [] (RdR s):=by
 have h:=read_full s hs
 refine full_of_awp good Tryd.func5 rfl (by kernel_rfl) (by decide) ?_
 conv=>whnf
 refine ⟨[1],false,?_⟩
 conv=>whnf
 refine h.mono ?_
 unfold RtR RdR
 rintro o st' ⟨n',h⟩
 cases hi:implR s with
 | none =>
   rw [hi] at h
   obtain ⟨rfl,rfl⟩:=h
   conv=>whnf
   refine ⟨[],true,?_⟩
   conv=>whnf
   exact ⟨rfl,rfl⟩
 | some c =>
   rw [hi] at h
   obtain ⟨rfl,rfl⟩:=h
   obtain ⟨ov,t,n⟩:=c
   cases ov with
   | nil =>
     conv=>whnf
     refine ⟨[],true,?_⟩
     conv=>whnf
     exact ⟨rfl,rfl⟩
   | cons a ov =>
     conv=>whnf
     refine ⟨[2],false,?_⟩
     conv=>whnf
     exact ⟨rfl,rfl⟩
end Go.Cod
set_option linter.all false
namespace Go.Cod
variable [Adr]
open Go Go.Proofs
set_option linter.all false
set_option maxRecDepth 10000
theorem cutL_no (s:List UInt8) (h:(10:UInt8)∉s):cutL s=[s]:=by
 induction s with
 | nil=>rfl
 | cons b s ih =>
   rw [cutL,if_neg (fun e=>h (by simp [e])),ih (fun hm=>h (by simp [hm]))]
def CtR (s:List UInt8) (o:Out) (st':St):Prop:=o=.ret (ovV (cutL s) 0)∧st'=ovO (cutL s)
set_option maxHeartbeats 2000000 in
theorem cut_full (s:List UInt8) (hs:s.length≤1048576):Full Tryd.prog noY 9 [.str s,.int .u8 10] [] (CtR s):=by
 refine full_of_awp good Tryd.func9 rfl (by kernel_rfl) (by decide) ?_
 conv=>whnf
 refine loop_drop (fun n fr st=>∃ (i f:Nat) (acc:List (List UInt8)),n+i=s.length∧f≤i∧acc.length≤i∧cutL s=acc++cutL (s.drop f)∧(10:UInt8)∉(s.take i).drop f ∧
   Holds fr [(0,.str s),(1,.int .u8 10),(5,ovV acc 0),(6,.int .i64 f),(7,.int .i64 i)]∧st=ovO acc) s.length none
  (by
    conv=>whnf
    exact ⟨0,0,[],by omega,by omega,by simp,by simp,by simp,⟨rfl,rfl,rfl,rfl,rfl,trivial⟩,rfl⟩) ?_
 rintro n fr st ⟨i,f,acc,j1,j2,j3,j4,j5,hh,rfl⟩
 obtain ⟨fr,rfl⟩:=hh.split
 clear hh
 by_cases hlt:i < s.length
 · have hg:s[i]? = some s[i]:=List.getElem?_eq_getElem hlt
   have hsp:s=s.take i++s[i]::s.drop (i+1):=by rw [← List.drop_eq_getElem_cons hlt,List.take_append_drop]
   have hdf:s.drop f=(s.take i).drop f++s[i]::s.drop (i+1):=by
    conv=>lhs; rw [hsp]
    rw [List.drop_append_of_le_length (by simp; omega)]
   have htk:(s.take (i+1)).drop f=(s.take i).drop f++[s[i]]:=by
    rw [List.take_succ_eq_append_getElem hlt,List.drop_append_of_le_length (by simp; omega)]
   by_cases hb:s[i]=10
   · rw [hb] at hg
     have hc:cutL (s.drop f)=(s.take i).drop f::cutL (s.drop (i+1)):=by rw [hdf,hb,cutL_line _ _ j5]
     have hw:IntKind.i64.wrap ((i:Int)+1)=((i+1:Nat):Int):=by rw [wrap64 (by omega) (by omega)]; omega
     cases acc with
     | nil =>
       conv=>whnf
       rw [ltB_t (by omega)]
       conv=>whnf
       refine ⟨by omega,10,hg,?_⟩
       conv=>whnf
       rw [eqB_t (by decide)]
       conv=>whnf
       refine ⟨by omega,by omega,by omega,?_⟩
       conv=>whnf
       refine ⟨by omega,?_⟩
       conv=>whnf
       refine ⟨fun m hm=>by rw [List.mem_singleton.1 hm]; rfl,?_⟩
       conv=>whnf
       refine ⟨by show 1*16≤_; omega,.inr ⟨(by intro e; cases e),?_⟩⟩
       conv=>whnf
       refine ⟨n - 1,by omega,some [1],?_⟩
       conv=>whnf
       refine ⟨i+1,i+1,[]++[(s.take i).drop f],by omega,by omega,?_,?_,?_,⟨rfl,rfl,?_,?_,?_,trivial⟩,?_⟩
       · simp at j3 ⊢ <;> omega
       · rw [j4,hc]; simp
       · simp
       · rfl
       · exact congrArg (V.int .i64) hw
       · exact congrArg (V.int .i64) hw
       · rfl
     | cons a acc =>
       conv=>whnf
       rw [ltB_t (by omega)]
       conv=>whnf
       refine ⟨by omega,10,hg,?_⟩
       conv=>whnf
       rw [eqB_t (by decide)]
       conv=>whnf
       refine ⟨by omega,by omega,by omega,?_⟩
       conv=>whnf
       refine ⟨by omega,?_⟩
       conv=>whnf
       refine ⟨fun m hm=>by rw [List.mem_singleton.1 hm]; rfl,?_⟩
       conv=>whnf
       refine ⟨by
        show ((srows (a::acc)).length+1)*16≤_
        rw [srows_len]; omega,?_⟩
       conv=>whnf
       refine ⟨n - 1,by omega,some [2],?_⟩
       conv=>whnf
       refine ⟨i+1,i+1,(a::acc)++[(s.take i).drop f],by omega,by omega,?_,?_,?_,⟨rfl,rfl,?_,?_,?_,trivial⟩,?_⟩
       · simp at j3 ⊢; omega
       · rw [j4,hc]; simp
       · simp
       · rfl
       · exact congrArg (V.int .i64) hw
       · exact congrArg (V.int .i64) hw
       · rw [ovO_snoc]; rfl
   · have hb':((s[i].toNat:Nat):Int)≠10:=fun e=>hb (UInt8.toNat_inj.1 (by rw [show (10:UInt8).toNat=10 from rfl]; omega))
     have hno:(10:UInt8)∉(s.take (i+1)).drop f:=by
      rw [htk]
      simp only [List.mem_append,List.mem_singleton,not_or]
      exact ⟨j5,fun e=>hb e.symm⟩
     have hw:IntKind.i64.wrap ((i:Int)+1)=((i+1:Nat):Int):=by rw [wrap64 (by omega) (by omega)]; omega
     cases acc with
     | nil =>
       conv=>whnf
       rw [ltB_t (by omega)]
       conv=>whnf
       refine ⟨by omega,_,hg,?_⟩
       conv=>whnf
       rw [eqB_f hb']
       conv=>whnf
       refine ⟨n - 1,by omega,none,i+1,f,[],by omega,by omega,by simp,j4,hno,⟨rfl,rfl,rfl,rfl,?_,trivial⟩,rfl⟩
       exact congrArg (V.int .i64) hw
     | cons a acc =>
       conv=>whnf
       rw [ltB_t (by omega)]
       conv=>whnf
       refine ⟨by omega,_,hg,?_⟩
       conv=>whnf
       rw [eqB_f hb']
       conv=>whnf
       refine ⟨n - 1,by omega,none,i+1,f,a::acc,by omega,by omega,by omega,j4,hno,⟨rfl,rfl,rfl,rfl,?_,trivial⟩,rfl⟩
       exact congrArg (V.int .i64) hw
 · obtain rfl:i=s.length:=by omega
   rw [List.take_length] at j5
   rw [cutL_no _ j5] at j4
   cases acc with
   | nil =>
     conv=>whnf
     rw [ltB_f (by omega)]
     conv=>whnf
     refine ⟨by omega,by omega,?_⟩
     conv=>whnf
     refine ⟨fun m hm=>by rw [List.mem_singleton.1 hm]; rfl,?_⟩
     conv=>whnf
     refine ⟨by show 1*16≤_; omega,.inr ⟨(by intro e; cases e),?_⟩⟩
     conv=>whnf
     refine ⟨[1],false,?_⟩
     conv=>whnf
     rw [j4]
     refine ⟨rfl,?_⟩
     show [O.mk [[.str (List.drop (f:Int).toNat (List.take s.length s))]] 1 true true false .cell]=_
     rw [List.take_length]
     rfl
   | cons a acc =>
     conv=>whnf
     rw [ltB_f (by omega)]
     conv=>whnf
     refine ⟨by omega,by omega,?_⟩
     conv=>whnf
     refine ⟨fun m hm=>by rw [List.mem_singleton.1 hm]; rfl,?_⟩
     conv=>whnf
     refine ⟨by
      show ((srows (a::acc)).length+1)*16≤_
      rw [srows_len]; omega,?_⟩
     conv=>whnf
     refine ⟨[2],false,?_⟩
     conv=>whnf
     rw [j4,ovO_snoc]
     refine ⟨rfl,?_⟩
     show [O.mk (srows (a::acc)++[[.str (List.drop (f:Int).toNat (List.take s.length s))]]) 1 true true false .cell]=_
     rw [List.take_length]
     rfl
end Go.Cod
set_option linter.all false
namespace Go.Cod
variable [Adr]
open Go Go.Proofs
set_option linter.all false
set_option maxRecDepth 10000
theorem cutL_len (s:List UInt8):(∀ l∈cutL s,l.length≤s.length)∧cutL s≠[]:=by
 induction s with
 | nil=>exact ⟨by simp [cutL],by simp [cutL]⟩
 | cons b s ih =>
   rw [cutL]
   by_cases hb:b=10
   · rw [if_pos hb]
     refine ⟨fun l hl=>?_,by simp⟩
     rcases List.mem_cons.1 hl with rfl | hl
     · simp
     · have:=ih.1 l hl
       simp; omega
   · rw [if_neg hb]
     cases h:cutL s with
     | nil=>exact absurd h ih.2
     | cons l ls =>
       refine ⟨fun q hq=>?_,by simp⟩
       rcases List.mem_cons.1 hq with rfl | hq
       · have:=ih.1 l (by rw [h]; simp)
         simp; omega
       · have:=ih.1 q (by rw [h]; simp [hq])
         simp; omega
theorem fold_succ (ls:List (List UInt8)) (i:Nat) (h1:1≤i) (h:i < ls.length) (c:Cm):((ls.take (i+1)).drop 1).foldl stepC c=stepC (((ls.take i).drop 1).foldl stepC c) ls[i]:=by
 rw [List.take_succ_eq_append_getElem h,List.drop_append_of_le_length (by simp; omega),List.foldl_append]
 rfl
theorem fold_end (ls:List (List UInt8)) (i:Nat) (hi:i≤6) (h:¬(i < ls.length∧i < 6)):ls.take i=ls.take 6:=by
 by_cases h6:i=6
 · rw [h6]
 · rw [List.take_of_length_le (by omega),List.take_of_length_le (by omega)]
def SmI (c:Cm) (i:Nat):Prop:=c.over.length≤i∧(∀ k∈c.over,k.length≤1048576)∧c.tree.length≤1048576∧c.note.length≤1048576
theorem SmI.step {c:Cm} {i:Nat} (h:SmI c i) {l:List UInt8} (hl:l.length≤1048576):SmI (stepC c l) (i+1):=by
 obtain ⟨h1,h2,h3,h4⟩:=h
 have hd:(l.drop 5).length≤1048576:=by rw [List.length_drop]; omega
 unfold stepC
 split
 · exact ⟨by omega,h2,h3,h4⟩
 split
 · refine ⟨by simp; omega,fun k hk=>?_,h3,h4⟩
   rcases List.mem_append.1 hk with hk | hk
   · exact h2 k hk
   · rw [List.mem_singleton.1 hk]; exact hd
 split
 · exact ⟨by show c.over.length≤i+1; omega,h2,hd,h4⟩
 split
 · exact ⟨by show c.over.length≤i+1; omega,h2,h3,hd⟩
 · exact ⟨by omega,h2,h3,h4⟩
theorem implR_spec (s:List UInt8):implR s=if s=[]∨writeC (foldC s)≠s then none else some (foldC s):=by
 rw [impl_spec]; rfl
set_option maxHeartbeats 4000000 in
theorem specCommitRead_full (s:List UInt8) (hs:s.length≤1048576):Full Tryd.prog noY 4 [.str s] [] (RdR s):=by
 have hct:=cut_full s hs
 have hsp:=implR_spec s
 have hcl:=cutL_len s
 have hfc:foldC s=(((cutL s).take 6).drop 1).foldl stepC ⟨[],[],[]⟩:=rfl
 unfold CtR at hct
 generalize cutL s=ls at *
 obtain ⟨hcl,hne⟩:=hcl
 obtain ⟨l0,lt,rfl⟩:∃ a b,ls=a::b:=by
  cases ls with
  | nil=>exact absurd rfl hne
  | cons a b=>exact ⟨a,b,rfl⟩
 obtain ⟨L,hL⟩:∃ L,L=l0::lt:=⟨_,rfl⟩
 have hov:ovO (l0::lt)=[⟨srows L,1,true,true,false,.cell⟩]:=by rw [hL]; rfl
 rw [hov] at hct
 rw [← hL] at hcl hfc hne
 have hct:Full Tryd.prog noY 9 [.str s,.int .u8 10] [] fun o st'=>o=.ret (.own 0)∧st'=[⟨srows L,1,true,true,false,.cell⟩]:=by
  rw [hL] at hct ⊢
  exact hct
 clear hov hL
 have hLl:=srows_len L
 refine full_of_awp good Tryd.func4 rfl (by kernel_rfl) (by decide) ?_
 conv=>whnf
 refine .inr (.inl ⟨[],false,?_⟩)
 conv=>whnf
 refine hct.mono ?_
 rintro o st' ⟨rfl,rfl⟩
 conv=>whnf
 refine loop_drop (fun n fr st=>∃ (i:Nat) (c:Cm),n+i=6∧1≤i∧i≤6∧i≤max 1 L.length∧c=((L.take i).drop 1).foldl stepC ⟨[],[],[]⟩∧SmI c i ∧
   Holds fr [(0,.str s),(2,.ptr 0 0 0),(4,.ptr 1 0 0),(5,.own 2),(6,.int .i64 i)]∧st=[bx3 [.nils,.str [],.str []],bx3 [ovV c.over 3,.str c.tree,.str c.note],⟨srows L,1,true,true,false,.cell⟩]++ovO c.over) 5 none
  (by
    conv=>whnf
    refine ⟨1,⟨[],[],[]⟩,by omega,by omega,by omega,by omega,?_,⟨by simp,by simp,by simp,by simp⟩,⟨rfl,rfl,rfl,rfl,rfl,trivial⟩,rfl⟩
    cases L <;> rfl) ?_
 rintro n fr st ⟨i,c,j1,j2,j3,j4,j5,j6,hh,rfl⟩
 obtain ⟨fr,rfl⟩:=hh.split
 clear hh
 by_cases hlt:i < L.length∧i < 6
 · have hg:=srows_get L i hlt.1
   have hli:L[i].length≤1048576:=Nat.le_trans (hcl _ (List.getElem_mem hlt.1)) hs
   have hst:=fold_succ L i j2 hlt.1 ⟨[],[],[]⟩
   rw [← j5] at hst
   have hsm:=j6.step hli
   have hw:IntKind.i64.wrap ((i:Int)+1)=((i+1:Nat):Int):=by rw [wrap64 (by omega) (by omega)]; omega
   generalize L[i]=l at *
   have hd5:l.drop 5=(l.take l.length).drop 5:=by rw [List.take_length]
   obtain ⟨ov,t,nt⟩:=c
   have c1:(i:Int) < ((srows L).length:Int):=by omega
   cases ov with
   | nil =>
     by_cases d1:l.length < 5
     · conv=>whnf
       rw [ltB_t (by exact c1)]
       conv=>whnf
       rw [ltB_t (by omega)]
       conv=>whnf
       refine ⟨by omega,srows L,_,1,rfl,hg,rfl,rfl,?_⟩
       conv=>whnf
       refine AtRow_intro [.str l] hg ?_
       conv=>whnf
       rw [ltB_t (by omega)]
       conv=>whnf
       rw [stepC,if_pos d1] at hst hsm
       refine ⟨n - 1,by omega,none,?_⟩
       conv=>whnf
       refine ⟨i+1,_,by omega,by omega,by omega,by omega,hst.symm,hsm,⟨rfl,rfl,rfl,rfl,congrArg (V.int .i64) hw,trivial⟩,?_⟩
       rfl
     by_cases d2:l.take 5=overW
     · conv=>whnf
       rw [ltB_t (by exact c1)]
       conv=>whnf
       rw [ltB_t (by omega)]
       conv=>whnf
       refine ⟨by omega,srows L,_,1,rfl,hg,rfl,rfl,?_⟩
       conv=>whnf
       refine AtRow_intro [.str l] hg ?_
       conv=>whnf
       rw [ltB_f (by omega)]
       conv=>whnf
       refine ⟨by omega,by omega,?_⟩
       conv=>whnf
       rw [eqS_t (by exact d2)]
       conv=>whnf
       refine ⟨by omega,by omega,rfl,?_⟩
       conv=>whnf
       refine ⟨fun m hm=>by rw [List.mem_singleton.1 hm]; rfl,?_⟩
       conv=>whnf
       refine ⟨by show 1*16≤_; omega,.inr ⟨(by intro e; cases e),?_⟩⟩
       conv=>whnf
       repeat
        refine And.intro (by (conv=>whnf); rfl) ?_
        conv=>whnf
       rw [stepC,if_neg d1,if_pos d2,hd5] at hst hsm
       refine ⟨n - 1,by omega,some [0,1,2,4],?_⟩
       conv=>whnf
       refine ⟨i+1,_,by omega,by omega,by omega,by omega,hst.symm,hsm,⟨rfl,rfl,rfl,rfl,congrArg (V.int .i64) hw,trivial⟩,?_⟩
       rfl
     by_cases d3:l.take 5=treeW
     · conv=>whnf
       rw [ltB_t (by exact c1)]
       conv=>whnf
       rw [ltB_t (by omega)]
       conv=>whnf
       refine ⟨by omega,srows L,_,1,rfl,hg,rfl,rfl,?_⟩
       conv=>whnf
       refine AtRow_intro [.str l] hg ?_
       conv=>whnf
       rw [ltB_f (by omega)]
       conv=>whnf
       refine ⟨by omega,by omega,?_⟩
       conv=>whnf
       rw [eqS_f (by exact d2)]
       conv=>whnf
       rw [eqS_t (by exact d3)]
       conv=>whnf
       refine ⟨by omega,by omega,?_⟩
       conv=>whnf
       rw [stepC,if_neg d1,if_neg d2,if_pos d3,hd5] at hst hsm
       refine ⟨n - 1,by omega,none,?_⟩
       conv=>whnf
       refine ⟨i+1,_,by omega,by omega,by omega,by omega,hst.symm,hsm,⟨rfl,rfl,rfl,rfl,congrArg (V.int .i64) hw,trivial⟩,?_⟩
       rfl
     by_cases d4:l.take 5=noteW
     · conv=>whnf
       rw [ltB_t (by exact c1)]
       conv=>whnf
       rw [ltB_t (by omega)]
       conv=>whnf
       refine ⟨by omega,srows L,_,1,rfl,hg,rfl,rfl,?_⟩
       conv=>whnf
       refine AtRow_intro [.str l] hg ?_
       conv=>whnf
       rw [ltB_f (by omega)]
       conv=>whnf
       refine ⟨by omega,by omega,?_⟩
       conv=>whnf
       rw [eqS_f (by exact d2)]
       conv=>whnf
       rw [eqS_f (by exact d3)]
       conv=>whnf
       rw [eqS_t (by exact d4)]
       conv=>whnf
       refine ⟨by omega,by omega,?_⟩
       conv=>whnf
       rw [stepC,if_neg d1,if_neg d2,if_neg d3,if_pos d4,hd5] at hst hsm
       refine ⟨n - 1,by omega,none,?_⟩
       conv=>whnf
       refine ⟨i+1,_,by omega,by omega,by omega,by omega,hst.symm,hsm,⟨rfl,rfl,rfl,rfl,congrArg (V.int .i64) hw,trivial⟩,?_⟩
       rfl
     · conv=>whnf
       rw [ltB_t (by exact c1)]
       conv=>whnf
       rw [ltB_t (by omega)]
       conv=>whnf
       refine ⟨by omega,srows L,_,1,rfl,hg,rfl,rfl,?_⟩
       conv=>whnf
       refine AtRow_intro [.str l] hg ?_
       conv=>whnf
       rw [ltB_f (by omega)]
       conv=>whnf
       refine ⟨by omega,by omega,?_⟩
       conv=>whnf
       rw [eqS_f (by exact d2)]
       conv=>whnf
       rw [eqS_f (by exact d3)]
       conv=>whnf
       rw [eqS_f (by exact d4)]
       conv=>whnf
       rw [stepC,if_neg d1,if_neg d2,if_neg d3,if_neg d4] at hst hsm
       refine ⟨n - 1,by omega,none,?_⟩
       conv=>whnf
       refine ⟨i+1,_,by omega,by omega,by omega,by omega,hst.symm,hsm,⟨rfl,rfl,rfl,rfl,congrArg (V.int .i64) hw,trivial⟩,?_⟩
       rfl
   | cons a ov =>
     by_cases d1:l.length < 5
     · conv=>whnf
       rw [ltB_t (by exact c1)]
       conv=>whnf
       rw [ltB_t (by omega)]
       conv=>whnf
       refine ⟨by omega,srows L,_,1,rfl,hg,rfl,rfl,?_⟩
       conv=>whnf
       refine AtRow_intro [.str l] hg ?_
       conv=>whnf
       rw [ltB_t (by omega)]
       conv=>whnf
       rw [stepC,if_pos d1] at hst hsm
       refine ⟨n - 1,by omega,none,?_⟩
       conv=>whnf
       refine ⟨i+1,_,by omega,by omega,by omega,by omega,hst.symm,hsm,⟨rfl,rfl,rfl,rfl,congrArg (V.int .i64) hw,trivial⟩,?_⟩
       rfl
     by_cases d2:l.take 5=overW
     · conv=>whnf
       rw [ltB_t (by exact c1)]
       conv=>whnf
       rw [ltB_t (by omega)]
       conv=>whnf
       refine ⟨by omega,srows L,_,1,rfl,hg,rfl,rfl,?_⟩
       conv=>whnf
       refine AtRow_intro [.str l] hg ?_
       conv=>whnf
       rw [ltB_f (by omega)]
       conv=>whnf
       refine ⟨by omega,by omega,?_⟩
       conv=>whnf
       rw [eqS_t (by exact d2)]
       conv=>whnf
       refine ⟨by omega,by omega,rfl,?_⟩
       conv=>whnf
       refine ⟨fun m hm=>by rw [List.mem_singleton.1 hm]; rfl,?_⟩
       conv=>whnf
       refine ⟨by
        show ((srows (a::ov)).length+1)*16≤_
        rw [srows_len]
        have:(a::ov).length≤i:=j6.1
        omega,?_⟩
       conv=>whnf
       repeat
        refine And.intro (by (conv=>whnf); rfl) ?_
        conv=>whnf
       rw [stepC,if_neg d1,if_pos d2,hd5] at hst hsm
       refine ⟨n - 1,by omega,some [0,1,2,5],?_⟩
       conv=>whnf
       refine ⟨i+1,_,by omega,by omega,by omega,by omega,hst.symm,hsm,⟨rfl,rfl,rfl,rfl,congrArg (V.int .i64) hw,trivial⟩,?_⟩
       rw [ovO_snoc]; rfl
     by_cases d3:l.take 5=treeW
     · conv=>whnf
       rw [ltB_t (by exact c1)]
       conv=>whnf
       rw [ltB_t (by omega)]
       conv=>whnf
       refine ⟨by omega,srows L,_,1,rfl,hg,rfl,rfl,?_⟩
       conv=>whnf
       refine AtRow_intro [.str l] hg ?_
       conv=>whnf
       rw [ltB_f (by omega)]
       conv=>whnf
       refine ⟨by omega,by omega,?_⟩
       conv=>whnf
       rw [eqS_f (by exact d2)]
       conv=>whnf
       rw [eqS_t (by exact d3)]
       conv=>whnf
       refine ⟨by omega,by omega,?_⟩
       conv=>whnf
       rw [stepC,if_neg d1,if_neg d2,if_pos d3,hd5] at hst hsm
       refine ⟨n - 1,by omega,none,?_⟩
       conv=>whnf
       refine ⟨i+1,_,by omega,by omega,by omega,by omega,hst.symm,hsm,⟨rfl,rfl,rfl,rfl,congrArg (V.int .i64) hw,trivial⟩,?_⟩
       rfl
     by_cases d4:l.take 5=noteW
     · conv=>whnf
       rw [ltB_t (by exact c1)]
       conv=>whnf
       rw [ltB_t (by omega)]
       conv=>whnf
       refine ⟨by omega,srows L,_,1,rfl,hg,rfl,rfl,?_⟩
       conv=>whnf
       refine AtRow_intro [.str l] hg ?_
       conv=>whnf
       rw [ltB_f (by omega)]
       conv=>whnf
       refine ⟨by omega,by omega,?_⟩
       conv=>whnf
       rw [eqS_f (by exact d2)]
       conv=>whnf
       rw [eqS_f (by exact d3)]
       conv=>whnf
       rw [eqS_t (by exact d4)]
       conv=>whnf
       refine ⟨by omega,by omega,?_⟩
       conv=>whnf
       rw [stepC,if_neg d1,if_neg d2,if_neg d3,if_pos d4,hd5] at hst hsm
       refine ⟨n - 1,by omega,none,?_⟩
       conv=>whnf
       refine ⟨i+1,_,by omega,by omega,by omega,by omega,hst.symm,hsm,⟨rfl,rfl,rfl,rfl,congrArg (V.int .i64) hw,trivial⟩,?_⟩
       rfl
     · conv=>whnf
       rw [ltB_t (by exact c1)]
       conv=>whnf
       rw [ltB_t (by omega)]
       conv=>whnf
       refine ⟨by omega,srows L,_,1,rfl,hg,rfl,rfl,?_⟩
       conv=>whnf
       refine AtRow_intro [.str l] hg ?_
       conv=>whnf
       rw [ltB_f (by omega)]
       conv=>whnf
       refine ⟨by omega,by omega,?_⟩
       conv=>whnf
       rw [eqS_f (by exact d2)]
       conv=>whnf
       rw [eqS_f (by exact d3)]
       conv=>whnf
       rw [eqS_f (by exact d4)]
       conv=>whnf
       rw [stepC,if_neg d1,if_neg d2,if_neg d3,if_neg d4] at hst hsm
       refine ⟨n - 1,by omega,none,?_⟩
       conv=>whnf
       refine ⟨i+1,_,by omega,by omega,by omega,by omega,hst.symm,hsm,⟨rfl,rfl,rfl,rfl,congrArg (V.int .i64) hw,trivial⟩,?_⟩
       rfl
 · obtain ⟨ov,t,nt⟩:=c
   cases ov with
   | nil =>
     have hwc:Pure Tryd.prog 10 [.agg [.sl [],.str t,.str nt]] (·=.str (writeC ⟨[],t,nt⟩)):=specCommitWrite_pure ⟨[],t,nt⟩ ⟨by simp,by simp,j6.2.2.1,j6.2.2.2⟩
     have him:implR s=if s=[]∨writeC ⟨[],t,nt⟩≠s then none else some ⟨[],t,nt⟩:=by rw [hsp,hfc,← fold_end L i j3 hlt,← j5]
     generalize writeC ⟨[],t,nt⟩=wc at *
     by_cases h:i < L.length
     · have c1:(i:Int) < ((srows L).length:Int):=by omega
       conv=>whnf
       rw [ltB_t (by exact c1)]
       conv=>whnf
       rw [ltB_f (by omega)]
       conv=>whnf
       by_cases he:s=[]
       · rw [eqS_t (by exact he)]
         conv=>whnf
         refine ⟨[],true,?_⟩
         conv=>whnf
         rw [him,if_pos (.inl he)]
         exact ⟨rfl,rfl⟩
       · rw [eqS_f (by exact he)]
         conv=>whnf
         refine .inl (hwc.mono ?_)
         rintro q rfl
         conv=>whnf
         by_cases hb:wc=s
         · rw [eqS_t (by exact hb)]
           conv=>whnf
           refine ⟨[],true,?_⟩
           conv=>whnf
           rw [him,if_neg (by simp [he,hb])]
           exact ⟨rfl,rfl⟩
         · rw [eqS_f (by exact hb)]
           conv=>whnf
           refine ⟨[],true,?_⟩
           conv=>whnf
           rw [him,if_pos (.inr hb)]
           exact ⟨rfl,rfl⟩
     · have c1:((srows L).length:Int)≤(i:Int):=by omega
       conv=>whnf
       rw [ltB_f (by exact c1)]
       conv=>whnf
       by_cases he:s=[]
       · rw [eqS_t (by exact he)]
         conv=>whnf
         refine ⟨[],true,?_⟩
         conv=>whnf
         rw [him,if_pos (.inl he)]
         exact ⟨rfl,rfl⟩
       · rw [eqS_f (by exact he)]
         conv=>whnf
         refine .inl (hwc.mono ?_)
         rintro q rfl
         conv=>whnf
         by_cases hb:wc=s
         · rw [eqS_t (by exact hb)]
           conv=>whnf
           refine ⟨[],true,?_⟩
           conv=>whnf
           rw [him,if_neg (by simp [he,hb])]
           exact ⟨rfl,rfl⟩
         · rw [eqS_f (by exact hb)]
           conv=>whnf
           refine ⟨[],true,?_⟩
           conv=>whnf
           rw [him,if_pos (.inr hb)]
           exact ⟨rfl,rfl⟩
   | cons a ov =>
     have hwc:Full Tryd.prog noY 10 [.agg [.own 0,.str t,.str nt]] (ovO (a::ov)) fun o st'=>o=.ret (.str (writeC ⟨a::ov,t,nt⟩))∧st'=ovO (a::ov):=own_callStr rfl rfl (fun Pr γ w cargs g hg ha hs=>rep_own3 hg ha hs) (specCommitWrite_pure ⟨a::ov,t,nt⟩ ⟨Nat.le_trans j6.1 (by omega),j6.2.1,j6.2.2.1,j6.2.2.2⟩)
     have him:implR s=if s=[]∨writeC ⟨a::ov,t,nt⟩≠s then none else some ⟨a::ov,t,nt⟩:=by rw [hsp,hfc,← fold_end L i j3 hlt,← j5]
     generalize writeC ⟨a::ov,t,nt⟩=wc at *
     by_cases h:i < L.length
     · have c1:(i:Int) < ((srows L).length:Int):=by omega
       conv=>whnf
       rw [ltB_t (by exact c1)]
       conv=>whnf
       rw [ltB_f (by omega)]
       conv=>whnf
       by_cases he:s=[]
       · rw [eqS_t (by exact he)]
         conv=>whnf
         refine ⟨[],true,?_⟩
         conv=>whnf
         rw [him,if_pos (.inl he)]
         exact ⟨rfl,rfl⟩
       · rw [eqS_f (by exact he)]
         conv=>whnf
         refine ⟨[3],false,?_⟩
         conv=>whnf
         refine hwc.mono ?_
         rintro o st' ⟨rfl,rfl⟩
         conv=>whnf
         by_cases hb:wc=s
         · rw [eqS_t (by exact hb)]
           conv=>whnf
           refine ⟨[3],false,?_⟩
           conv=>whnf
           rw [him,if_neg (by simp [he,hb])]
           exact ⟨rfl,rfl⟩
         · rw [eqS_f (by exact hb)]
           conv=>whnf
           refine ⟨[],true,?_⟩
           conv=>whnf
           rw [him,if_pos (.inr hb)]
           exact ⟨rfl,rfl⟩
     · have c1:((srows L).length:Int)≤(i:Int):=by omega
       conv=>whnf
       rw [ltB_f (by exact c1)]
       conv=>whnf
       by_cases he:s=[]
       · rw [eqS_t (by exact he)]
         conv=>whnf
         refine ⟨[],true,?_⟩
         conv=>whnf
         rw [him,if_pos (.inl he)]
         exact ⟨rfl,rfl⟩
       · rw [eqS_f (by exact he)]
         conv=>whnf
         refine ⟨[3],false,?_⟩
         conv=>whnf
         refine hwc.mono ?_
         rintro o st' ⟨rfl,rfl⟩
         conv=>whnf
         by_cases hb:wc=s
         · rw [eqS_t (by exact hb)]
           conv=>whnf
           refine ⟨[3],false,?_⟩
           conv=>whnf
           rw [him,if_neg (by simp [he,hb])]
           exact ⟨rfl,rfl⟩
         · rw [eqS_f (by exact hb)]
           conv=>whnf
           refine ⟨[],true,?_⟩
           conv=>whnf
           rw [him,if_pos (.inr hb)]
           exact ⟨rfl,rfl⟩
end Go.Cod
set_option linter.all false
namespace Go.Cod
variable [Adr]
open Go Go.Proofs
set_option linter.all false
set_option maxRecDepth 10000
def digs (k:Nat) (acc:List UInt8):List UInt8:=if h:k=0 then acc else digs (k / 10) (UInt8.ofNat (48+k % 10)::acc)
termination_by k
decreasing_by omega
def mt (k:Int):List UInt8:=if k≤0 then [109,48] else 109::digs k.toNat []
theorem markText_pure (k:Int) (h1:k≤4611686018427387904):Pure Tryd.prog 23 [.int .i64 k] (·=.str (mt k)):=by
 refine pure_of_awp good Tryd.func23 rfl (by kernel_rfl) (by decide) ?_
 conv=>whnf
 by_cases h0:k≤0
 · rw [leB_t (by omega)]
   conv=>whnf
   rw [mt,if_pos h0]
 rw [leB_f (by omega)]
 conv=>whnf
 refine loop_drop (fun n fr st=>∃ (k':Int) (acc:List UInt8),0≤k'∧n=k'.toNat∧digs k'.toNat acc=digs k.toNat []∧acc.length+k'≤k∧st=[]∧Holds fr [(0,.int .i64 k'),(3,.str acc)]) k.toNat none
  ⟨k,[],by omega,rfl,rfl,by simp,rfl,rfl,rfl,trivial⟩ ?_
 rintro n fr st ⟨k',acc,g0,rfl,g1,g2,rfl,hh⟩
 obtain ⟨fr,rfl⟩:=hh.split
 clear hh
 conv=>whnf
 by_cases hlt:0 < k'
 · rw [ltB_t hlt]
   conv=>whnf
   refine ⟨by decide,?_⟩
   conv=>whnf
   have e1:k'.tmod 10=((k'.toNat % 10:Nat):Int):=by
    rw [Int.tmod_eq_emod_of_nonneg (by omega)]; omega
   have e2:IntKind.i64.wrap (48+k'.tmod 10)=((48+k'.toNat % 10:Nat):Int):=by
    rw [e1,wrap64 (by omega) (by omega)]; omega
   have e3:IntKind.u8.wrap (IntKind.i64.wrap (48+k'.tmod 10))=((UInt8.ofNat (48+k'.toNat % 10)).toNat:Int):=by
    rw [e2]
    have:(UInt8.ofNat (48+k'.toNat % 10)).toNat=48+k'.toNat % 10:=by
     rw [UInt8.toNat_ofNat']; omega
    rw [this]
    rw [IntKind.wrap_u8]; omega
   rw [e3]
   refine ⟨[UInt8.ofNat (48+k'.toNat % 10)],rfl,?_⟩
   conv=>whnf
   refine ⟨by simp; omega,?_⟩
   conv=>whnf
   refine ⟨by decide,?_⟩
   conv=>whnf
   have e4:IntKind.i64.wrap (k'.tdiv 10)=((k'.toNat / 10:Nat):Int):=by
    rw [Int.tdiv_eq_ediv_of_nonneg (by omega),wrap64 (by omega) (by omega)]; omega
   refine ⟨(k'.toNat / 10),by omega,some [],?_⟩
   conv=>whnf
   refine ⟨((k'.toNat / 10:Nat):Int),UInt8.ofNat (48+k'.toNat % 10)::acc,by omega,(Int.toNat_natCast _).symm,?_,?_,rfl,?_,rfl,trivial⟩
   · rw [← g1]
     conv=>rhs; rw [digs]
     rw [dif_neg (by omega),Int.toNat_natCast]
   · simp; omega
   · show V.int .i64 (IntKind.i64.wrap (k'.tdiv 10))=_
     rw [e4]
 · rw [ltB_f (by omega)]
   conv=>whnf
   refine ⟨by simp; omega,?_⟩
   conv=>whnf
   have:k'.toNat=0:=by omega
   rw [this] at g1
   rw [digs,dif_pos rfl] at g1
   rw [mt,if_neg h0,← g1]
   rfl
def smark (k:Int) (n:Nat):List (List UInt8):=(List.range n).map fun i=>mt (k+(i:Nat))
theorem smark_len (k:Int) (n:Nat):(smark k n).length=n:=by simp [smark]
theorem smark_succ (k:Int) (n:Nat):smark k (n+1)=smark k n++[mt (k+n)]:=by simp [smark,List.range_succ]
theorem smark_get (k:Int) (n i:Nat) (h:i < n):(srows (smark k n))[i]? = some [.str (mt (k+i))]:=by
 simp [srows,smark,h]
theorem heldStringS_pure (k:Int) (n:Nat) (h0:0≤k) (h1:k+n≤1152921504606846976):Pure Tryd.prog 15 [.sl (srows (smark k n)),.int .i64 k] (·=.int .i64 (k+n)):=by
 have hlr:(srows (smark k n)).length=n:=by rw [srows_len,smark_len]
 refine pure_of_awp good Tryd.func15 rfl (by kernel_rfl) (by decide) ?_
 conv=>whnf
 refine loop_intro (fun m fr st=>∃ i:Nat,m+i=n∧st=[]∧Holds fr [(0,.sl (srows (smark k n))),(1,.int .i64 (k+i)),(5,.int .i64 i)]) n
  ⟨0,by omega,rfl,rfl,by simp; rfl,rfl,trivial⟩ ?_
 rintro m fr st ⟨i,hi,rfl,hh⟩
 obtain ⟨fr,rfl⟩:=hh.split
 clear hh
 conv=>whnf
 by_cases hlt:i < n
 · rw [ltB_t (by omega)]
   conv=>whnf
   have hg:=smark_get k n i hlt
   refine ⟨by omega,_,_,1,rfl,hg,rfl,rfl,?_⟩
   conv=>whnf
   refine ⟨_,.inl (markText_pure (k+i) (by omega)),?_⟩
   conv=>whnf
   rw [eqS_refl]
   conv=>whnf
   refine ⟨m - 1,by omega,i+1,by omega,rfl,rfl,?_,?_,trivial⟩
   · show V.int .i64 (IntKind.i64.wrap (k+i+1))=_
     rw [wrap64 (by omega) (by omega)]; congr 1; omega
   · show V.int .i64 (IntKind.i64.wrap (i+1))=_
     rw [wrap64 (by omega) (by omega)]; simp
 · rw [ltB_f (by omega)]
   conv=>whnf
   have:i=n:=by omega
   subst this
   rfl
def mixS (ss:List (List UInt8)) (k:Int) (i:Nat):List (List UInt8):=smark k i++ss.drop i
theorem mixS_get (ss:List (List UInt8)) (k:Int) (i:Nat) (h:i < ss.length):(srows (mixS ss k i))[i]? = some [.str ss[i]]:=by
 unfold srows mixS
 rw [List.map_append,List.getElem?_append_right (by simp [smark_len])]
 simp [smark_len,h]
theorem mixS_set (ss:List (List UInt8)) (k:Int) (i:Nat) (h:i < ss.length):(srows (mixS ss k i)).set i [.str (mt (k+i))]=srows (mixS ss k (i+1)):=by
 unfold srows mixS
 have hl:((smark k i).map fun n=>[V.str n]).length=i:=by simp [smark_len]
 rw [List.map_append,List.set_append_right _ _ (by omega),hl,Nat.sub_self,List.drop_eq_getElem_cons h,List.map_cons,List.set_cons_zero,smark_succ]
 simp
def sO (ss:List (List UInt8)):O:=⟨srows ss,1,true,true,false,.cell⟩
theorem eqStringS_own (ss:List (List UInt8)) (hl:ss.length≤1048576):Full Tryd.prog noY 13 [.own 0,.own 1] [sO ss,sO ss] fun o st'=>o=.ret (.bool true)∧st'=[sO ss,sO ss]:=by
 have hlr:=srows_len ss
 refine full_of_awp good Tryd.func13 rfl (by kernel_rfl) (by decide) ?_
 conv=>whnf
 rw [eqB_refl]
 conv=>whnf
 refine loop_drop (fun n fr st=>∃ i:Nat,n+i=ss.length∧Holds fr [(0,.own 0),(1,.own 1),(5,.int .i64 i)]∧st=[sO ss,sO ss]) ss.length none
  ⟨0,rfl,⟨rfl,rfl,rfl,trivial⟩,rfl⟩ ?_
 rintro n fr st ⟨i,hi,hh,rfl⟩
 obtain ⟨fr,rfl⟩:=hh.split
 clear hh
 conv=>whnf
 by_cases hlt:i < ss.length
 · rw [ltB_t (by show (i:Int) < ((srows ss).length:Int); omega)]
   conv=>whnf
   have hg:=srows_get ss i hlt
   refine ⟨by omega,srows ss,_,1,rfl,hg,rfl,rfl,?_⟩
   conv=>whnf
   refine AtRow_intro [.str ss[i]] hg ?_
   conv=>whnf
   refine ⟨by omega,srows ss,_,1,rfl,hg,rfl,rfl,?_⟩
   conv=>whnf
   refine AtRow_intro [.str ss[i]] hg ?_
   conv=>whnf
   rw [eqS_refl]
   conv=>whnf
   refine ⟨n - 1,by omega,none,i+1,by omega,⟨rfl,rfl,?_,trivial⟩,rfl⟩
   show V.int .i64 (IntKind.i64.wrap (i+1))=_
   rw [wrap64 (by omega) (by omega)]; simp
 · rw [ltB_f (by show ((srows ss).length:Int)≤(i:Int); omega)]
   conv=>whnf
   refine ⟨[],false,?_⟩
   conv=>whnf
   exact ⟨rfl,rfl⟩
theorem eqCommit_own (a:List UInt8) (ov:List (List UInt8)) (t n:List UInt8) (hl:(a::ov).length≤1048576):Full Tryd.prog noY 6 [.agg [.own 0,.str t,.str n],.agg [.own 1,.str t,.str n]] [sO (a::ov),sO (a::ov)] fun o st'=>o=.ret (.bool true)∧st'=[sO (a::ov),sO (a::ov)]:=by
 have f1:=eqStringS_own (a::ov) hl
 generalize a::ov=ss at *
 refine full_of_awp good Tryd.func6 rfl (by kernel_rfl) (by decide) ?_
 conv=>whnf
 refine ⟨[0,1],false,?_⟩
 conv=>whnf
 refine f1.mono ?_
 rintro o st' ⟨rfl,rfl⟩
 conv=>whnf
 rw [eqS_refl]
 conv=>whnf
 rw [eqS_refl]
 conv=>whnf
 refine ⟨[],false,?_⟩
 conv=>whnf
 exact ⟨rfl,rfl⟩
theorem markStringS_own (ss:List (List UInt8)) (k:Int) (h0:0≤k) (h1:k+ss.length≤1152921504606846976) :
  Full Tryd.prog noY 14 [.own 0,.int .i64 k] [sO ss] fun o st'=>o=.ret (.int .i64 (k+ss.length))∧st'=[sO (smark k ss.length)]:=by
 refine full_of_awp good Tryd.func14 rfl (by kernel_rfl) (by decide) ?_
 conv=>whnf
 have hml:∀ i,i≤ss.length→(srows (mixS ss k i)).length=ss.length:=fun i hi=>by simp [srows,mixS,smark_len]; omega
 refine loop_drop (fun n fr st=>∃ i:Nat,n+i=ss.length∧Holds fr [(0,.own 0),(1,.int .i64 (k+i)),(5,.int .i64 i)]∧st=[sO (mixS ss k i)]) ss.length none
  ⟨0,by omega,⟨rfl,by simp; rfl,rfl,trivial⟩,rfl⟩ ?_
 rintro n fr st ⟨i,hi,hh,rfl⟩
 obtain ⟨fr,rfl⟩:=hh.split
 clear hh
 have hm:=hml i (by omega)
 conv=>whnf
 by_cases hlt:i < ss.length
 · rw [ltB_t (by show (i:Int) < ((srows (mixS ss k i)).length:Int); omega)]
   conv=>whnf
   refine .inl ((markText_pure (k+i) (by omega)).mono ?_)
   rintro r rfl
   conv=>whnf
   have hg:=mixS_get ss k i hlt
   have hs:=mixS_set ss k i hlt
   refine ⟨by omega,srows (mixS ss k i),_,1,rfl,hg,rfl,rfl,?_⟩
   conv=>whnf
   refine AtRow_intro [.str ss[i]] hg ?_
   conv=>whnf
   refine ⟨n - 1,by omega,none,i+1,by omega,⟨rfl,?_,?_,trivial⟩,?_⟩
   · show V.int .i64 (IntKind.i64.wrap (k+i+1))=_
     rw [wrap64 (by omega) (by omega)]; congr 1; omega
   · show V.int .i64 (IntKind.i64.wrap (i+1))=_
     rw [wrap64 (by omega) (by omega)]; simp
   · show [O.mk ((srows (mixS ss k i)).set i [.str (mt (k+i))]) 1 true true false .cell]=_
     rw [hs]
     rfl
 · rw [ltB_f (by show ((srows (mixS ss k i)).length:Int)≤(i:Int); omega)]
   conv=>whnf
   have:i=ss.length:=by omega
   subst this
   refine ⟨[],false,?_⟩
   conv=>whnf
   refine ⟨rfl,?_⟩
   show [sO (mixS ss k ss.length)]=_
   simp [mixS]
theorem heldCommit_pure (k:Int) (n:Nat) (t nt:List UInt8) (h0:0≤k) (h1:k+n≤1152921504606846976):Pure Tryd.prog 8 [.agg [.sl (srows (smark k n)),.str t,.str nt],.int .i64 k] (·=.int .i64 (k+n)):=by
 have f:=heldStringS_pure k n h0 h1
 generalize srows (smark k n)=rows at *
 refine pure_of_awp good Tryd.func8 rfl (by kernel_rfl) (by decide) ?_
 conv=>whnf
 refine .inl (f.mono ?_)
 rintro r rfl
 conv=>whnf
 rw [ltB_f (by omega)]
 conv=>whnf
theorem heldCommit_own (k:Int) (n:Nat) (t nt:List UInt8) (h0:0≤k) (h1:k+n≤1152921504606846976):Full Tryd.prog noY 8 [.agg [.own 0,.str t,.str nt],.int .i64 k] [sO (smark k n)] fun o st'=>o=.ret (.int .i64 (k+n))∧st'=[sO (smark k n)]:=by
 refine own_callInt rfl rfl (fun Pr γ w cargs g hg ha hs=>?_) (heldCommit_pure k n t nt h0 h1)
 match cargs,ha with
 | [],ha=>cases ha.1
 | [_],ha=>exact absurd ha.1 (by simp)
 | _::_::_::_,ha=>exact absurd ha.1 (by simp)
 | [c0,c1],ha =>
   have h3:=rep_own3 hg (cargs:=[c0]) (a:=t) (b:=nt) ⟨rfl,fun i x u p q=>ha.2 i x u (by
    match i,p with
    | 0,p=>exact p) (by
    match i,q with
    | 0,q=>exact q)⟩ hs
   have h1:=ha.2 1 _ c1 rfl rfl
   cases h1
   exact RepL.cons (h3.2 0 _ _ rfl rfl) (RepL.cons (.int _ _) RepL.nil)
theorem markCommit_own (ss:List (List UInt8)) (t n:List UInt8) (k:Int) (h0:0≤k) (h1:k+ss.length≤1152921504606846976) :
  Full Tryd.prog noY 7 [.agg [.own 0,.str t,.str n],.int .i64 k] [sO ss] fun o st'=>o=.ret (.int .i64 (k+ss.length))∧st'=[sO (smark k ss.length)]:=by
 have f1:=markStringS_own ss k h0 h1
 generalize smark k ss.length=mm at *
 refine full_of_awp good Tryd.func7 rfl (by kernel_rfl) (by decide) ?_
 conv=>whnf
 refine ⟨[0],false,?_⟩
 conv=>whnf
 refine f1.mono ?_
 rintro o st' ⟨rfl,rfl⟩
 conv=>whnf
 refine ⟨[],false,?_⟩
 conv=>whnf
 exact ⟨rfl,rfl⟩
theorem markStringS_nil (k:Int):Pure Tryd.prog 14 [.sl [],.int .i64 k] (·=.int .i64 k):=by
 refine pure_of_awp good Tryd.func14 rfl (by kernel_rfl) (by decide) ?_
 conv=>whnf
 refine loop_intro (fun n fr st=>st=[]∧Holds fr [(0,.sl []),(1,.int .i64 k),(5,.int .i64 0)]) 0 ⟨rfl,rfl,rfl,rfl,trivial⟩ ?_
 rintro n fr st ⟨rfl,hh⟩
 obtain ⟨fr,rfl⟩:=hh.split
 clear hh
 conv=>whnf
 rw [ltB_f (by simp)]
 conv=>whnf
theorem markCommit_nil (t n:List UInt8) (k:Int):Pure Tryd.prog 7 [.agg [.sl [],.str t,.str n],.int .i64 k] (·=.int .i64 k):=by
 have f1:=markStringS_nil k
 refine pure_of_awp good Tryd.func7 rfl (by kernel_rfl) (by decide) ?_
 conv=>whnf
 refine .inl (f1.mono ?_)
 rintro r rfl
 conv=>whnf
end Go.Cod
set_option linter.all false
namespace Go.Cod
variable [Adr]
open Go Go.Proofs
set_option linter.all false
set_option maxRecDepth 10000
theorem len_over (ss:List (List UInt8)) (k:List UInt8) (hk:k∈ss):k.length≤(ss.flatMap fun k=>overW++k++[10]).length:=by
 induction ss with
 | nil=>simp at hk
 | cons q ss ih =>
   simp only [List.flatMap_cons,List.length_append]
   rcases List.mem_cons.1 hk with rfl | hk
   · omega
   · have:=ih hk; omega
theorem sm_impl (s:List UInt8) (hs:s.length≤1048576) (c:Cm) (h:implR s=some c):c.Sm:=by
 rw [implR] at h
 cases hc:cP s with
 | none=>rw [hc] at h; cases h
 | some d =>
   rw [hc] at h
   simp only at h
   split at h
   · rename_i hw
     cases h
     unfold writeC at hw
     split at hw
     · rename_i hk
       obtain ⟨_,h2,_,_⟩:=okC_parts hk
       have hfl:=textC_flat c
       rw [hw] at hfl
       have hlen:=congrArg List.length hfl
       simp only [List.length_append,List.length_cons,List.length_nil] at hlen
       refine ⟨by omega,fun k hk=>?_,by omega,by omega⟩
       have:=len_over c.over k hk
       omega
     · subst hw
       simp [cP,skipP,headC] at hc
   · cases h
set_option maxHeartbeats 4000000 in
theorem law_commitRead (s:List UInt8):Pure Tryd.prog 3 [.str s] (·=.bool true):=by
 by_cases hs:1048576 < s.length
 · refine pure_of_awp good Tryd.func3 rfl (by kernel_rfl) (by decide) ?_
   conv=>whnf
   rw [ltB_t (by omega)]
   conv=>whnf
 have hs:s.length≤1048576:=by omega
 have h1:=specCommitRead_full s hs
 have h2:=implCommitRead_full s hs
 have hsm:=sm_impl s hs
 unfold RdR at h1 h2
 cases hi:implR s with
 | none =>
   rw [hi] at h1 h2
   have e1:=eqCommit_pure ⟨[],[],[]⟩ ⟨by simp,by simp,by simp,by simp⟩
   have e2:=markCommit_nil [] [] 1
   have e3:=heldCommit_pure 1 0 [] [] (by omega) (by omega)
   refine pure_of_awp good Tryd.func3 rfl (by kernel_rfl) (by decide) ?_
   conv=>whnf
   rw [ltB_f (by omega)]
   conv=>whnf
   refine .inr (.inl ⟨[],false,?_⟩)
   conv=>whnf
   refine h1.mono ?_
   rintro o st' ⟨rfl,rfl⟩
   conv=>whnf
   refine .inr (.inl ⟨[],false,?_⟩)
   conv=>whnf
   refine h2.mono ?_
   rintro o st' ⟨rfl,rfl⟩
   conv=>whnf
   refine .inl (e1.mono ?_)
   rintro r rfl
   conv=>whnf
   refine .inl (e2.mono ?_)
   rintro r rfl
   conv=>whnf
   refine .inl (e3.mono ?_)
   rintro r rfl
   conv=>whnf
   rw [ltB_f (by omega)]
   conv=>whnf
   rw [eqB_t (by omega)]
   conv=>whnf
   refine .inr (.inl ⟨[],false,?_⟩)
   conv=>whnf
   refine h2.mono ?_
   rintro o st' ⟨rfl,rfl⟩
   conv=>whnf
   refine .inl (e1.mono ?_)
   rintro r rfl
   conv=>whnf
   refine .inl (e3.mono ?_)
   rintro r rfl
   conv=>whnf
   rw [ltB_f (by omega)]
   conv=>whnf
   rw [eqB_t (by omega)]
   conv=>whnf
 | some c =>
   have hc:=hsm c hi
   rw [hi] at h1 h2
   obtain ⟨ov,t,n⟩:=c
   cases ov with
   | nil =>
     have e1:=eqCommit_pure ⟨[],t,n⟩ hc
     have e2:=markCommit_nil t n 1
     have e3:=heldCommit_pure 1 0 t n (by omega) (by omega)
     refine pure_of_awp good Tryd.func3 rfl (by kernel_rfl) (by decide) ?_
     conv=>whnf
     rw [ltB_f (by omega)]
     conv=>whnf
     refine .inr (.inl ⟨[],false,?_⟩)
     conv=>whnf
     refine h1.mono ?_
     rintro o st' ⟨rfl,rfl⟩
     conv=>whnf
     refine .inr (.inl ⟨[],false,?_⟩)
     conv=>whnf
     refine h2.mono ?_
     rintro o st' ⟨rfl,rfl⟩
     conv=>whnf
     refine .inl (e1.mono ?_)
     rintro r rfl
     conv=>whnf
     refine .inl (e2.mono ?_)
     rintro r rfl
     conv=>whnf
     refine .inl (e3.mono ?_)
     rintro r rfl
     conv=>whnf
     rw [ltB_f (by omega)]
     conv=>whnf
     rw [eqB_t (by omega)]
     conv=>whnf
     refine .inr (.inl ⟨[],false,?_⟩)
     conv=>whnf
     refine h2.mono ?_
     rintro o st' ⟨rfl,rfl⟩
     conv=>whnf
     refine .inl (e1.mono ?_)
     rintro r rfl
     conv=>whnf
     refine .inl (e3.mono ?_)
     rintro r rfl
     conv=>whnf
     rw [ltB_f (by omega)]
     conv=>whnf
     rw [eqB_t (by omega)]
     conv=>whnf
   | cons a ov =>
     have hl:(a::ov).length≤1048576:=hc.n
     have e1:=eqCommit_own a ov t n hl
     have e2:=markCommit_own (a::ov) t n 1 (by omega) (by omega)
     have e3:=heldCommit_own 1 (a::ov).length t n (by omega) (by omega)
     refine pure_of_awp good Tryd.func3 rfl (by kernel_rfl) (by decide) ?_
     conv=>whnf
     rw [ltB_f (by omega)]
     conv=>whnf
     refine .inr (.inl ⟨[],false,?_⟩)
     conv=>whnf
     refine h1.mono ?_
     rintro o st' ⟨rfl,rfl⟩
     conv=>whnf
     refine .inr (.inl ⟨[],false,?_⟩)
     conv=>whnf
     refine h2.mono ?_
     rintro o st' ⟨rfl,rfl⟩
     conv=>whnf
     refine ⟨[2,0],false,?_⟩
     conv=>whnf
     refine e1.mono ?_
     rintro o st' ⟨rfl,rfl⟩
     conv=>whnf
     refine ⟨[2],false,?_⟩
     conv=>whnf
     refine e2.mono ?_
     rintro o st' ⟨rfl,rfl⟩
     conv=>whnf
     refine ⟨[2],false,?_⟩
     conv=>whnf
     refine e3.mono ?_
     rintro o st' ⟨rfl,rfl⟩
     conv=>whnf
     rw [ltB_f (by omega)]
     conv=>whnf
     rw [eqB_t (by omega)]
     conv=>whnf
     refine .inr (.inl ⟨[],false,?_⟩)
     conv=>whnf
     refine h2.mono ?_
     rintro o st' ⟨rfl,rfl⟩
     conv=>whnf
     refine ⟨[4,0],false,?_⟩
     conv=>whnf
     refine e1.mono ?_
     rintro o st' ⟨rfl,rfl⟩
     conv=>whnf
     refine ⟨[2],false,?_⟩
     conv=>whnf
     refine e3.mono ?_
     rintro o st' ⟨rfl,rfl⟩
     conv=>whnf
     rw [ltB_f (by omega)]
     conv=>whnf
     rw [eqB_t (by omega)]
     conv=>whnf
end Go.Cod
set_option linter.all false
namespace Go.Cod
variable [Adr]
open Go Go.Proofs Go.ChangeShapes Go.WideShapes Go.ChangeAt Go.RowKit
set_option maxRecDepth 10000
omit [Adr] in
theorem ownK:ownKnob Tryd.prog.godebug=none:=by kernel_rfl
theorem lawFnExactCommitRead (s:List UInt8) (h:s.length≤maxLen):Pure Tryd.prog 3 [.str s] (·=.bool true):=law_commitRead s
omit [Adr]
theorem conFnExactCommitRead (H:Type) (enc:TypeId × Value→H) (W:World) (base:Nat) (args:Array Value) (ds gs:List (DataW H)) (before:List MemPlace)
  (hval:∀ (j:Nat) t v,Tryd.f3.params[j]? = some t→args[j]? = some v→Value.okWide Tryd.prog W .any base t v)
  (hW:DataW.Whole enc Tryd.prog Tryd.f3.params.toList YtopphkdhggienaaDoor.Rows.fnExactCommitReadSpec.vars false W args.toList ds gs before) (hL:laidMetH Tryd.prog YtopphkdhggienaaDoor.Rows.fnExactCommitReadRow.laid W) {fresh handsOn again:Bool} :
  Calls Tryd.prog 3 args W fun e W'=>∃ v,e=.returned v∧YtopphkdhggienaaDoor.Rows.fnExactCommitReadSpec.post enc Tryd.prog Tryd.f3 false fresh handsOn again W args v W':=by
 have hm:laidMet Tryd.prog YtopphkdhggienaaDoor.Rows.fnExactCommitReadRow.laid W:=by
  rw [← MakeChecks.laidMetH_plain _ _ _ (by kernel_rfl)]; exact hL
 obtain ⟨⟨a0,c0,l0⟩,hm⟩:=laid_err hm (g:=0) (by kernel_rfl) (by kernel_rfl)
 letI A:Adr:=⟨fun g=>match g with | 0=>a0 | _=>default⟩
 have hlaid:Laid (oldP W) W:=by
  intro g cs h
  match g,h with
  | 0,h=>cases h; exact rep_var c0 l0 rfl
  | g+1,h=>cases h
 refine law_callsV kids full globals_ok (tb:=4) rfl Tryd.underlying4 (by decide +kernel) hW (fun ds gs h h'=>by match ds,gs,h,h' with | [_],[_],_,_=>exact ⟨rfl,rfl,rfl⟩) hval
  (Ss:=[fun x=>∃ s,[x]=[.str s]∧s.length≤maxLen]) hlaid ?_ ?_
 · rw [Tryd.params3]
   exact ⟨readsA_str Tryd.underlying9,trivial⟩
 · intro xs h
   obtain ⟨_,rfl,⟨t0,e0,h0⟩⟩:=hold1 h
   cases e0
   exact lawFnExactCommitRead t0 h0
theorem doorFnExactCommitRead (os:Os) (args:Array Value):laidMetH Tryd.prog YtopphkdhggienaaDoor.Rows.fnExactCommitReadRow.laid ((World.doorLaid Tryd.prog 400 os).forCall (fun _ _=>0) ⟨#[],args,[]⟩).memory :=
 laidMetH_of_parts3 (fuel:=8) (laidMet_of_run' 8 (by kernel_rfl) (by kernel_rfl)) (by kernel_rfl) (by kernel_rfl)
set_option maxRecDepth 100000 in
theorem rowFnExactCommitRead:YtopphkdhggienaaDoor.Rows.FnExactCommitReadSaid :=
 OpenClaim.holds_of_wide 3 Tryd.f3 rfl rfl rfl rfl rfl rfl rfl ⟨rfl,rfl,rfl,rfl,rfl⟩ rfl rfl rfl rfl rfl (by kernel_rfl) Tryd.func3 (by kernel_rfl)
  (of_decide_eq_true (by kernel_rfl)) (by unfold Func.isWrapper; first | (rw [if_pos (by decide +kernel)]; kernel_rfl) | (rw [if_neg (by decide +kernel)]; exact ⟨rfl,rfl⟩))
  (fun os started H enc _=>returnsInHanded_of_change_and (C:=Tryd.checked) (X:=fun w _=>laidMetH Tryd.prog YtopphkdhggienaaDoor.Rows.fnExactCommitReadRow.laid w) (fun _ _ _ hh h=>h.of_heap hh) ownK started (by kernel_rfl) Tryd.func3
    (ChangeSpec.witness_shaped (enc := enc) (C := Tryd.checked) (os := os) (X := fun w _ => laidMetH Tryd.prog YtopphkdhggienaaDoor.Rows.fnExactCommitReadRow.laid w) false (World.doorLaid Tryd.prog 400 os) #[.string "".toByteArray] 8 rfl (World.shaped_of_RefB (by kernel_rfl) (by kernel_rfl)) (by kernel_rfl) (by kernel_rfl) (by kernel_rfl) (doorFnExactCommitRead os _))
    (fun W base args ds gs before hval hW _ _ hL _=>conFnExactCommitRead H enc W base args ds gs before hval hW hL))
set_option maxRecDepth 100000 in
theorem overFnExactCommitRead:YtopphkdhggienaaDoor.Rows.FnExactCommitReadCardSaid :=
 Claim7.holds_tied_plain_at .later [] [.sentinel] true (true, "0d6c92ed18f6899485051ab1470b8303ef4cc341678251e7a6c38efe506ab368") false
  rowFnExactCommitRead (fun _ h=>by cases h) (by kernel_rfl) (fun _ h=>by cases h) YtopphkdhggienaaDoor.fnExactCommitRead_row_tie rfl ⟨rfl,rfl⟩ (by kernel_rfl) rfl
  (fun f fn hf hfn=>by
    obtain rfl : f = 3 := Option.some.inj ((show Tryd.prog.funcNamed "loop.example/codicil/laws.FnExactCommitRead" = some 3 by kernel_rfl).symm.trans hf) |>.symm
    obtain rfl:fn=Tryd.f3:=(Option.some.inj (Tryd.func3.symm.trans hfn)).symm
    exact ⟨by kernel_rfl,fun j t ht=>by
     rw [Tryd.params3] at ht
     have hm:t∈([9]:List Nat):=by simpa using Array.mem_of_getElem? ht
     have hall:(([9]:List Nat).all fun u=>!Tryd.prog.wantsStandIn u)=true:=by kernel_rfl
     exact (show Tryd.prog.wantsStandIn t=false by simpa using List.all_eq_true.1 hall t hm)⟩)
  (by kernel_rfl)
end Go.Cod
