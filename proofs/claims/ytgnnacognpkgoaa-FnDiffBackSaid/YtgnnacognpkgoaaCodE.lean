import Derived.Test.YtgnnacognpkgoaaChecked
import Derived.Test.YtgnnacognpkgoaaRows
import Derived.WalkKit
import Derived.ProofKit
import Derived.OpenShut
import Derived.JoinedOf
import Derived.Handed
import Derived.Test.YtgnnacognpkgoaaCodD
namespace Go.Cod
open Go Go.Proofs
instance lam0:Lam:=⟨fun _=>none,fun g=>Nat.beq g 114,fun g=>Nat.beq g 42||Nat.beq g 43||Nat.beq g 88,fun g=>Nat.beq g 70||Nat.beq g 142,fun g=>Nat.beq g 28⟩
theorem laid0 {Pr:Nat→Nat→Prop} {w:World}:Laid Pr w:=fun g cs h=>by cases h
def tauL:List (Nat × TI):=[
 (1,⟨.other,1,8,.raw .nilFunc,[],[],false⟩),
 (2,⟨.int .i64,1,8,.int .i64 0,[],[],false⟩),
 (3,⟨.int .i64,1,8,.int .i64 0,[],[],false⟩),
 (4,⟨.bool,1,1,.bool false,[],[],false⟩),
 (5,⟨.int .u8,1,1,.int .u8 0,[],[],false⟩),
 (6,⟨.int .u8,1,1,.int .u8 0,[],[],false⟩),
 (7,⟨.agg,4,24,.agg [.int .i64 0,.int .i64 0,.bool false,.int .u8 0],[(0,1,false),(1,1,false),(2,1,false),(3,1,false)],[],false⟩),
 (8,⟨.agg,4,24,.agg [.int .i64 0,.int .i64 0,.bool false,.int .u8 0],[(0,1,false),(1,1,false),(2,1,false),(3,1,false)],[],false⟩),
 (9,⟨.str,1,16,.str [],[],[],false⟩),
 (10,⟨.str,1,16,.str [],[],[],false⟩),
 (11,⟨.str,1,16,.str [],[],[],false⟩),
 (12,⟨.int .u64,1,8,.int .u64 0,[],[],false⟩),
 (13,⟨.agg,2,24,.agg [.str [],.int .u64 0],[(0,1,false),(1,1,false)],[],false⟩),
 (14,⟨.agg,2,24,.agg [.str [],.int .u64 0],[(0,1,false),(1,1,false)],[],false⟩),
 (15,⟨.ptr,1,8,.raw (.pointer none),[],[],false⟩),
 (16,⟨.ptr,1,8,.raw (.pointer none),[],[],false⟩),
 (17,⟨.ptr,1,8,.raw (.pointer none),[],[],false⟩),
 (18,⟨.agg,1,8,.agg [.raw (.pointer none)],[(0,1,false)],[],false⟩),
 (19,⟨.agg,1,8,.agg [.raw (.pointer none)],[(0,1,false)],[],false⟩),
 (20,⟨.iface,1,16,.raw .nilIface,[],[],false⟩),
 (21,⟨.int .i32,1,4,.int .i32 0,[],[],false⟩),
 (22,⟨.slice 5,1,24,.nils,[],[],false⟩),
 (23,⟨.slice 25,1,24,.nils,[],[],false⟩),
 (24,⟨.agg,4,64,.agg [.int .i64 0,.str [],.str [],.nils],[(0,1,false),(1,1,false),(2,1,false),(3,1,false)],[],false⟩),
 (25,⟨.agg,4,64,.agg [.int .i64 0,.str [],.str [],.nils],[(0,1,false),(1,1,false),(2,1,false),(3,1,false)],[],false⟩),
 (27,⟨.other,1,8,.raw .nilFunc,[],[],false⟩),
 (28,⟨.slice 36,1,24,.nils,[],[],false⟩),
 (30,⟨.other,1,8,.raw .nilFunc,[],[],false⟩),
 (31,⟨.other,1,8,.raw .nilFunc,[],[],false⟩),
 (32,⟨.other,1,8,.raw .nilFunc,[],[],false⟩),
 (34,⟨.other,1,8,.raw .nilFunc,[],[],false⟩),
 (35,⟨.agg,8,104,.agg [.int .i64 0,.int .i64 0,.int .i64 0,.int .i64 0,.str [],.str [],.nils,.str []],[(0,1,false),(1,1,false),(2,1,false),(3,4,true),(7,1,false)],[],false⟩),
 (36,⟨.agg,8,104,.agg [.int .i64 0,.int .i64 0,.int .i64 0,.int .i64 0,.str [],.str [],.nils,.str []],[(0,1,false),(1,1,false),(2,1,false),(3,4,true),(7,1,false)],[],false⟩),
 (37,⟨.other,1,8,.raw .nilFunc,[],[],false⟩),
 (38,⟨.other,1,8,.raw .nilFunc,[],[],false⟩),
 (39,⟨.other,1,8,.raw .nilFunc,[],[],false⟩),
 (40,⟨.other,1,8,.raw .nilFunc,[],[],false⟩),
 (41,⟨.other,1,8,.raw .nilFunc,[],[],false⟩),
 (42,⟨.other,1,8,.raw .nilFunc,[],[],false⟩),
 (43,⟨.other,1,8,.raw .nilFunc,[],[],false⟩),
 (44,⟨.slice 46,1,24,.nils,[],[],false⟩),
 (45,⟨.agg,4,64,.agg [.int .i64 0,.str [],.str [],.nils],[(0,1,false),(1,1,false),(2,1,false),(3,1,false)],[],false⟩),
 (46,⟨.agg,4,64,.agg [.int .i64 0,.str [],.str [],.nils],[(0,1,false),(1,1,false),(2,1,false),(3,1,false)],[],false⟩),
 (47,⟨.other,1,8,.raw .nilFunc,[],[],false⟩),
 (48,⟨.other,1,8,.raw .nilFunc,[],[],false⟩),
 (49,⟨.other,1,8,.raw .nilFunc,[],[],false⟩),
 (50,⟨.other,1,8,.raw .nilFunc,[],[],false⟩),
 (51, ⟨.ptr, 1, 8, .raw (.pointer none), [], [("loop.example/codicil/spec.of", 63), ("loop.example/codicil/spec.pick", 30)], false⟩),
 (52,⟨.other,1,8,.raw .nilFunc,[],[],false⟩),
 (53,⟨.other,1,8,.raw .nilFunc,[],[],false⟩),
 (54,⟨.other,1,8,.raw .nilFunc,[],[],false⟩),
 (55,⟨.other,1,8,.raw .nilFunc,[],[],false⟩),
 (56,⟨.other,1,8,.raw .nilFunc,[],[],false⟩),
 (57,⟨.slice 61,1,24,.nils,[],[],false⟩),
 (58,⟨.other,1,8,.raw .nilFunc,[],[],false⟩),
 (59,⟨.map 3 4,1,8,.raw (.map none),[],[],false⟩),
 (60,⟨.agg,8,128,.agg [.int .i64 0,.str [],.str [],.nils,.int .i64 0,.str [],.str [],.nils],[(0,4,true),(4,4,true)],[],false⟩),
 (61,⟨.agg,8,128,.agg [.int .i64 0,.str [],.str [],.nils,.int .i64 0,.str [],.str [],.nils],[(0,4,true),(4,4,true)],[],false⟩),
 (62,⟨.other,1,8,.raw .nilFunc,[],[],false⟩),
 (63,⟨.other,1,8,.raw .nilFunc,[],[],false⟩),
 (64, ⟨.ptr, 1, 8, .raw (.pointer none), [], [("loop.example/codicil/spec.node", 36)], false⟩),
 (65,⟨.agg,3,72,.agg [.nils,.nils,.nils],[(0,1,false),(1,1,false),(2,1,false)],[],false⟩),
 (66,⟨.agg,3,72,.agg [.nils,.nils,.nils],[(0,1,false),(1,1,false),(2,1,false)],[],false⟩),
 (67,⟨.other,1,8,.raw .nilFunc,[],[],false⟩),
 (68,⟨.other,1,8,.raw .nilFunc,[],[],false⟩),
 (69,⟨.other,1,8,.raw .nilFunc,[],[],false⟩),
 (70,⟨.slice 3,1,24,.nils,[],[],false⟩),
 (71,⟨.other,1,8,.raw .nilFunc,[],[],false⟩),
 (72,⟨.other,1,8,.raw .nilFunc,[],[],false⟩),
 (73,⟨.iface,1,16,.raw .nilIface,[],[],false⟩),
 (74,⟨.iface,1,16,.raw .nilIface,[],[],false⟩),
 (76,⟨.other,1,8,.raw .nilFunc,[],[],false⟩),
 (77,⟨.other,1,8,.raw .nilFunc,[],[],false⟩),
 (78,⟨.other,1,8,.raw .nilFunc,[],[],false⟩),
 (79,⟨.other,1,8,.raw .nilFunc,[],[],false⟩),
 (80,⟨.other,1,8,.raw .nilFunc,[],[],false⟩),
 (81,⟨.other,1,8,.raw .nilFunc,[],[],false⟩),
 (82,⟨.other,1,8,.raw .nilFunc,[],[],false⟩),
 (83,⟨.agg,6,80,.agg [.int .i64 0,.str [],.str [],.nils,.int .i64 0,.int .i64 0],[(0,4,true),(4,1,false),(5,1,false)],[],false⟩),
 (84,⟨.agg,6,80,.agg [.int .i64 0,.str [],.str [],.nils,.int .i64 0,.int .i64 0],[(0,4,true),(4,1,false),(5,1,false)],[],false⟩),
 (86,⟨.other,1,8,.raw .nilFunc,[],[],false⟩),
 (88,⟨.other,1,8,.raw .nilFunc,[],[],false⟩),
 (89,⟨.other,1,8,.raw .nilFunc,[],[],false⟩),
 (90,⟨.other,1,8,.raw .nilFunc,[],[],false⟩),
 (91,⟨.other,1,8,.raw .nilFunc,[],[],false⟩),
 (92,⟨.other,1,8,.raw .nilFunc,[],[],false⟩),
 (93,⟨.other,1,8,.raw .nilFunc,[],[],false⟩),
 (94,⟨.other,1,8,.raw .nilFunc,[],[],false⟩),
 (95,⟨.agg,2,32,.agg [.nils,.int .i64 0],[(0,1,false),(1,1,false)],[],false⟩),
 (96,⟨.agg,2,32,.agg [.nils,.int .i64 0],[(0,1,false),(1,1,false)],[],false⟩),
 (97,⟨.other,1,8,.raw .nilFunc,[],[],false⟩),
 (98,⟨.ptr,1,8,.raw (.pointer none),[],[],false⟩),
 (99,⟨.other,1,8,.raw .nilFunc,[],[],false⟩),
 (100,⟨.other,1,8,.raw .nilFunc,[],[],false⟩),
 (101,⟨.slice 136,1,24,.nils,[],[],false⟩),
 (102,⟨.agg,2,40,.agg [.str [],.nils],[(0,1,false),(1,1,false)],[],false⟩),
 (103,⟨.agg,2,40,.agg [.str [],.nils],[(0,1,false),(1,1,false)],[],false⟩),
 (104,⟨.other,1,8,.raw .nilFunc,[],[],false⟩),
 (105,⟨.other,1,8,.raw .nilFunc,[],[],false⟩),
 (106,⟨.slice 9,1,24,.nils,[],[],false⟩),
 (107,⟨.other,1,8,.raw .nilFunc,[],[],false⟩),
 (108,⟨.other,1,8,.raw .nilFunc,[],[],false⟩),
 (109,⟨.other,1,8,.raw .nilFunc,[],[],false⟩),
 (110,⟨.other,1,8,.raw .nilFunc,[],[],false⟩),
 (111,⟨.agg,6,80,.agg [.int .i64 0,.int .i64 0,.int .i64 0,.str [],.str [],.nils],[(0,1,false),(1,1,false),(2,4,true)],[],false⟩),
 (112, ⟨.agg, 6, 80, .agg [.int .i64 0, .int .i64 0, .int .i64 0, .str [], .str [], .nils], [(0, 1, false), (1, 1, false), (2, 4, true)], [("loop.example/codicil/impl.do", 110), ("loop.example/codicil/impl.undo", 111)], false⟩),
 (113,⟨.agg,1,8,.agg [.int .i64 0],[(0,1,false)],[],false⟩),
 (114, ⟨.agg, 1, 8, .agg [.int .i64 0], [(0, 1, false)], [("loop.example/codicil/impl.do", 118), ("loop.example/codicil/impl.undo", 119)], false⟩),
 (115,⟨.other,1,8,.raw .nilFunc,[],[],false⟩),
 (116,⟨.agg,2,24,.agg [.int .i64 0,.str []],[(0,1,false),(1,1,false)],[],false⟩),
 (117, ⟨.agg, 2, 24, .agg [.int .i64 0, .str []], [(0, 1, false), (1, 1, false)], [("loop.example/codicil/impl.do", 121), ("loop.example/codicil/impl.undo", 122)], false⟩),
 (118,⟨.agg,2,24,.agg [.int .i64 0,.str []],[(0,1,false),(1,1,false)],[],false⟩),
 (119, ⟨.agg, 2, 24, .agg [.int .i64 0, .str []], [(0, 1, false), (1, 1, false)], [("loop.example/codicil/impl.do", 123), ("loop.example/codicil/impl.undo", 124)], false⟩),
 (120,⟨.ptr,1,8,.raw (.pointer none),[],[],false⟩),
 (121,⟨.other,1,8,.raw .nilFunc,[],[],false⟩),
 (122,⟨.other,1,8,.raw .nilFunc,[],[],false⟩),
 (123,⟨.other,1,8,.raw .nilFunc,[],[],false⟩),
 (124,⟨.other,1,8,.raw .nilFunc,[],[],false⟩),
 (125,⟨.other,1,8,.raw .nilFunc,[],[],false⟩),
 (126,⟨.other,1,8,.raw .nilFunc,[],[],false⟩),
 (127,⟨.other,1,8,.raw .nilFunc,[],[],false⟩),
 (128,⟨.other,1,8,.raw .nilFunc,[],[],false⟩),
 (129,⟨.other,1,8,.raw .nilFunc,[],[],false⟩),
 (130,⟨.other,1,8,.raw .nilFunc,[],[],false⟩),
 (131,⟨.other,1,8,.raw .nilFunc,[],[],false⟩),
 (132,⟨.agg,3,24,.agg [.str [],.bool false,.bool false],[(0,1,false),(1,1,false),(2,1,false)],[],false⟩),
 (133,⟨.agg,3,24,.agg [.str [],.bool false,.bool false],[(0,1,false),(1,1,false),(2,1,false)],[],false⟩),
 (134,⟨.slice 133,1,24,.nils,[],[],false⟩),
 (135,⟨.agg,3,48,.agg [.str [],.bool false,.nils],[(0,1,false),(1,1,false),(2,1,false)],[],false⟩),
 (136,⟨.agg,3,48,.agg [.str [],.bool false,.nils],[(0,1,false),(1,1,false),(2,1,false)],[],false⟩),
 (137,⟨.map 146 3,1,8,.raw (.map none),[],[],false⟩),
 (138,⟨.agg,3,56,.agg [.nils,.nils,.raw (.map none)],[(0,1,false),(1,1,false),(2,1,false)],[],false⟩),
 (139, ⟨.agg, 3, 56, .agg [.nils, .nils, .raw (.map none)], [(0, 1, false), (1, 1, false), (2, 1, false)], [("loop.example/codicil/impl.longest", 88)], false⟩),
 (140,⟨.other,1,8,.raw .nilFunc,[],[],false⟩),
 (141,⟨.other,1,8,.raw .nilFunc,[],[],false⟩),
 (142,⟨.slice 70,1,24,.nils,[],[],false⟩),
 (143,⟨.other,1,8,.raw .nilFunc,[],[],false⟩),
 (144,⟨.other,1,8,.raw .nilFunc,[],[],false⟩),
 (145,⟨.other,1,8,.raw .nilFunc,[],[],false⟩),
 (146,⟨.agg,2,16,.agg [.int .i64 0,.int .i64 0],[],[],true⟩),
 (148,⟨.other,1,8,.raw .nilFunc,[],[],false⟩),
 (149,⟨.agg,4,40,.agg [.raw (.pointer none),.raw (.pointer none),.raw (.pointer none),.str []],[(0,1,false),(1,1,false),(2,1,false),(3,1,false)],[],false⟩),
 (150,⟨.agg,4,40,.agg [.raw (.pointer none),.raw (.pointer none),.raw (.pointer none),.str []],[(0,1,false),(1,1,false),(2,1,false),(3,1,false)],[],false⟩),
 (154,⟨.other,1,8,.raw .nilFunc,[],[],false⟩),
 (155,⟨.int .u32,1,4,.int .u32 0,[],[],false⟩),
 (156,⟨.int .u8,1,1,.int .u8 0,[],[],false⟩),
 (157,⟨.int .u8,1,1,.int .u8 0,[],[],false⟩),
 (158,⟨.other,1,8,.raw .nilFunc,[],[],false⟩),
 (159,⟨.ptr,1,8,.raw (.pointer none),[],[],false⟩),
 (160,⟨.int .i32,1,4,.int .i32 0,[],[],false⟩),
 (161,⟨.int .i32,1,4,.int .i32 0,[],[],false⟩),
 (162,⟨.agg,11,48,.agg [.int .u64 0,.int .u64 0,.int .u32 0,.int .u8 0,.int .u8 0,.int .u8 0,.int .u8 0,.raw .nilFunc,.raw (.pointer none),.int .i32 0,.int .i32 0],[(0,1,false),(1,1,false),(2,1,false),(3,1,false),(4,1,false),(5,1,false),(6,1,false),(7,1,false),(8,1,false),(9,1,false),(10,1,false)],[],false⟩),
 (163,⟨.agg,11,48,.agg [.int .u64 0,.int .u64 0,.int .u32 0,.int .u8 0,.int .u8 0,.int .u8 0,.int .u8 0,.raw .nilFunc,.raw (.pointer none),.int .i32 0,.int .i32 0],[(0,1,false),(1,1,false),(2,1,false),(3,1,false),(4,1,false),(5,1,false),(6,1,false),(7,1,false),(8,1,false),(9,1,false),(10,1,false)],[],false⟩),
 (164,⟨.other,1,8,.raw .nilFunc,[],[],false⟩),
 (165,⟨.other,1,8,.raw .nilFunc,[],[],false⟩),
 (166,⟨.other,1,8,.raw .nilFunc,[],[],false⟩),
 (167,⟨.other,1,8,.raw .nilFunc,[],[],false⟩),
 (168,⟨.other,1,8,.raw .nilFunc,[],[],false⟩)]
theorem good:TauGood Try.prog (tauOf tauL):=tauGood (by kernel_rfl) (by kernel_rfl) (by decide)
end Go.Cod
namespace Go.Cod
open Go Go.Proofs
set_option maxRecDepth 10000
theorem l1In_pure (a b c:Int):Pure Try.prog 71 [.int .i64 a,.int .i64 b,.int .i64 c] (·=.bool (decide (b≤a∧a≤c))):=by
 refine pure_of_awp good Try.func71 rfl (by kernel_rfl) (by decide) ?_
 conv=>whnf
 by_cases h1:b≤a
 · rw [leB_t h1]
   conv=>whnf
   simp [h1,leB_def]
 · rw [leB_f (by omega)]
   conv=>whnf
   simp [h1]
def lowerB (c:UInt8):Bool:=decide (97≤c.toNat∧c.toNat≤122)
def lower (s:List UInt8):Bool:=s.all lowerB
def nameL (s:List UInt8):Bool:=lower s&&decide (1≤(s.length:Int)∧(s.length:Int)≤8)
theorem take_all {p:UInt8→Bool} {s:List UInt8} {i:Nat} (h:i < s.length):(s.take (i+1)).all p=((s.take i).all p&&p s[i]):=by
 rw [List.take_succ_eq_append_getElem h,List.all_append]; simp
theorem l2Name_pure (s:List UInt8) (hs:s.length≤9223372036854775806):Pure Try.prog 72 [.str s] (·=.bool (nameL s)):=by
 refine pure_of_awp good Try.func72 rfl (by kernel_rfl) (by decide) ?_
 conv=>whnf
 refine loop_intro (fun n fr st=>st=[]∧∃ i:Nat,n+i=s.length∧lower (s.take i)=true∧Holds fr [(0,.str s),(3,.int .i64 i)]) s.length ⟨rfl,0,rfl,rfl,rfl,rfl,trivial⟩ ?_
 rintro n fr st ⟨rfl,i,hi,hlow,hh⟩
 obtain ⟨fr,rfl⟩:=hh.split
 clear hh
 conv=>whnf
 by_cases hlt:i < s.length
 · rw [ltB_t (by omega)]
   have hstep:=take_all (p:=lowerB) hlt
   conv=>whnf
   refine ⟨by omega,s[i],by simp [hlt],?_⟩
   conv=>whnf
   by_cases h1:(97:Int)≤(s[i].toNat:Int)
   · rw [ltB_f (by omega)]
     conv=>whnf
     refine ⟨by omega,s[i],by simp [hlt],?_⟩
     conv=>whnf
     by_cases h2:(s[i].toNat:Int)≤122
     · rw [ltB_f (by omega)]
       conv=>whnf
       refine ⟨n - 1,by omega,rfl,i+1,by omega,?_,?_⟩
       · unfold lower at *; rw [hstep,hlow]; simp [lowerB]; omega
       · refine ⟨rfl,?_,trivial⟩
         show V.int .i64 (IntKind.i64.wrap (i+1))=_
         rw [wrap64 (by omega) (by omega)]; simp
     · rw [ltB_t (by omega)]
       conv=>whnf
       have hf:lower s=false:=by
        unfold lower
        rw [List.all_eq_false]
        exact ⟨s[i],List.getElem_mem _,by simp only [lowerB,decide_eq_true_eq]; omega⟩
       simp only [nameL,hf,Bool.false_and]
   · rw [ltB_t (by omega)]
     conv=>whnf
     have hf:lower s=false:=by
      unfold lower
      rw [List.all_eq_false]
      exact ⟨s[i],List.getElem_mem _,by simp only [lowerB,decide_eq_true_eq]; omega⟩
     simp only [nameL,hf,Bool.false_and]
 · rw [ltB_f (by omega)]
   conv=>whnf
   refine .inl ((l1In_pure _ _ _).mono ?_)
   rintro r rfl
   conv=>whnf
   have:s.take i=s:=List.take_of_length_le (by omega)
   rw [this] at hlow
   simp [nameL,hlow]
end Go.Cod
namespace Go.Cod
open Go Go.Proofs Go.ChangeShapes Go.WideShapes Go.ChangeAt Go.RowKit
set_option maxRecDepth 10000
inductive T where
 | mk (id:Int) (kind text:List UInt8) (kids:List T)
mutual
def T.cells:T→List V
 | .mk id kind text kids=>[.int .i64 id,.str kind,.str text,.sl (T.rows kids)]
def T.rows:List T→List (List V)
 | []=>[]
 | t::ts=>t.cells::T.rows ts
end
theorem T.rows_eq (ts:List T):T.rows ts=ts.map T.cells:=by
 induction ts with
 | nil=>rfl
 | cons t ts ih=>simp [T.rows,ih]
theorem kids:Kids Try.prog (· < Try.prog.types.size):=kids_rows (by kernel_rfl) (by kernel_rfl)
theorem full:∀ t e,t < Try.prog.types.size→Try.prog.underlying t=some (.slice e)→0 < Try.prog.cellsOf e:=slices_full_of Try.prog (by kernel_rfl)
end Go.Cod
namespace Go.Cod
open Go Go.Proofs
set_option maxRecDepth 10000
def T.kids:T→List T
 | .mk _ _ _ kids=>kids
theorem rows_get (ts:List T) (i:Nat) (h:i < ts.length):(T.rows ts)[i]? = some ts[i].cells:=by
 rw [T.rows_eq]; simp [h]
theorem rows_len (ts:List T):(T.rows ts).length=ts.length:=by rw [T.rows_eq]; simp
theorem cells_len (t:T):t.cells.length=4:=by cases t; rfl
end Go.Cod
namespace Go.Cod
open Go Go.Proofs
set_option maxRecDepth 10000
inductive T.Small:T→Prop
 | mk {id kind text kids} (h1:-9223372036854775808≤id∧id≤9223372036854775807) (h2:kind.length≤1048576) (h3:text.length≤1048576) (h4:kids.length≤1048576) (h5:∀ t∈kids,T.Small t):T.Small (.mk id kind text kids)
def zrow:List V:=[.int .i64 0,.str [],.str [],.nils]
end Go.Cod
namespace Go.Cod
open Go Go.Proofs
set_option maxRecDepth 10000
theorem eqB_refl (a:Int):eqB a a=true:=by rw [eqB_def]; simp
theorem eqS_refl (a:List UInt8):eqS a a=true:=by rw [eqS_def]; simp
end Go.Cod
namespace Go.Cod
open Go Go.Proofs
set_option maxRecDepth 10000
def irows (ns:List Int):List (List V):=ns.map fun n=>[.int .i64 n]
theorem irows_len (ns:List Int):(irows ns).length=ns.length:=by simp [irows]
theorem irows_get (ns:List Int) (i:Nat) (h:i < ns.length):(irows ns)[i]? = some [.int .i64 ns[i]]:=by simp [irows,h]
theorem l2Has_pure (ns:List Int) (x:Int) (hl:ns.length≤9223372036854775806):Pure Try.prog 40 [.sl (irows ns),.int .i64 x] (·=.bool (decide (x∈ns))):=by
 have hlr:=irows_len ns
 refine pure_of_awp good Try.func40 rfl (by kernel_rfl) (by decide) ?_
 conv=>whnf
 refine loop_intro (fun n fr st=>∃ i:Nat,n+i=ns.length∧st=[]∧x∉ns.take i∧Holds fr [(0,.sl (irows ns)),(1,.int .i64 x),(5,.int .i64 i)]) ns.length
  ⟨0,rfl,rfl,by simp,rfl,rfl,rfl,trivial⟩ ?_
 rintro n fr st ⟨i,hi,rfl,hx,hh⟩
 obtain ⟨fr,rfl⟩:=hh.split
 clear hh
 conv=>whnf
 by_cases hlt:i < ns.length
 · rw [ltB_t (by omega)]
   conv=>whnf
   refine ⟨by omega,irows ns,_,1,rfl,irows_get ns i hlt,rfl,rfl,?_⟩
   conv=>whnf
   by_cases he:ns[i]=x
   · rw [eqB_t he]
     conv=>whnf
     have:x∈ns:=he ▸ List.getElem_mem _
     simp [this]
   · rw [eqB_f he]
     conv=>whnf
     refine ⟨n - 1,by omega,i+1,by omega,rfl,?_,rfl,rfl,?_,trivial⟩
     · rw [List.take_succ_eq_append_getElem hlt]
       simp only [List.mem_append,List.mem_singleton,not_or]
       exact ⟨hx,fun h=>he h.symm⟩
     · show V.int .i64 (IntKind.i64.wrap (i+1))=_
       rw [wrap64 (by omega) (by omega)]; simp
 · rw [ltB_f (by omega)]
   conv=>whnf
   rw [List.take_of_length_le (by omega)] at hx
   simp [hx]
mutual
def T.ids:T→List Int
 | .mk id _ _ kids=>id::T.idsL kids
def T.idsL:List T→List Int
 | []=>[]
 | t::ts=>t.ids++T.idsL ts
end
theorem idsL_append (a b:List T):T.idsL (a++b)=T.idsL a++T.idsL b:=by
 induction a with
 | nil=>rfl
 | cons x xs ih=>simp [T.idsL,ih]
theorem idsL_take (ts:List T) (i:Nat) (h:i < ts.length):T.idsL (ts.take (i+1))=T.idsL (ts.take i)++ts[i].ids:=by
 rw [List.take_succ_eq_append_getElem h,idsL_append]; simp [T.idsL]
def textB (c:UInt8):Bool:=decide (32≤c.toNat∧c.toNat≤126∧c.toNat≠34)
def textL (s:List UInt8):Bool:=s.all textB&&decide ((s.length:Int)≤12)
theorem l2Text_pure (s:List UInt8) (hs:s.length≤9223372036854775806):Pure Try.prog 73 [.str s] (·=.bool (textL s)):=by
 have hno:∀ (i:Nat) (h:i < s.length),textB s[i]=false→textL s=false:=by
  intro i h hb
  have:s.all textB=false:=by rw [List.all_eq_false]; exact ⟨s[i],List.getElem_mem _,by simp [hb]⟩
  simp only [textL,this,Bool.false_and]
 refine pure_of_awp good Try.func73 rfl (by kernel_rfl) (by decide) ?_
 conv=>whnf
 refine loop_intro (fun n fr st=>st=[]∧∃ i:Nat,n+i=s.length∧(s.take i).all textB=true∧Holds fr [(0,.str s),(3,.int .i64 i)]) s.length ⟨rfl,0,rfl,rfl,rfl,rfl,trivial⟩ ?_
 rintro n fr st ⟨rfl,i,hi,hlow,hh⟩
 obtain ⟨fr,rfl⟩:=hh.split
 clear hh
 conv=>whnf
 by_cases hlt:i < s.length
 · rw [ltB_t (by omega)]
   have hstep:=take_all (p:=textB) hlt
   have hn:=hno i hlt
   conv=>whnf
   refine ⟨by omega,s[i],by simp [hlt],?_⟩
   conv=>whnf
   by_cases h1:(s[i].toNat:Int) < 32
   · rw [ltB_t h1]
     conv=>whnf
     rw [hn (by simp only [textB,decide_eq_false_iff_not]; omega)]
   rw [ltB_f (by omega)]
   conv=>whnf
   refine ⟨by omega,s[i],by simp [hlt],?_⟩
   conv=>whnf
   by_cases h2:(126:Int) < s[i].toNat
   · rw [ltB_t h2]
     conv=>whnf
     rw [hn (by simp only [textB,decide_eq_false_iff_not]; omega)]
   rw [ltB_f (by omega)]
   conv=>whnf
   refine ⟨by omega,s[i],by simp [hlt],?_⟩
   conv=>whnf
   by_cases h3:(s[i].toNat:Int)=34
   · rw [eqB_t h3]
     conv=>whnf
     rw [hn (by simp only [textB,decide_eq_false_iff_not]; omega)]
   rw [eqB_f h3]
   conv=>whnf
   refine ⟨n - 1,by omega,rfl,i+1,by omega,?_,rfl,?_,trivial⟩
   · rw [hstep,hlow]; simp only [textB,Bool.true_and,decide_eq_true_eq]; omega
   · show V.int .i64 (IntKind.i64.wrap (i+1))=_
     rw [wrap64 (by omega) (by omega)]; simp
 · rw [ltB_f (by omega)]
   conv=>whnf
   rw [List.take_of_length_le (by omega)] at hlow
   show V.bool (leB _ _)=_
   simp [textL,hlow,leB_def]
end Go.Cod
namespace Go.Cod
open Go Go.Proofs
set_option maxRecDepth 10000
mutual
def plainT:T→Int→Bool
 | .mk id kind text kids,lv=>!decide (6 < lv)&&decide (1≤id∧id≤999)&&nameL kind&&textL text&&plainL kids (lv+1)
def plainL:List T→Int→Bool
 | [],_=>true
 | t::ts,lv=>plainT t lv&&plainL ts lv
end
theorem plainL_eq (ts:List T) (lv:Int):plainL ts lv=ts.all fun t=>plainT t lv:=by
 induction ts with
 | nil=>rfl
 | cons t ts ih=>simp [plainL,ih]
theorem l2Plain_pure1 (t:T) (hs:t.Small) (lv:Int) (h0:0≤lv) (h7:lv≤1000) (hT:lv≤6→∀ t'∈t.kids,Pure Try.prog 38 [.agg t'.cells,.int .i64 (lv+1)] (·=.bool (plainT t' (lv+1)))) :
 Pure Try.prog 38 [.agg t.cells,.int .i64 lv] (·=.bool (plainT t lv)):=by
 cases hs with
 | @mk id kind text kids g1 g2 g3 g4 g5 =>
 simp only [T.kids] at hT
 have hlr:=rows_len kids
 refine pure_of_awp good Try.func38 rfl (by kernel_rfl) (by decide) ?_
 conv=>whnf
 by_cases a1:6 < lv
 · rw [ltB_t a1]
   conv=>whnf
   simp [plainT,a1]
 rw [ltB_f (by omega)]
 conv=>whnf
 refine .inl ((l1In_pure _ _ _).mono ?_)
 rintro r rfl
 by_cases a2:1≤id∧id≤999
 case neg =>
  rw [decide_eq_false a2]
  conv=>whnf
  simp [plainT,a2]
 rw [decide_eq_true a2]
 conv=>whnf
 refine .inl ((l2Name_pure kind (by omega)).mono ?_)
 rintro r rfl
 cases a3:nameL kind
 · conv=>whnf
   simp [plainT,a3]
 conv=>whnf
 refine .inl ((l2Text_pure text (by omega)).mono ?_)
 rintro r rfl
 cases a4:textL text
 · conv=>whnf
   simp [plainT,a4]
 conv=>whnf
 have hp:plainT (.mk id kind text kids) lv=plainL kids (lv+1):=by simp [plainT,a1,a2,a3,a4]
 rw [plainL_eq] at hp
 refine loop_intro (fun n fr st=>∃ i:Nat,n+i=kids.length∧st=[⟨[[.int .i64 id,.str kind,.str text,.sl (T.rows kids)]],4,true,true,true,.cell⟩]∧(kids.take i).all (fun t=>plainT t (lv+1))=true∧Holds fr [(1,.int .i64 lv),(2,.ptr 0 0 0),(5,.int .i64 i)]) kids.length
  ⟨0,rfl,rfl,rfl,rfl,rfl,rfl,trivial⟩ ?_
 rintro n fr st ⟨i,hi,rfl,hx,hh⟩
 obtain ⟨fr,rfl⟩:=hh.split
 clear hh
 conv=>whnf
 by_cases hlt:i < kids.length
 · rw [ltB_t (by omega)]
   conv=>whnf
   refine ⟨by omega,T.rows kids,kids[i].cells,4,rfl,rows_get kids i hlt,rfl,cells_len _,?_⟩
   have hc:=hT (by omega) kids[i] (List.getElem_mem _)
   have hst:(kids.take (i+1)).all (fun t=>plainT t (lv+1))=plainT kids[i] (lv+1):=by
    rw [List.take_succ_eq_append_getElem hlt,List.all_append,hx]; simp
   have hno:plainT kids[i] (lv+1)=false→kids.all (fun t=>plainT t (lv+1))=false:=by
    intro h; rw [List.all_eq_false]; exact ⟨kids[i],List.getElem_mem _,by simp [h]⟩
   generalize kids[i]=t at hc hst hno ⊢
   cases t with
   | mk id' kind' text' kids' =>
   conv=>whnf
   rw [wrap64 (by omega) (by omega)]
   refine .inl (hc.mono ?_)
   rintro r rfl
   cases a5:plainT (.mk id' kind' text' kids') (lv+1)
   · conv=>whnf
     rw [hp,hno a5]
   conv=>whnf
   refine ⟨n - 1,by omega,i+1,by omega,rfl,by rw [hst,a5],rfl,rfl,?_,trivial⟩
   show V.int .i64 (IntKind.i64.wrap (i+1))=_
   rw [wrap64 (by omega) (by omega)]; simp
 · rw [ltB_f (by omega)]
   conv=>whnf
   rw [List.take_of_length_le (by omega)] at hx
   rw [hp,hx]
theorem l2Plain_pure (t:T) (hs:t.Small):∀ lv:Int,0≤lv→lv≤1000→Pure Try.prog 38 [.agg t.cells,.int .i64 lv] (·=.bool (plainT t lv)):=by
 induction hs with
 | @mk id kind text kids g1 g2 g3 g4 g5 ih =>
   intro lv h0 h7
   exact l2Plain_pure1 _ (.mk g1 g2 g3 g4 g5) lv h0 h7 fun h t' ht'=>ih t' ht' (lv+1) (by omega) (by omega)
end Go.Cod
namespace Go.Cod
open Go Go.Proofs
set_option maxRecDepth 10000
theorem idsL_split (ts:List T) (i:Nat):T.idsL ts=T.idsL (ts.take i)++T.idsL (ts.drop i):=by
 induction ts generalizing i with
 | nil=>simp [T.idsL]
 | cons t ts ih=>cases i with
   | zero=>simp [T.idsL]
   | succ i=>simp only [List.take_succ_cons,List.drop_succ_cons,T.idsL,List.append_assoc]; rw [← ih i]
theorem irows_wid (l:List Int):∀ m∈irows l,m.length=1:=by simp [irows]
theorem l2Ids_pure1 (t:T) (hs:t.Small) (hn:t.ids.length≤1048577) (hT:∀ t'∈t.kids,(t'.ids).length≤1048577→Pure Try.prog 39 [.agg t'.cells] (·=.sl (irows (t'.ids)))) :
 Pure Try.prog 39 [.agg t.cells] (·=.sl (irows t.ids)):=by
 cases hs with
 | @mk id kind text kids g1 g2 g3 g4 g5 =>
 simp only [T.kids,T.ids,List.length_cons] at hT hn ⊢
 have hlr:=rows_len kids
 refine pure_of_awp good Try.func39 rfl (by kernel_rfl) (by decide) ?_
 conv=>whnf
 refine loop_drop (fun n fr st=>∃ i:Nat,n+i=kids.length∧st=[⟨[[.int .i64 id,.str kind,.str text,.sl (T.rows kids)]],4,true,true,true,.cell⟩,⟨irows (id::T.idsL (kids.take i)),1,true,true,false,.cell⟩]∧Holds fr [(1,.ptr 0 0 0),(3,.own 1),(4,.int .i64 i)]) kids.length none
  ⟨0,rfl,rfl,rfl,rfl,rfl,trivial⟩ ?_
 rintro n fr st ⟨i,hi,rfl,hh⟩
 obtain ⟨fr,rfl⟩:=hh.split
 clear hh
 conv=>whnf
 by_cases hlt:i < kids.length
 · rw [ltB_t (by omega)]
   conv=>whnf
   refine ⟨by omega,T.rows kids,kids[i].cells,4,rfl,rows_get kids i hlt,rfl,cells_len _,?_⟩
   have hsp:=idsL_split kids (i+1)
   have htk:=idsL_take kids i hlt
   have hl1:(T.idsL kids).length=(T.idsL (kids.take (i+1))).length+(T.idsL (kids.drop (i+1))).length:=by rw [hsp]; simp
   have hl2:(T.idsL (kids.take (i+1))).length=(T.idsL (kids.take i)).length+(kids[i].ids).length:=by rw [htk]; simp
   have hc:=hT kids[i] (List.getElem_mem _) (by omega)
   generalize kids[i]=t at hc htk hl2 ⊢
   cases t with
   | mk id' kind' text' kids' =>
   conv=>whnf
   refine .inl (hc.mono ?_)
   rintro r rfl
   conv=>whnf
   refine ⟨irows_wid _,?_⟩
   conv=>whnf
   refine ⟨by rw [irows_len,irows_len]; show (_+_)*8≤_; simp only [List.length_cons]; omega,?_⟩
   conv=>whnf
   refine ⟨n - 1,by omega,some [0,2],?_⟩
   conv=>whnf
   refine ⟨i+1,by omega,?_,rfl,rfl,?_,trivial⟩
   · show [_,_]=[_,_]
     rw [htk]
     simp only [irows,List.map_cons,List.map_append]
     rfl
   · show V.int .i64 (IntKind.i64.wrap (i+1))=_
     rw [wrap64 (by omega) (by omega)]; simp
 · rw [ltB_f (by omega)]
   conv=>whnf
   rw [List.take_of_length_le (by omega)]
theorem l2Ids_pure (t:T) (hs:t.Small):t.ids.length≤1048577→Pure Try.prog 39 [.agg t.cells] (·=.sl (irows t.ids)):=by
 induction hs with
 | @mk id kind text kids g1 g2 g3 g4 g5 ih =>
   intro hn
   exact l2Ids_pure1 _ (.mk g1 g2 g3 g4 g5) hn fun t' ht' h=>ih t' ht' h
theorem nodup_take {l:List Int} {i:Nat} (h:i < l.length):(l.take (i+1)).Nodup↔(l.take i).Nodup∧l[i]∉l.take i:=by
 rw [List.take_succ_eq_append_getElem h,List.nodup_append]
 simp
 intro _
 constructor
 · intro h h2; exact h _ h2 rfl
 · intro h a ha e; exact h (e ▸ ha)
def okT (t:T):Bool:=plainT t 1&&decide t.ids.Nodup&&decide (t.ids.length≤20)
theorem specTreeOk_pure (t:T) (hs:t.Small) (hn:t.ids.length≤1048577):Pure Try.prog 11 [.agg t.cells] (·=.bool (okT t)):=by
 have hp:=l2Plain_pure t hs 1 (by omega) (by omega)
 have hi:=l2Ids_pure t hs hn
 have hok:okT t=(plainT t 1&&decide t.ids.Nodup&&decide (t.ids.length≤20)):=rfl
 generalize okT t=ok at *
 generalize plainT t 1=pl at *
 generalize t.ids=ids at *
 cases t with
 | mk id kind text kids =>
 refine pure_of_awp good Try.func11 rfl (by kernel_rfl) (by decide) ?_
 conv=>whnf
 refine .inl (hp.mono ?_)
 rintro r rfl
 cases pl
 · conv=>whnf
   simp at hok; rw [hok]
 conv=>whnf
 refine .inl (hi.mono ?_)
 rintro r rfl
 conv=>whnf
 refine loop_intro (fun n fr st=>∃ i:Nat,n+i=ids.length∧st=[⟨[[.int .i64 id,.str kind,.str text,.sl (T.rows kids)]],4,true,true,true,.cell⟩]∧(ids.take i).Nodup∧Holds fr [(3,.sl (irows ids)),(4,.int .i64 i)]) ids.length
  ⟨0,rfl,rfl,by simp,rfl,rfl,trivial⟩ ?_
 rintro n fr st ⟨i,hi,rfl,hx,hh⟩
 obtain ⟨fr,rfl⟩:=hh.split
 clear hh
 conv=>whnf
 have hlr:=irows_len ids
 by_cases hlt:i < ids.length
 · rw [ltB_t (by omega)]
   conv=>whnf
   refine ⟨irows_wid _,?_⟩
   conv=>whnf
   refine ⟨by omega,by show Int.toNat (i:Int)≤_; rw [hlr]; omega,rfl,?_⟩
   conv=>whnf
   refine ⟨by omega,irows ids,_,1,rfl,irows_get ids i hlt,rfl,rfl,?_⟩
   conv=>whnf
   have hcut:((irows ids).take (Int.toNat (i:Int))).drop 0=irows (ids.take i):=by simp [irows]
   have hc:=l2Has_pure (ids.take i) ids[i] (by simp; omega)
   rw [← hcut] at hc
   refine ⟨_,.inl hc,?_⟩
   have hnd:=nodup_take hlt
   by_cases hm:ids[i]∈ids.take i
   · rw [decide_eq_true hm]
     conv=>whnf
     have:¬ ids.Nodup:=fun h=>(hnd.1 (h.sublist (List.take_sublist _ _))).2 hm
     simp [this] at hok; rw [hok]
   · rw [decide_eq_false hm]
     conv=>whnf
     refine ⟨n - 1,by omega,i+1,by omega,rfl,hnd.2 ⟨hx,hm⟩,rfl,?_,trivial⟩
     show V.int .i64 (IntKind.i64.wrap (i+1))=_
     rw [wrap64 (by omega) (by omega)]; simp
 · rw [ltB_f (by omega)]
   conv=>whnf
   rw [List.take_of_length_le (by omega)] at hx
   simp only [hx,decide_true,Bool.true_and,Bool.and_true] at hok
   rw [hok,leB_def,hlr]
   congr 1
   exact decide_eq_decide.2 (by omega)
end Go.Cod
namespace Go.Cod
open Go Go.Proofs
set_option maxRecDepth 10000
theorem textHasOnly_pure (s:List UInt8) (hs:s.length≤9223372036854775806) (g:Nat) (p:UInt8→Bool) (hp:∀ b:UInt8,Pure Try.prog g [cellB b] (·=.bool (p b))) :
 Pure Try.prog 78 [.str s,.fn g []] (·=.bool (s.all p)):=by
 refine pure_of_awp good Try.func78 rfl (by kernel_rfl) (by decide) ?_
 conv=>whnf
 refine loop_intro (fun n fr st=>st=[]∧∃ i:Nat,n+i=s.length∧(s.take i).all p=true∧Holds fr [(0,.str s),(1,.fn g []),(7,.int .i64 s.length),(8,.int .i64 i)]) s.length ⟨rfl,0,rfl,rfl,rfl,rfl,rfl,rfl,trivial⟩ ?_
 rintro n fr st ⟨rfl,i,hi,hx,hh⟩
 obtain ⟨fr,rfl⟩:=hh.split
 clear hh
 conv=>whnf
 by_cases hlt:i < s.length
 · rw [ltB_t (by omega)]
   conv=>whnf
   refine ⟨by omega,s[i],by simp [hlt],?_⟩
   conv=>whnf
   have hst:=take_all (p:=p) hlt
   have hno:p s[i]=false→s.all p=false:=by
    intro h; rw [List.all_eq_false]; exact ⟨s[i],List.getElem_mem _,by simp [h]⟩
   refine .inl ((hp s[i]).mono ?_)
   rintro r rfl
   cases a:p s[i]
   · conv=>whnf
     rw [hno a]
   conv=>whnf
   refine ⟨n - 1,by omega,rfl,i+1,by omega,by rw [hst,hx,a]; rfl,rfl,rfl,rfl,?_,trivial⟩
   show V.int .i64 (IntKind.i64.wrap (i+1))=_
   rw [wrap64 (by omega) (by omega)]; simp
 · rw [ltB_f (by omega)]
   conv=>whnf
   rw [List.take_of_length_le (by omega)] at hx
   rw [hx]
theorem isLetter_pure (b:UInt8):Pure Try.prog 92 [cellB b] (·=.bool (lowerB b)):=by
 refine pure_of_awp good Try.func92 rfl (by kernel_rfl) (by decide) ?_
 conv=>whnf
 by_cases h1:(97:Int)≤(b.toNat:Int)
 · rw [leB_t (by omega)]
   conv=>whnf
   congr 1
   rw [leB_def,lowerB]
   exact decide_eq_decide.2 (by omega)
 · rw [leB_f (by omega)]
   conv=>whnf
   have:lowerB b=false:=by unfold lowerB; simp; omega
   rw [this]
theorem isTreeText_pure (b:UInt8):Pure Try.prog 79 [cellB b] (·=.bool (textB b)):=by
 refine pure_of_awp good Try.func79 rfl (by kernel_rfl) (by decide) ?_
 conv=>whnf
 by_cases h1:(32:Int)≤(b.toNat:Int)
 · rw [leB_t (by omega)]
   conv=>whnf
   by_cases h2:(b.toNat:Int)≤126
   · rw [leB_t (by omega)]
     conv=>whnf
     congr 1
     rw [eqB_def]
     have:negB (decide ((b.toNat:Int)=34))=decide (b.toNat≠34):=by
      by_cases h:b.toNat=34
      · simp [h,negB]
      · have:¬ (b.toNat:Int)=34:=by omega
        simp [h,this,negB]
     rw [this,textB]
     exact decide_eq_decide.2 (by omega)
   · rw [leB_f (by omega)]
     conv=>whnf
     have:textB b=false:=by unfold textB; simp; omega
     rw [this]
 · rw [leB_f (by omega)]
   conv=>whnf
   have:textB b=false:=by unfold textB; simp; omega
   rw [this]
theorem nameOk_pure (s:List UInt8) (hs:s.length≤9223372036854775806):Pure Try.prog 77 [.str s] (·=.bool (nameL s)):=by
 refine pure_of_awp good Try.func77 rfl (by kernel_rfl) (by decide) ?_
 conv=>whnf
 by_cases h1:(1:Int)≤(s.length:Int)
 case neg =>
  rw [leB_f (by omega)]
  conv=>whnf
  simp [nameL]; omega
 rw [leB_t (by omega)]
 conv=>whnf
 by_cases h2:(s.length:Int)≤8
 case neg =>
  rw [leB_f (by omega)]
  conv=>whnf
  simp [nameL]; omega
 rw [leB_t (by omega)]
 conv=>whnf
 refine .inl ((textHasOnly_pure s hs _ lowerB isLetter_pure).mono ?_)
 rintro r rfl
 conv=>whnf
 simp [nameL,lower,h1,h2]
def thingB (id:Int) (kind text:List UInt8):Bool:=decide (1≤id∧id≤999)&&nameL kind&&textL text
theorem treeThingOk_pure (id:Int) (kind text:List UInt8) (kids:List T) (h2:kind.length≤9223372036854775806) (h3:text.length≤9223372036854775806) :
 Pure Try.prog 45 [.agg (T.mk id kind text kids).cells] (·=.bool (thingB id kind text)):=by
 refine pure_of_awp good Try.func45 rfl (by kernel_rfl) (by decide) ?_
 conv=>whnf
 by_cases a1:1≤id
 case neg =>
  rw [leB_f (by omega)]
  conv=>whnf
  simp [thingB]; omega
 rw [leB_t (by omega)]
 conv=>whnf
 by_cases a2:id≤999
 case neg =>
  rw [leB_f (by omega)]
  conv=>whnf
  simp [thingB]; omega
 rw [leB_t (by omega)]
 conv=>whnf
 refine .inl ((nameOk_pure kind (by omega)).mono ?_)
 rintro r rfl
 cases a3:nameL kind
 · conv=>whnf
   simp [thingB,a3]
 conv=>whnf
 by_cases a4:(text.length:Int)≤12
 case neg =>
  rw [leB_f (by omega)]
  conv=>whnf
  simp [thingB,textL]; omega
 rw [leB_t (by omega)]
 conv=>whnf
 refine .inl ((textHasOnly_pure text (by omega) _ textB isTreeText_pure).mono ?_)
 rintro r rfl
 conv=>whnf
 simp [thingB,textL,a1,a2,a3,a4]
end Go.Cod
namespace Go.Cod
open Go Go.Proofs
set_option maxRecDepth 10000
abbrev Sp:=T × Int × Int
def spV (s:Sp):V:=.agg (s.1.cells++[.int .i64 s.2.1,.int .i64 s.2.2])
mutual
def spT:T→Int→Int→List Sp
 | .mk id kind text kids,ov,lv=>(.mk id kind text kids,ov,lv)::spL kids id (IntKind.i64.wrap (lv+1))
def spL:List T→Int→Int→List Sp
 | [],_,_=>[]
 | t::ts,ov,lv=>spT t ov lv++spL ts ov lv
end
theorem spL_append (a b:List T) (ov lv:Int):spL (a++b) ov lv=spL a ov lv++spL b ov lv:=by
 induction a with
 | nil=>rfl
 | cons t ts ih=>simp [spL,ih]
def spRows (l:List Sp):List (List V):=l.map fun s=>[spV s]
theorem spRows_append (a b:List Sp):spRows (a++b)=spRows a++spRows b:=by simp [spRows]
def Takes (ok:OkY) (log:List (List V)) (l:List Sp):Prop:=∀ pre v suf,l=pre++v::suf→ok (log++spRows pre) [spV v]
theorem Takes.left {ok:OkY} {log:List (List V)} {a b:List Sp} (h:Takes ok log (a++b)):Takes ok log a:=fun pre v suf e=>h pre v (suf++b) (by rw [e]; simp)
theorem Takes.right {ok:OkY} {log:List (List V)} {a b:List Sp} (h:Takes ok log (a++b)):Takes ok (log++spRows a) b:=fun pre v suf e=>by
 have:=h (a++pre) v suf (by rw [e]; simp)
 rwa [spRows_append,← List.append_assoc] at this
def Walked (log:List (List V)) (l:List Sp) (o:Out) (st':St):Prop:=∃ b log',o=.ret (.bool b)∧st'=[logO log' b]∧(b=true→log'=log++spRows l)
theorem treeWalk_full1 (t:T) (hs:t.Small) (ov lv:Int) (ok:OkY) (log:List (List V)) (hok:Takes ok log (spT t ov lv))
 (hT:∀ t'∈t.kids,∀ (ov lv:Int) (log:List (List V)),Takes ok log (spT t' ov lv)→Full Try.prog ok 76 [spV (t',ov,lv),.yld 0] [logO log true] (Walked log (spT t' ov lv))) :
 Full Try.prog ok 76 [spV (t,ov,lv),.yld 0] [logO log true] (Walked log (spT t ov lv)):=by
 cases hs with
 | @mk id kind text kids g1 g2 g3 g4 g5 =>
 simp only [T.kids] at hT
 have hlr:=rows_len kids
 have hok0:ok log [spV (.mk id kind text kids,ov,lv)]:=by simpa [spRows] using hok [] _ _ rfl
 have hokL:Takes ok (log++[[spV (.mk id kind text kids,ov,lv)]]) (spL kids id (IntKind.i64.wrap (lv+1))):=Takes.right (a:=[(.mk id kind text kids,ov,lv)]) hok
 refine full_of_awp good Try.func76 rfl (by kernel_rfl) (by decide) ?_
 conv=>whnf
 refine ⟨hok0,?_⟩
 intro b
 have hfin:log++[[spV (.mk id kind text kids,ov,lv)]]++spRows (spL kids id (IntKind.i64.wrap (lv+1)))=log++spRows (spT (.mk id kind text kids) ov lv):=by simp [spT,spRows]
 cases b
 · conv=>whnf
   refine ⟨[],false,?_⟩
   conv=>whnf
   exact ⟨false,_,rfl,rfl,by simp⟩
 conv=>whnf
 refine loop_drop (fun n fr st=>∃ i:Nat,n+i=kids.length∧st=[logO (log++[[spV (.mk id kind text kids,ov,lv)]]++spRows (spL (kids.take i) id (IntKind.i64.wrap (lv+1)))) true,⟨[[.int .i64 id,.str kind,.str text,.sl (T.rows kids),.int .i64 ov,.int .i64 lv]],6,true,true,true,.cell⟩]∧Holds fr [(1,.yld 0),(2,.ptr 1 0 0),(13,.sl (T.rows kids)),(14,.int .i64 kids.length),(15,.int .i64 i)]) kids.length none
  ⟨0,rfl,by show [_,_]=[logO (_++[]) true,_]; rw [List.append_nil]; rfl,rfl,rfl,rfl,by rw [← hlr]; rfl,rfl,trivial⟩ ?_
 rintro n fr st ⟨i,hi,rfl,hh⟩
 obtain ⟨fr,rfl⟩:=hh.split
 clear hh
 conv=>whnf
 by_cases hlt:i < kids.length
 · rw [ltB_t (by omega)]
   conv=>whnf
   refine ⟨by omega,T.rows kids,kids[i].cells,4,rfl,rows_get kids i hlt,rfl,cells_len _,?_⟩
   have hc:=hT kids[i] (List.getElem_mem _) id (IntKind.i64.wrap (lv+1)) (log++[[spV (.mk id kind text kids,ov,lv)]]++spRows (spL (kids.take i) id (IntKind.i64.wrap (lv+1)))) (by
    refine Takes.right (Takes.left (b:=spL (kids.drop (i+1)) id (IntKind.i64.wrap (lv+1))) ?_)
    refine cast ?_ hokL
    congr 1
    conv=>lhs; rw [← List.take_append_drop i kids,List.drop_eq_getElem_cons hlt]
    rw [spL_append]; simp [spL])
   have htk:spL (kids.take (i+1)) id (IntKind.i64.wrap (lv+1))=spL (kids.take i) id (IntKind.i64.wrap (lv+1))++spT kids[i] id (IntKind.i64.wrap (lv+1)):=by
    rw [List.take_succ_eq_append_getElem hlt,spL_append]; simp [spL]
   generalize kids[i]=t at hc htk ⊢
   cases t with
   | mk id' kind' text' kids' =>
   conv=>whnf
   refine ⟨[0],false,?_⟩
   conv=>whnf
   refine hc.mono ?_
   rintro o st' ⟨b,log',rfl,rfl,hl⟩
   cases b
   · conv=>whnf
     refine ⟨[],false,?_⟩
     conv=>whnf
     exact ⟨false,_,rfl,rfl,by simp⟩
   conv=>whnf
   refine ⟨n - 1,by omega,some [0,1],?_⟩
   conv=>whnf
   refine ⟨i+1,by omega,?_,rfl,rfl,rfl,rfl,?_,trivial⟩
   · show [logO _ _,_]=[logO _ _,_]
     rw [hl rfl,htk,spRows_append,List.append_assoc]
     rfl
   · show V.int .i64 (IntKind.i64.wrap (i+1))=_
     rw [wrap64 (by omega) (by omega)]; simp
 · rw [ltB_f (by omega)]
   conv=>whnf
   rw [List.take_of_length_le (by omega)]
   refine ⟨[],false,?_⟩
   conv=>whnf
   exact ⟨true,_,rfl,rfl,fun _=>hfin⟩
theorem treeWalk_full (t:T) (hs:t.Small) (ok:OkY):∀ (ov lv:Int) (log:List (List V)),Takes ok log (spT t ov lv)→Full Try.prog ok 76 [spV (t,ov,lv),.yld 0] [logO log true] (Walked log (spT t ov lv)):=by
 induction hs with
 | @mk id kind text kids g1 g2 g3 g4 g5 ih =>
   intro ov lv log hok
   exact treeWalk_full1 _ (.mk g1 g2 g3 g4 g5) ov lv ok log hok fun t' ht'=>ih t' ht'
end Go.Cod
namespace Go.Cod
open Go Go.Proofs
set_option maxRecDepth 10000
def boxT (t:T):O:=⟨[t.cells],4,true,true,true,.cell⟩
theorem treeSpots1_full (t:T) (hs:t.Small) (ok:OkY) (hok:Takes ok [] (spT t 0 1)):Full Try.prog ok 75 [.yld 0,.ptr 1 0 0] [logO [] true,boxT t] (fun o st'=>∃ r b log',o=.ret r∧st'=[logO log' b,boxT t]∧(b=true→log'=spRows (spT t 0 1))):=by
 have hc:=treeWalk_full t hs ok 0 1 [] hok
 cases t with
 | mk id kind text kids =>
 refine full_of_awp good Try.func75 rfl (by kernel_rfl) (by decide) ?_
 conv=>whnf
 refine ⟨[0],false,?_⟩
 conv=>whnf
 refine hc.mono ?_
 rintro o st' ⟨b,log',rfl,rfl,hl⟩
 conv=>whnf
 refine ⟨[],false,?_⟩
 conv=>whnf
 exact ⟨_,b,log',rfl,rfl,hl⟩
theorem treeSpots_full (t:T):Full Try.prog noY 44 [.agg t.cells] [] (fun o st'=>o=.ret (.fn 75 [.ptr 0 0 0])∧st'=[boxT t]):=by
 cases t with
 | mk id kind text kids =>
 refine full_of_awp good Try.func44 rfl (by kernel_rfl) (by decide) ?_
 conv=>whnf
 refine ⟨[0],false,?_⟩
 conv=>whnf
 exact ⟨rfl,rfl⟩
end Go.Cod
namespace Go.Cod
open Go Go.Proofs
set_option maxRecDepth 10000
def T.id:T→Int
 | .mk id _ _ _=>id
def T.thing:T→Bool
 | .mk id kind text _=>thingB id kind text
def idS (s:Sp):Int:=s.1.id
theorem T.thing_mk (id:Int) (kind text:List UInt8) (kids:List T):(T.mk id kind text kids).thing=thingB id kind text:=rfl
mutual
theorem spT_ids:∀ (t:T) (ov lv:Int),(spT t ov lv).map idS=t.ids
 | .mk id kind text kids,ov,lv=>by simp [spT,T.ids,spL_ids kids,idS,T.id]
theorem spL_ids:∀ (ts:List T) (ov lv:Int),(spL ts ov lv).map idS=T.idsL ts
 | [],_,_=>rfl
 | t::ts,ov,lv=>by simp [spL,T.idsL,spT_ids t,spL_ids ts]
end
mutual
theorem plainT_sp:∀ (t:T) (ov lv:Int),0≤lv→lv≤7→(plainT t lv=true↔∀ s∈spT t ov lv,s.2.2≤6∧s.1.thing=true)
 | .mk id kind text kids,ov,lv,h0,h7=>by
   have hw:IntKind.i64.wrap (lv+1)=lv+1:=wrap64 (by omega) (by omega)
   simp only [plainT,spT,hw,List.mem_cons,forall_eq_or_imp,T.thing_mk,thingB,Bool.and_eq_true]
   by_cases h6:lv≤6
   · rw [plainL_sp kids id (lv+1) (by omega) (by omega)]
     have:¬ 6 < lv:=by omega
     simp [this,h6,and_assoc]
   · have:6 < lv:=by omega
     simp [this,h6]
theorem plainL_sp:∀ (ts:List T) (ov lv:Int),0≤lv→lv≤7→(plainL ts lv=true↔∀ s∈spL ts ov lv,s.2.2≤6∧s.1.thing=true)
 | [],_,_,_,_=>by simp [plainL,spL]
 | t::ts,ov,lv,h0,h7=>by
   simp only [plainL,spL,Bool.and_eq_true,List.mem_append,plainT_sp t ov lv h0 h7,plainL_sp ts ov lv h0 h7]
   constructor
   · rintro ⟨a,b⟩ s (h | h)
     · exact a s h
     · exact b s h
   · intro h
     exact ⟨fun s hs=>h s (.inl hs),fun s hs=>h s (.inr hs)⟩
end
def AllOk (l:List Sp):Prop:=(∀ s∈l,s.2.2≤6∧s.1.thing=true)∧(l.map idS).Nodup∧l.length≤20
theorem AllOk.pre {a b:List Sp} (h:AllOk (a++b)):AllOk a:=by
 obtain ⟨h1,h2,h3⟩:=h
 refine ⟨fun s hs=>h1 s (by simp [hs]),?_,by simp at h3; omega⟩
 rw [List.map_append,List.nodup_append] at h2
 exact h2.1
theorem okT_iff (t:T):okT t=true↔AllOk (spT t 0 1):=by
 have h:=spT_ids t 0 1
 unfold okT AllOk
 rw [h]
 simp only [Bool.and_eq_true,decide_eq_true_eq,plainT_sp t 0 1 (by omega) (by omega),and_assoc]
 rw [← h,List.length_map]
theorem AllOk.snoc {l:List Sp} {s:Sp}:AllOk (l++[s])↔AllOk l∧s.2.2≤6∧s.1.thing=true∧idS s∉l.map idS∧l.length≠20:=by
 unfold AllOk
 simp only [List.mem_append,List.mem_singleton,List.map_append,List.map_cons,List.map_nil,List.nodup_append,List.length_append,List.length_singleton]
 constructor
 · rintro ⟨h1,⟨h2,_,h3⟩,h4⟩
   refine ⟨⟨fun s hs=>h1 s (.inl hs),h2,by omega⟩,(h1 s (.inr rfl)).1,(h1 s (.inr rfl)).2,fun hm=>h3 _ hm _ (by simp) rfl,by omega⟩
 · rintro ⟨⟨h1,h2,h4⟩,h5,h6,h7,h8⟩
   refine ⟨?_,⟨h2,by simp,?_⟩,by omega⟩
   · rintro s' (h | rfl)
     · exact h1 s' h
     · exact ⟨h5,h6⟩
   · intro a ha b hb e
     subst e; rw [hb] at ha; exact h7 ha
def seenRows (l:List Int):List (List V):=l.map fun i=>[.int .i64 i,.bool true]
theorem seenRows_len (l:List Int):(seenRows l).length=l.length:=by simp [seenRows]
theorem findRow_seen (l:List Int) (x:Int):findRow (.int .i64 x) (seenRows l)=if x∈l then some (.bool true) else none:=by
 induction l with
 | nil=>rfl
 | cons a l ih =>
   by_cases h:a=x
   · subst h; simp [seenRows,findRow,rowKey,keyEq,rowVal]
   · have:¬ x=a:=fun e=>h e.symm
     have e:findRow (.int .i64 x) ([.int .i64 a,.bool true]::seenRows l)=findRow (.int .i64 x) (seenRows l):=by
      show (if decide (a=x)=true then _ else _)=_
      rw [if_neg (by simpa using h)]
     refine e.trans (ih.trans ?_)
     simp [this]
theorem putRow_seen (l:List Int) (x:Int) (h:x∉l):putRow (.int .i64 x) (.bool true) (seenRows l)=seenRows (l++[x]):=by
 induction l with
 | nil=>rfl
 | cons a l ih =>
   simp only [List.mem_cons,not_or] at h
   simp only [seenRows,List.map_cons,List.cons_append] at ih ⊢
   have h':¬ a=x:=fun e=>h.1 e.symm
   simp only [putRow,rowKey,keyEq,h',decide_false,Bool.false_eq_true,if_false,ih h.2]
def okbT (t:T):OkY:=fun log vs=>∃ pre s suf,spT t 0 1=pre++s::suf∧log=spRows pre∧vs=[spV s]
theorem okbT_takes (t:T):Takes (okbT t) [] (spT t 0 1):=fun pre v suf e=>⟨pre,v,suf,e,by simp,rfl⟩
theorem spRows_len (l:List Sp):(spRows l).length=l.length:=by simp [spRows]
theorem implTreeOk_pure (t:T) (hs:t.Small) (hsps:∀ s∈spT t 0 1,s.1.Small):Pure Try.prog 13 [.agg t.cells] (·=.bool (okT t)):=by
 have hsp:=treeSpots_full t
 have hok:=okT_iff t
 have hcl:=treeSpots1_full t hs _ (okbT_takes t)
 have hbox:boxT t=⟨[t.cells],4,true,true,true,.cell⟩:=rfl
 generalize okT t=okt at *
 have hobt:okbT t=fun log vs=>∃ pre s suf,spT t 0 1=pre++s::suf∧log=spRows pre∧vs=[spV s]:=rfl
 generalize okbT t=okb at *
 generalize spT t 0 1=sps at *
 cases t with
 | mk id kind text kids =>
 refine pure_of_awp good Try.func13 rfl (by kernel_rfl) (by decide) ?_
 conv=>whnf
 refine .inr (.inl ⟨[],false,?_⟩)
 conv=>whnf
 refine hsp.mono ?_
 rintro o st' ⟨rfl,rfl⟩
 conv=>whnf
 refine ⟨[4],false,okb,fun log st'=>AllOk (sps.take log.length)∧st'=[⟨[(T.mk id kind text kids).cells],4,true,true,true,.cell⟩,⟨[[.bool false]],1,true,true,true,.cell⟩,⟨seenRows ((sps.take log.length).map idS),kindCode .i64,false,true,false,.map⟩,⟨[[.map 2]],1,true,true,true,.cell⟩,⟨[(T.mk id kind text kids).cells],4,false,true,true,.cell⟩],?_⟩
 conv=>whnf
 refine ⟨⟨⟨by simp,by simp,by simp⟩,rfl⟩,?_,?_⟩
 · rintro log vs st' ⟨hall,rfl⟩ ho
   rw [hobt] at ho
   obtain ⟨pre,s,suf,rfl,rfl,rfl⟩:=ho
   have htk:(pre++s::suf).take (spRows pre).length=pre:=by rw [spRows_len]; simp
   have htk1:(pre++s::suf).take (spRows pre++[[spV s]]).length=pre++[s]:=by rw [List.length_append,spRows_len]; show List.take (pre.length+1) _=_; rw [List.take_append,List.take_of_length_le (by omega)]; simp
   rw [htk] at hall ⊢
   refine ⟨rfl,?_⟩
   have hsn:=AllOk.snoc (l:=pre) (s:=s)
   have hno:¬ AllOk (pre++[s])→okt=false:=fun h=>by
    cases e:okt
    · rfl
    · exact absurd (AllOk.pre (b:=suf) (by simpa using hok.1 e)) h
   obtain ⟨⟨id',kind',text',kids'⟩,ov,lv⟩:=s
   simp only [T.thing_mk,idS,T.id] at hsn
   have hfr:=findRow_seen (pre.map idS) id'
   have hpr:=putRow_seen (pre.map idS) id'
   conv=>whnf
   by_cases a1:6 < lv
   · rw [ltB_t a1]
     conv=>whnf
     rw [hno fun h=>by have:lv≤6:=(hsn.1 h).2.1; omega]
   rw [ltB_f (show lv≤6 by omega)]
   conv=>whnf
   rw [seenRows_len,List.length_map]
   by_cases a2:pre.length=20
   · rw [eqB_t (by omega)]
     conv=>whnf
     rw [hno fun h=>by have:=(hsn.1 h).2.2.2.2; omega]
   rw [eqB_f (by omega)]
   conv=>whnf
   by_cases a3:id'∈pre.map idS
   · rw [if_pos a3] at hfr
     refine AtKey_intro _ hfr ?_
     conv=>whnf
     rw [hno fun h=>(hsn.1 h).2.2.2.1 a3]
   rw [if_neg a3] at hfr
   refine AtKey_intro _ hfr ?_
   conv=>whnf
   obtain ⟨b2,b3⟩:kind'.length≤1048576∧text'.length≤1048576:=by
    have h:=hsps (.mk id' kind' text' kids',ov,lv) (by simp)
    cases h
    exact ⟨by assumption,by assumption⟩
   refine .inl ((treeThingOk_pure id' kind' text' kids' (by omega) (by omega)).mono ?_)
   rintro r rfl
   cases a4:thingB id' kind' text'
   · conv=>whnf
     rw [hno fun h=>by have:=(hsn.1 h).2.2.1; rw [a4] at this; cases this]
   conv=>whnf
   refine ⟨some [0,1,2,3,4],?_⟩
   conv=>whnf
   have hall':AllOk (pre++[(.mk id' kind' text' kids',ov,lv)]):=hsn.2 ⟨hall,(show lv≤6 by omega),a4,a3,a2⟩
   have hpr:=hpr a3
   rw [htk1]
   refine ⟨hall',?_⟩
   have hse:seenRows ((pre++[((.mk id' kind' text' kids',ov,lv):Sp)]).map idS)=putRow (.int .i64 id') (.bool true) (seenRows (pre.map idS)):=by
    rw [hpr,List.map_append]; rfl
   rw [hse]
   rfl
 · refine hcl.mono ?_
   rintro o st' ⟨r,b,log',rfl,rfl,hl⟩
   refine ⟨_,_,_,rfl,rfl,fun hb st' hI=>?_⟩
   obtain ⟨hall,rfl⟩:=hI
   rw [hl hb,List.take_of_length_le (by rw [spRows_len]; omega)] at hall
   conv=>whnf
   rw [hok.2 hall]
end Go.Cod
namespace Go.Cod
open Go Go.Proofs
set_option maxRecDepth 10000
mutual
theorem spT_small:∀ (t:T) (ov lv:Int),t.Small→∀ s∈spT t ov lv,s.1.Small
 | .mk id kind text kids,ov,lv,h=>by
   intro s hs
   rcases List.mem_cons.1 hs with rfl | hs
   · exact h
   · cases h with
     | mk g1 g2 g3 g4 g5=>exact spL_small kids _ _ g5 s hs
theorem spL_small:∀ (ts:List T) (ov lv:Int),(∀ t∈ts,t.Small)→∀ s∈spL ts ov lv,s.1.Small
 | [],_,_,_=>by simp [spL]
 | t::ts,ov,lv,h=>by
   intro s hs
   rcases List.mem_append.1 hs with hs | hs
   · exact spT_small t ov lv (h t (by simp)) s hs
   · exact spL_small ts ov lv (fun t ht=>h t (by simp [ht])) s hs
end
theorem implTreeOk (t:T) (hs:t.Small):Pure Try.prog 13 [.agg t.cells] (·=.bool (okT t)):=implTreeOk_pure t hs (spT_small t 0 1 hs)
def spZ:V:=.agg [.int .i64 0,.str [],.str [],.nils,.int .i64 0,.int .i64 0]
def isId (id:Int) (s:Sp):Bool:=decide (idS s=id)
def spotR:Option Sp→V
 | some s=>.tup [spV s,.bool true]
 | none=>.tup [spV (.mk 0 [] [] [],0,0),.bool false]
def spotOf (t:T) (id:Int):Option Sp:=if okT t then (spT t 0 1).find? (isId id) else none
theorem treeSpotOf_pure (t:T) (hs:t.Small) (x:Int):Pure Try.prog 46 [.agg t.cells,.int .i64 x] (·=spotR (spotOf t x)):=by
 have hio:=implTreeOk t hs
 have hsp:=treeSpots_full t
 have hcl:=treeSpots1_full t hs _ (okbT_takes t)
 have hbox:boxT t=⟨[t.cells],4,true,true,true,.cell⟩:=rfl
 have hso:spotOf t x=if okT t then (spT t 0 1).find? (isId x) else none:=rfl
 generalize okT t=okt at *
 generalize spotOf t x=so at *
 have hobt:okbT t=fun log vs=>∃ pre s suf,spT t 0 1=pre++s::suf∧log=spRows pre∧vs=[spV s]:=rfl
 generalize okbT t=okb at *
 generalize spT t 0 1=sps at *
 cases t with
 | mk id kind text kids =>
 refine pure_of_awp good Try.func46 rfl (by kernel_rfl) (by decide) ?_
 conv=>whnf
 refine .inl (hio.mono ?_)
 rintro r rfl
 cases okt
 · conv=>whnf
   rw [hso]; rfl
 conv=>whnf
 refine .inr (.inl ⟨[],false,?_⟩)
 conv=>whnf
 refine hsp.mono ?_
 rintro o st' ⟨rfl,rfl⟩
 conv=>whnf
 refine ⟨[4],false,okb,fun log st'=>(sps.take log.length).find? (isId x)=none∧st'=[⟨[(T.mk id kind text kids).cells],4,true,true,true,.cell⟩,⟨[[.int .i64 x]],1,true,true,true,.cell⟩,⟨[spZ.cells],6,true,true,true,.cell⟩,⟨[[.bool false]],1,true,true,true,.cell⟩,⟨[(T.mk id kind text kids).cells],4,false,true,true,.cell⟩],?_⟩
 conv=>whnf
 refine ⟨⟨by simp,rfl⟩,?_,?_⟩
 · rintro log vs st' ⟨hall,rfl⟩ ho
   rw [hobt] at ho
   obtain ⟨pre,s,suf,rfl,rfl,rfl⟩:=ho
   have htk:(pre++s::suf).take (spRows pre).length=pre:=by rw [spRows_len]; simp
   have htk1:(pre++s::suf).take (spRows pre++[[spV s]]).length=pre++[s]:=by rw [List.length_append,spRows_len]; show List.take (pre.length+1) _=_; rw [List.take_append,List.take_of_length_le (by omega)]; simp
   rw [htk] at hall
   refine ⟨rfl,?_⟩
   have hfs:isId x s=true→so=some s:=fun h=>by
    rw [hso,if_pos rfl,List.find?_append,hall]; simp [h]
   have hfn:isId x s=false→(pre++[s]).find? (isId x)=none:=fun h=>by
    rw [List.find?_append,hall]; simp [h]
   obtain ⟨⟨id',kind',text',kids'⟩,ov,lv⟩:=s
   have hid:isId x (T.mk id' kind' text' kids',ov,lv)=decide (id'=x):=rfl
   rw [hid] at hfs hfn
   conv=>whnf
   by_cases a1:id'=x
   · rw [eqB_t a1]
     conv=>whnf
     rw [hfs (by simpa using a1)]
     rfl
   · rw [eqB_f a1]
     conv=>whnf
     refine ⟨some [0,1,2,3,4],?_⟩
     conv=>whnf
     rw [htk1]
     exact ⟨hfn (by simpa using a1),rfl⟩
 · refine hcl.mono ?_
   rintro o st' ⟨r,b,log',rfl,rfl,hl⟩
   refine ⟨_,_,_,rfl,rfl,fun hb st' hI=>?_⟩
   obtain ⟨hall,rfl⟩:=hI
   rw [hl hb,List.take_of_length_le (by rw [spRows_len]; omega)] at hall
   conv=>whnf
   rw [hso,if_pos rfl,hall]
   rfl
mutual
def overT:T→Int→Int→Int
 | .mk i _ _ kids,x,ov=>if i=x then ov else overL kids x i
def overL:List T→Int→Int→Int
 | [],_,_=>-1
 | t::ts,x,ov=>if 0≤overT t x ov then overT t x ov else overL ts x ov
end
def ovO:Option Sp→Int
 | some s=>s.2.1
 | none=>-1
mutual
theorem overT_eq:∀ (t:T) (x ov lv:Int),0≤ov→(∀ i∈t.ids,0≤i)→overT t x ov=ovO ((spT t ov lv).find? (isId x))∧(0≤overT t x ov↔((spT t ov lv).find? (isId x)).isSome=true)
 | .mk i k tx kids,x,ov,lv,h0,hi=>by
   have e:isId x (T.mk i k tx kids,ov,lv)=decide (i=x):=rfl
   simp only [T.ids,List.mem_cons,forall_eq_or_imp] at hi
   simp only [overT,spT,List.find?_cons,e]
   by_cases h:i=x
   · simp [h,ovO,h0]
   · simpa [h] using overL_eq kids x i (IntKind.i64.wrap (lv+1)) hi.1 hi.2
theorem overL_eq:∀ (ts:List T) (x ov lv:Int),0≤ov→(∀ i∈T.idsL ts,0≤i)→overL ts x ov=ovO ((spL ts ov lv).find? (isId x))∧(0≤overL ts x ov↔((spL ts ov lv).find? (isId x)).isSome=true)
 | [],x,ov,lv,h0,hi=>by simp [overL,spL,ovO]
 | t::ts,x,ov,lv,h0,hi=>by
   simp only [T.idsL,List.mem_append] at hi
   obtain ⟨h1,h2⟩:=overT_eq t x ov lv h0 fun i h=>hi i (.inl h)
   obtain ⟨h3,h4⟩:=overL_eq ts x ov lv h0 fun i h=>hi i (.inr h)
   simp only [overL,spL,List.find?_append]
   by_cases h:0≤overT t x ov
   · rw [if_pos h]
     obtain ⟨s,e⟩:=Option.isSome_iff_exists.1 (h2.1 h)
     rw [e] at h1 ⊢
     simp [h1,ovO] at h ⊢
     exact h
   · rw [if_neg h]
     have:(spT t ov lv).find? (isId x)=none:=by
      cases e:(spT t ov lv).find? (isId x) with
      | none=>rfl
      | some s=>exact absurd (h2.2 (by rw [e]; rfl)) h
     rw [this,Option.none_or]
     exact ⟨h3,h4⟩
end
mutual
theorem plainT_ids:∀ (t:T) (lv:Int),plainT t lv=true→∀ i∈t.ids,0≤i
 | .mk id kind text kids,lv,h=>by
   simp only [plainT,Bool.and_eq_true,decide_eq_true_eq] at h
   simp only [T.ids,List.mem_cons,forall_eq_or_imp]
   exact ⟨by omega,plainL_ids kids _ h.2⟩
theorem plainL_ids:∀ (ts:List T) (lv:Int),plainL ts lv=true→∀ i∈T.idsL ts,0≤i
 | [],_,_=>by simp [T.idsL]
 | t::ts,lv,h=>by
   simp only [plainL,Bool.and_eq_true] at h
   simp only [T.idsL,List.mem_append]
   rintro i (hi | hi)
   · exact plainT_ids t lv h.1 i hi
   · exact plainL_ids ts lv h.2 i hi
end
theorem okT_ids {t:T} (h:okT t=true):∀ i∈t.ids,0≤i:=by
 unfold okT at h
 simp only [Bool.and_eq_true] at h
 exact plainT_ids t 1 h.1.1
def treeOver (t:T) (x:Int):Int:=ovO (spotOf t x)
end Go.Cod
namespace Go.Cod
open Go Go.Proofs
set_option maxRecDepth 10000
mutual
theorem plainT_pos:∀ (t:T) (lv:Int),plainT t lv=true→∀ i∈t.ids,1≤i
 | .mk id kind text kids,lv,h=>by
   simp only [plainT,Bool.and_eq_true,decide_eq_true_eq] at h
   simp only [T.ids,List.mem_cons,forall_eq_or_imp]
   exact ⟨by omega,plainL_pos kids _ h.2⟩
theorem plainL_pos:∀ (ts:List T) (lv:Int),plainL ts lv=true→∀ i∈T.idsL ts,1≤i
 | [],_,_=>by simp [T.idsL]
 | t::ts,lv,h=>by
   simp only [plainL,Bool.and_eq_true] at h
   simp only [T.idsL,List.mem_append]
   rintro i (hi | hi)
   · exact plainT_pos t lv h.1 i hi
   · exact plainL_pos ts lv h.2 i hi
end
end Go.Cod
namespace Go.Cod
open Go Go.Proofs
set_option maxRecDepth 10000
theorem implTreeOver_pure (t:T) (hs:t.Small) (x:Int):Pure Try.prog 15 [.agg t.cells,.int .i64 x] (·=.int .i64 (treeOver t x)):=by
 have h1:=treeSpotOf_pure t hs x
 have h2:treeOver t x=ovO (spotOf t x):=rfl
 generalize treeOver t x=r at *
 generalize spotOf t x=so at *
 cases t with
 | mk id kind text kids =>
 refine pure_of_awp good Try.func15 rfl (by kernel_rfl) (by decide) ?_
 conv=>whnf
 refine .inl (h1.mono ?_)
 rintro r rfl
 cases so with
 | none =>
   conv=>whnf
   rw [h2]; rfl
 | some s =>
   obtain ⟨⟨id',kind',text',kids'⟩,ov,lv⟩:=s
   conv=>whnf
   rw [h2]; rfl
end Go.Cod
namespace Go.Cod
open Go Go.Proofs
set_option maxRecDepth 10000
inductive LT where
 | mk (id:Int) (kind text:List UInt8) (h:Option (Nat × Nat)) (kids:List LT)
def hdV:Option (Nat × Nat)→Nat→V
 | none,_=>.nils
 | some (b,c),n=>.dref b n c
def LT.cells:LT→List V
 | .mk id kind text h kids=>[.int .i64 id,.str kind,.str text,hdV h kids.length]
def LT.rows (ls:List LT):List (List V):=ls.map LT.cells
mutual
def LT.erase:LT→T
 | .mk id kind text _ kids=>.mk id kind text (LT.eraseL kids)
def LT.eraseL:List LT→List T
 | []=>[]
 | l::ls=>l.erase::LT.eraseL ls
end
def rootE:Option (Nat × Nat)→List LT→List (List V)
 | none,_=>[]
 | some (b,c),kids=>[ent b c 4 (LT.rows kids)]
mutual
def LT.ents:LT→List (List V)
 | .mk _ _ _ h kids=>LT.entsL kids++rootE h kids
def LT.entsL:List LT→List (List V)
 | []=>[]
 | l::ls=>l.ents++LT.entsL ls
end
mutual
def LT.Wf:LT→Prop
 | .mk _ _ _ h kids=>(h=none→kids=[])∧LT.WfL kids
def LT.WfL:List LT→Prop
 | []=>True
 | l::ls=>l.Wf∧LT.WfL ls
end
theorem LT.eraseL_eq (ls:List LT):LT.eraseL ls=ls.map LT.erase:=by
 induction ls with
 | nil=>rfl
 | cons l ls ih=>simp [LT.eraseL,ih]
theorem LT.entsL_eq (ls:List LT):LT.entsL ls=(ls.map LT.ents).flatten:=by
 induction ls with
 | nil=>rfl
 | cons l ls ih=>simp [LT.entsL,ih]
theorem LT.entsL_append (a b:List LT):LT.entsL (a++b)=LT.entsL a++LT.entsL b:=by simp [LT.entsL_eq]
theorem LT.WfL_iff (ls:List LT):LT.WfL ls↔∀ l∈ls,l.Wf:=by
 induction ls with
 | nil=>simp [LT.WfL]
 | cons l ls ih=>simp [LT.WfL,ih]
theorem LT.eraseL_len (ls:List LT):(LT.eraseL ls).length=ls.length:=by simp [LT.eraseL_eq]
theorem LT.rows_len (ls:List LT):(LT.rows ls).length=ls.length:=by simp [LT.rows]
theorem LT.cells_len (l:LT):l.cells.length=4:=by cases l; rfl
theorem LT.rows_get (ls:List LT) (i:Nat) (h:i < ls.length):(LT.rows ls)[i]? = some ls[i].cells:=by simp [LT.rows,h]
theorem T.cells_ok (t:T):V.clean.cleanL 0 t.cells=true∧∀ x∈t.cells,x.leaf=true:=by
 cases t with
 | mk id kind text kids=>exact ⟨rfl,by simp [T.cells,V.leaf]⟩
theorem T.rows_ok (ts:List T):V.clean.cleanLL 0 (T.rows ts)=true∧∀ e∈T.rows ts,∀ x∈e,x.leaf=true:=by
 rw [T.rows_eq]
 refine ⟨?_,fun e he=>?_⟩
 · rw [cleanLL_iff]
   intro e he
   obtain ⟨t,_,rfl⟩:=List.mem_map.1 he
   exact t.cells_ok.1
 · obtain ⟨t,_,rfl⟩:=List.mem_map.1 he
   exact t.cells_ok.2
mutual
theorem LT.view {es:List (List V)}:∀ (l:LT),l.Wf→(∀ e∈l.ents,e∈es)→ViewL es l.cells l.erase.cells
 | .mk id kind text h kids,hw,he=>by
   simp only [LT.Wf] at hw
   simp only [LT.ents,List.mem_append] at he
   have hk:=LT.viewL kids hw.2 (fun e h=>he e (.inl h))
   simp only [LT.cells,LT.erase,T.cells]
   refine ⟨rfl,fun i x y a b=>?_⟩
   match i,a,b with
   | 0,a,b=>simp at a b; subst a; subst b; exact .same _
   | 1,a,b=>simp at a b; subst a; subst b; exact .same _
   | 2,a,b=>simp at a b; subst a; subst b; exact .same _
   | 3,a,b =>
     simp at a b; subst a; subst b
     rcases h with _ | ⟨b,c⟩
     · rw [hw.1 rfl]; exact .nils
     · refine .dref (sz:=4) (rows:=LT.rows kids) (he _ (.inr (by simp [rootE]))) (LT.rows_len kids).symm (by rw [T.rows_eq,List.length_map,LT.eraseL_len,LT.rows_len]) (T.rows_ok _).1 (T.rows_ok _).2 (fun i r r' p q=>?_) (fun i r r' j x y p q u v=>?_)
       · simp only [LT.rows,List.getElem?_map,Option.map_eq_some_iff] at p
         obtain ⟨l,_,rfl⟩:=p
         rw [T.rows_eq,List.getElem?_map,Option.map_eq_some_iff] at q
         obtain ⟨t,_,rfl⟩:=q
         rw [LT.cells_len,_root_.Go.Cod.cells_len]
       · simp only [LT.rows,List.getElem?_map,Option.map_eq_some_iff] at p
         obtain ⟨l,hl,rfl⟩:=p
         rw [T.rows_eq,LT.eraseL_eq,List.map_map,List.getElem?_map,hl] at q
         simp only [Option.map_some,Option.some.injEq] at q
         subst q
         exact (hk l (List.mem_of_getElem? hl)).2 j x y u (by simpa [Function.comp] using v)
   | i+4,a,b=>simp at a
theorem LT.viewL {es:List (List V)}:∀ (ls:List LT),LT.WfL ls→(∀ e∈LT.entsL ls,e∈es)→∀ l∈ls,ViewL es l.cells l.erase.cells
 | [],_,_,l,h=>by simp at h
 | l::ls,hw,he,l',h=>by
   simp only [LT.WfL] at hw
   simp only [LT.entsL,List.mem_append] at he
   have h0:=LT.view l hw.1 fun e h=>he e (.inl h)
   rcases List.mem_cons.1 h with h | h
   · rw [h]; exact h0
   · exact LT.viewL ls hw.2 (fun e h=>he e (.inr h)) l' h
end
theorem LT.viewA {es:List (List V)} (l:LT) (hw:l.Wf) (he:∀ e∈l.ents,e∈es):View es (.agg l.cells) (.agg l.erase.cells):=.agg (LT.view l hw he).1 (LT.view l hw he).2
end Go.Cod
namespace Go.Cod
open Go Go.Proofs
set_option maxRecDepth 10000
end Go.Cod
namespace Go.Cod
open Go Go.Proofs
set_option maxRecDepth 10000
mutual
def LT.size:LT→Nat
 | .mk _ _ _ _ kids=>1+LT.sizeL kids
def LT.sizeL:List LT→Nat
 | []=>0
 | l::ls=>l.size+LT.sizeL ls
end
mutual
def LT.labs:LT→List Nat
 | .mk _ _ _ h kids=>LT.labsL kids++(match h with | none=>[] | some (b,_)=>[b])
def LT.labsL:List LT→List Nat
 | []=>[]
 | l::ls=>l.labs++LT.labsL ls
end
theorem LT.size_pos (l:LT):1≤l.size:=by cases l; simp [LT.size]
theorem LT.sizeL_append (a b:List LT):LT.sizeL (a++b)=LT.sizeL a+LT.sizeL b:=by
 induction a with
 | nil=>simp [LT.sizeL]
 | cons l ls ih=>simp [LT.sizeL,ih]; omega
theorem LT.labsL_append (a b:List LT):LT.labsL (a++b)=LT.labsL a++LT.labsL b:=by
 induction a with
 | nil=>rfl
 | cons l ls ih=>simp [LT.labsL,ih]
mutual
theorem LT.labs_ents:∀ (l:LT),l.ents.map labOf=l.labs
 | .mk _ _ _ h kids=>by
   simp only [LT.ents,LT.labs,List.map_append,LT.labsL_ents kids]
   rcases h with _ | ⟨b,c⟩ <;> rfl
theorem LT.labsL_ents:∀ (ls:List LT),(LT.entsL ls).map labOf=LT.labsL ls
 | []=>rfl
 | l::ls=>by simp only [LT.entsL,LT.labsL,List.map_append,LT.labs_ents l,LT.labsL_ents ls]
end
mutual
def T.size:T→Nat
 | .mk _ _ _ kids=>1+T.sizeL kids
def T.sizeL:List T→Nat
 | []=>0
 | t::ts=>t.size+T.sizeL ts
end
mutual
theorem LT.size_erase:∀ (l:LT),l.erase.size=l.size
 | .mk _ _ _ _ kids=>by simp only [LT.erase,T.size,LT.size,LT.sizeL_erase kids]
theorem LT.sizeL_erase:∀ (ls:List LT),T.sizeL (LT.eraseL ls)=LT.sizeL ls
 | []=>rfl
 | l::ls=>by simp only [LT.eraseL,T.sizeL,LT.sizeL,LT.size_erase l,LT.sizeL_erase ls]
end
theorem putEnt_mem {b c s:Nat} {rows rows':List (List V)} {es:List (List V)} (h:ent b c s rows∈es):ent b c s rows'∈putEnt b rows' es:=by
 unfold putEnt
 exact List.mem_map.2 ⟨_,h,by rw [if_pos (labOf_ent b c s rows)]; rfl⟩
theorem putEnt_other {b:Nat} {rows':List (List V)} {es:List (List V)} {e:List V} (h:e∈es) (hb:labOf e≠b):e∈putEnt b rows' es:=by
 unfold putEnt
 exact List.mem_map.2 ⟨e,h,by rw [if_neg hb]⟩
end Go.Cod
namespace Go.Cod
open Go Go.Proofs
set_option maxRecDepth 10000
theorem LT.sizeL_take (ls:List LT) (i:Nat) (h:i < ls.length):LT.sizeL (ls.take (i+1))=LT.sizeL (ls.take i)+ls[i].size:=by
 rw [List.take_succ_eq_append_getElem h,LT.sizeL_append]; simp [LT.sizeL]
theorem LT.sizeL_le (ls:List LT) (i:Nat):LT.sizeL (ls.take i)≤LT.sizeL ls:=by
 conv=>rhs; rw [← List.take_append_drop i ls,LT.sizeL_append]
 omega
theorem LT.len_sizeL:∀ ls:List LT,ls.length≤LT.sizeL ls
 | []=>by simp
 | l::ls=>by have:=l.size_pos; have:=LT.len_sizeL ls; simp [LT.sizeL]; omega
end Go.Cod
namespace Go.Cod
open Go Go.Proofs
set_option maxRecDepth 10000
def LT.kids:LT→List LT
 | .mk _ _ _ _ kids=>kids
theorem T.sizeL_append (a b:List T):T.sizeL (a++b)=T.sizeL a+T.sizeL b:=by
 induction a with
 | nil=>simp [T.sizeL]
 | cons l ls ih=>simp [T.sizeL,ih]; omega
end Go.Cod
namespace Go.Cod
open Go Go.Proofs
set_option maxRecDepth 10000
theorem T.rows_take (ts:List T) (i:Nat) (h:i < ts.length):T.rows (ts.take (i+1))=T.rows (ts.take i)++[ts[i].cells]:=by
 rw [T.rows_eq,T.rows_eq,List.take_succ_eq_append_getElem h,List.map_append]; rfl
theorem T.rows_wid (ts:List T):∀ m∈T.rows ts,m.length=4:=by
 intro m hm
 rw [T.rows_eq] at hm
 obtain ⟨t,_,rfl⟩:=List.mem_map.1 hm
 exact Go.Cod.cells_len t
theorem l2Copy_pure1 (t:T) (ht:t.Small) (hT:∀ t'∈t.kids,Pure Try.prog 62 [.agg t'.cells] (·=.agg t'.cells)) :
 Pure Try.prog 62 [.agg t.cells] (·=.agg t.cells):=by
 cases ht with
 | @mk id kind text kids g1 g2 g3 g4 g5 =>
 simp only [T.kids] at hT
 have hlr:=Go.Cod.rows_len kids
 refine pure_of_awp good Try.func62 rfl (by kernel_rfl) (by decide) ?_
 conv=>whnf
 refine loop_drop (fun n fr st=>∃ i:Nat,n+i=kids.length∧Holds fr [(1,.ptr 0 0 0),(2,.ptr 1 0 0),(3,.ptr 2 0 0),(4,.int .i64 i)] ∧
  ((i=0∧st=[⟨[[.int .i64 id,.str kind,.str text,.sl (T.rows kids)]],4,true,true,true,.cell⟩,⟨[zrow],4,true,true,true,.cell⟩,⟨[[.int .i64 id,.str kind,.str text,.nils]],4,true,true,true,.cell⟩]) ∨
   (0 < i∧st=[⟨[[.int .i64 id,.str kind,.str text,.sl (T.rows kids)]],4,true,true,true,.cell⟩,⟨[zrow],4,true,true,true,.cell⟩,⟨[[.int .i64 id,.str kind,.str text,.own 3]],4,true,true,true,.cell⟩,⟨T.rows (kids.take i),4,true,true,false,.cell⟩]))) kids.length none
  ⟨0,rfl,⟨rfl,rfl,rfl,rfl,trivial⟩,.inl ⟨rfl,rfl⟩⟩ ?_
 rintro n fr st ⟨i,hi,hh,hst⟩
 obtain ⟨fr,rfl⟩:=hh.split
 clear hh
 rcases hst with ⟨rfl,rfl⟩ | ⟨hi0,rfl⟩
 · conv=>whnf
   by_cases hlt:0 < kids.length
   · rw [hlr,ltB_t (by omega)]
     conv=>whnf
     refine ⟨by omega,T.rows kids,kids[0].cells,4,rfl,rows_get kids 0 hlt,rfl,Go.Cod.cells_len _,?_⟩
     have hc:=hT kids[0] (List.getElem_mem _)
     have htk:=T.rows_take kids 0 hlt
     generalize kids[0]=t at hc htk
     cases t with
     | mk id' kind' text' kids' =>
     conv=>whnf
     refine ⟨_,.inl hc,?_⟩
     conv=>whnf
     refine ⟨fun m hm=>by rw [List.mem_singleton.1 hm]; rfl,?_⟩
     conv=>whnf
     refine ⟨by show 1*64≤_; omega,.inr ⟨(by intro e; cases e),?_⟩⟩
     conv=>whnf
     refine ⟨n - 1,by omega,some [0,1,2,4],?_⟩
     conv=>whnf
     refine ⟨1,by omega,⟨rfl,rfl,rfl,rfl,trivial⟩,.inr ⟨by omega,?_⟩⟩
     rw [htk]
     rfl
   · rw [hlr,ltB_f (by omega)]
     conv=>whnf
     have:kids=[]:=List.eq_nil_of_length_eq_zero (by omega)
     subst this
     rfl
 · conv=>whnf
   by_cases hlt:i < kids.length
   · rw [hlr,ltB_t (by omega)]
     conv=>whnf
     refine ⟨by omega,T.rows kids,kids[i].cells,4,rfl,rows_get kids i hlt,rfl,Go.Cod.cells_len _,?_⟩
     have hc:=hT kids[i] (List.getElem_mem _)
     have htk:=T.rows_take kids i hlt
     generalize kids[i]=t at hc htk
     cases t with
     | mk id' kind' text' kids' =>
     conv=>whnf
     refine ⟨_,.inl hc,?_⟩
     conv=>whnf
     refine ⟨fun m hm=>by rw [List.mem_singleton.1 hm]; rfl,?_⟩
     conv=>whnf
     refine ⟨by
      show ((T.rows (kids.take i)).length+1)*64≤_
      rw [Go.Cod.rows_len,List.length_take]; omega,?_⟩
     conv=>whnf
     refine ⟨n - 1,by omega,some [0,1,2,5],?_⟩
     conv=>whnf
     refine ⟨i+1,by omega,⟨rfl,rfl,rfl,?_,trivial⟩,.inr ⟨by omega,?_⟩⟩
     · show V.int .i64 (IntKind.i64.wrap (i+1))=_
       rw [wrap64 (by omega) (by omega)]; simp
     · rw [htk]
       rfl
   · rw [hlr,ltB_f (by omega)]
     conv=>whnf
     rw [List.take_of_length_le (by omega)]
     rfl
theorem l2Copy_pure (t:T) (ht:t.Small):Pure Try.prog 62 [.agg t.cells] (·=.agg t.cells):=by
 induction ht with
 | @mk id kind text kids g1 g2 g3 g4 g5 ih=>exact l2Copy_pure1 _ (.mk g1 g2 g3 g4 g5) ih
end Go.Cod
namespace Go.Cod
open Go Go.Proofs
set_option maxRecDepth 10000
def CopyR (t:T) (es:List (List V)) (o:Out) (st':St):Prop:=∃ l:LT,l.erase=t∧l.Wf∧o=.ret (.agg l.cells)∧st'=[poolO (es++l.ents)]
theorem treeCopy_nil (id:Int) (kind text:List UInt8) (es:List (List V)):Full Try.prog noY 42 [.agg (T.mk id kind text []).cells] [poolO es] (CopyR (.mk id kind text []) es):=by
 refine full_of_awp good Try.func42 rfl (by kernel_rfl) (by decide) ?_
 conv=>whnf
 refine loop_intro (fun n fr st=>st=[poolO es,⟨[[.int .i64 id,.str kind,.str text,.sl []]],4,true,true,true,.cell⟩,⟨[zrow],4,true,true,true,.cell⟩]∧Holds fr [(1,.ptr 1 0 0),(2,.ptr 2 0 0),(3,.nils),(7,.sl []),(8,.int .i64 0),(9,.int .i64 0)]) 0 ⟨rfl,rfl,rfl,rfl,rfl,rfl,rfl,trivial⟩ ?_
 rintro n fr st ⟨rfl,hh⟩
 obtain ⟨fr,rfl⟩:=hh.split
 clear hh
 conv=>whnf
 rw [ltB_f (by simp)]
 conv=>whnf
 refine ⟨[],true,?_⟩
 conv=>whnf
 exact ⟨.mk id kind text none [],rfl,⟨fun _=>rfl,trivial⟩,rfl,by rw [show es++LT.ents (.mk id kind text none [])=es by simp [LT.ents,LT.entsL,rootE]]; rfl⟩
theorem LT.rows_snoc (ls:List LT) (l:LT):LT.rows (ls++[l])=LT.rows ls++[l.cells]:=by simp [LT.rows]
theorem treeCopy_cons (id:Int) (kind text:List UInt8) (kids:List T) (g4:kids.length≤1048576) (h0:0 < kids.length) (es:List (List V)) (hT:∀ t'∈kids,∀ es,Full Try.prog noY 42 [.agg t'.cells] [poolO es] (CopyR t' es)) :
 Full Try.prog noY 42 [.agg (T.mk id kind text kids).cells] [poolO es] (CopyR (.mk id kind text kids) es):=by
 have hlr:=Go.Cod.rows_len kids
 refine Full.absorb (R:=fun o st'=>∃ ls,LT.eraseL ls=kids∧LT.WfL ls∧o=.ret (.agg [.int .i64 id,.str kind,.str text,.own 1])∧st'=[poolO (es++LT.entsL ls),⟨LT.rows ls,4,true,true,false,.cell⟩]) ?_ ?_
 · refine full_of_awp good Try.func42 rfl (by kernel_rfl) (by decide) ?_
   conv=>whnf
   refine loop_drop (fun n fr st=>∃ (i:Nat) (t3:V) (ls:List LT),n+i=kids.length∧ls.length=i∧LT.eraseL ls=kids.take i∧LT.WfL ls∧Holds fr [(1,.ptr 1 0 0),(2,.ptr 2 0 0),(3,t3),(7,.sl (T.rows kids)),(8,.int .i64 kids.length),(9,.int .i64 i)] ∧
    ((i=0∧t3=.nils∧st=[poolO (es++LT.entsL ls),⟨[[.int .i64 id,.str kind,.str text,.sl (T.rows kids)]],4,true,true,true,.cell⟩,⟨[zrow],4,true,true,true,.cell⟩]) ∨
     (0 < i∧t3=.own 3∧st=[poolO (es++LT.entsL ls),⟨[[.int .i64 id,.str kind,.str text,.sl (T.rows kids)]],4,true,true,true,.cell⟩,⟨[zrow],4,true,true,true,.cell⟩,⟨LT.rows ls,4,true,true,false,.cell⟩]))) kids.length none
    ⟨0,.nils,[],rfl,rfl,rfl,trivial,⟨rfl,rfl,rfl,rfl,by rw [← hlr]; rfl,rfl,trivial⟩,.inl ⟨rfl,rfl,by rw [show es++LT.entsL []=es by simp [LT.entsL]]; rfl⟩⟩ ?_
   rintro n fr st ⟨i,t3,ls,hi,hil,her,hwf,hh,hst⟩
   obtain ⟨fr,rfl⟩:=hh.split
   clear hh
   by_cases hlt:i < kids.length
   · have hg:=Go.Cod.rows_get kids i hlt
     have hc:=hT kids[i] (List.getElem_mem _) (es++LT.entsL ls)
     have htk:kids.take (i+1)=kids.take i++[kids[i]]:=by rw [List.take_succ_eq_append_getElem hlt]
     generalize kids[i]=t at hc hg htk
     have hw:IntKind.i64.wrap (i+1)=(i+1:Nat):=by rw [wrap64 (by omega) (by omega)]; simp
     have herS:∀ l:LT,l.erase=t→LT.eraseL (ls++[l])=kids.take (i+1):=fun l hl=>by
      rw [htk,LT.eraseL_eq,List.map_append,← LT.eraseL_eq,her]; simp [hl]
     have hwfS:∀ l:LT,l.Wf→LT.WfL (ls++[l]):=fun l hl=>by
      rw [LT.WfL_iff] at hwf ⊢
      intro x hx
      rcases List.mem_append.1 hx with hx | hx
      · exact hwf x hx
      · simp at hx; subst hx; exact hl
     have hentS:∀ l:LT,es++LT.entsL ls++l.ents=es++LT.entsL (ls++[l]):=fun l=>by
      rw [LT.entsL_append]; simp [LT.entsL]
     cases t with
     | mk id' kind' text' kids' =>
     rcases hst with ⟨rfl,rfl,rfl⟩ | ⟨hi0,rfl,rfl⟩
     · conv=>whnf
       rw [ltB_t (by omega)]
       conv=>whnf
       refine ⟨by omega,T.rows kids,_,4,rfl,hg,rfl,rfl,?_⟩
       conv=>whnf
       refine .inr (.inl ⟨[0],false,?_⟩)
       conv=>whnf
       refine hc.mono ?_
       rintro o st' ⟨l,hle,hlw,rfl,rfl⟩
       have e1:=herS l hle
       have e2:=hwfS l hlw
       have e3:=hentS l
       have e4:=LT.rows_snoc ls l
       cases l with
       | mk lid lk lt lh lks =>
       rcases lh with _ | ⟨lb,lc⟩
       all_goals
        conv=>whnf
        refine ⟨fun m hm=>by rw [List.mem_singleton.1 hm]; rfl,?_⟩
        conv=>whnf
        refine ⟨by show 1*64≤_; omega,.inr ⟨(by intro e; cases e),?_⟩⟩
        conv=>whnf
        refine ⟨n - 1,by omega,some [0,1,2,5],?_⟩
        conv=>whnf
        refine ⟨1,.own 3,ls++[_],by omega,by simp [hil],e1,e2,⟨rfl,rfl,rfl,rfl,rfl,rfl,trivial⟩,.inr ⟨by omega,rfl,?_⟩⟩
        rw [← e3,e4]
        have:ls=[]:=List.eq_nil_of_length_eq_zero hil
        subst this
        rfl
     · conv=>whnf
       rw [ltB_t (by omega)]
       conv=>whnf
       refine ⟨by omega,T.rows kids,_,4,rfl,hg,rfl,rfl,?_⟩
       conv=>whnf
       refine .inr (.inl ⟨[0],false,?_⟩)
       conv=>whnf
       refine hc.mono ?_
       rintro o st' ⟨l,hle,hlw,rfl,rfl⟩
       have e1:=herS l hle
       have e2:=hwfS l hlw
       have e3:=hentS l
       have e4:=LT.rows_snoc ls l
       cases l with
       | mk lid lk lt lh lks =>
       rcases lh with _ | ⟨lb,lc⟩
       all_goals
        conv=>whnf
        refine ⟨fun m hm=>by rw [List.mem_singleton.1 hm]; rfl,?_⟩
        conv=>whnf
        refine ⟨by
         show ((LT.rows ls).length+1)*64≤_
         rw [LT.rows_len]; omega,?_⟩
        conv=>whnf
        refine ⟨n - 1,by omega,some [0,1,2,6],?_⟩
        conv=>whnf
        refine ⟨i+1,.own 3,ls++[_],by omega,by simp [hil],e1,e2,⟨rfl,rfl,rfl,rfl,rfl,?_,trivial⟩,.inr ⟨by omega,rfl,?_⟩⟩
        · show V.int .i64 (IntKind.i64.wrap (i+1))=_
          rw [hw]
        · rw [← e3,e4]
          rfl
   · rcases hst with ⟨rfl,rfl,rfl⟩ | ⟨hi0,rfl,rfl⟩
     · omega
     · conv=>whnf
       rw [ltB_f (by omega)]
       conv=>whnf
       refine ⟨[3],false,?_⟩
       conv=>whnf
       refine ⟨ls,?_,hwf,rfl,rfl⟩
       rw [her,List.take_of_length_le (by omega)]
 · rintro o st' ⟨ls,h1,h2,rfl,rfl⟩
   refine ⟨_,[poolO (es++LT.entsL ls)],0,es++LT.entsL ls,LT.rows ls,4,rfl,rfl,rfl,Nat.le_refl _,by simp [poolO],fun b c=>⟨rfl,.mk id kind text (some (b,c)) ls,by simp [LT.erase,h1],⟨by simp,h2⟩,?_,?_⟩⟩
   · rw [LT.rows_len]; rfl
   · simp [LT.ents,rootE]
theorem treeCopy_acc (t:T) (ht:t.Small):∀ es,Full Try.prog noY 42 [.agg t.cells] [poolO es] (CopyR t es):=by
 induction ht with
 | @mk id kind text kids g1 g2 g3 g4 g5 ih =>
   intro es
   cases kids with
   | nil=>exact treeCopy_nil id kind text es
   | cons k ks=>exact treeCopy_cons id kind text (k::ks) g4 (by simp) es ih
end Go.Cod
namespace Go.Cod
open Go Go.Proofs
set_option maxRecDepth 10000
def TZ:T:=.mk 0 [] [] []
mutual
def fT:T→Int→Option T
 | .mk id kind text kids,x=>if id=x then some (.mk id kind text kids) else fL kids x
def fL:List T→Int→Option T
 | [],_=>none
 | t::ts,x=>match fT t x with
   | some s=>some s
   | none=>fL ts x
end
def fR:Option T→V
 | some t=>.tup [.agg t.cells,.bool true]
 | none=>.tup [.agg TZ.cells,.bool false]
mutual
theorem fT_sp:∀ (t:T) (x ov lv:Int),fT t x=((spT t ov lv).find? (isId x)).map (·.1)
 | .mk id kind text kids,x,ov,lv=>by
   simp only [fT,spT,List.find?_cons]
   by_cases h:id=x
   · have:isId x (.mk id kind text kids,ov,lv)=true:=by simp [isId,idS,T.id,h]
     rw [if_pos h,this]; rfl
   · have:isId x (.mk id kind text kids,ov,lv)=false:=by simp [isId,idS,T.id,h]
     rw [if_neg h,this]
     exact fL_sp kids x _ _
theorem fL_sp:∀ (ts:List T) (x ov lv:Int),fL ts x=((spL ts ov lv).find? (isId x)).map (·.1)
 | [],_,_,_=>rfl
 | t::ts,x,ov,lv=>by
   simp only [fL,spL,List.find?_append,fT_sp t x ov lv,fL_sp ts x ov lv]
   cases (spT t ov lv).find? (isId x) <;> rfl
end
mutual
theorem fT_small:∀ (t:T) (x:Int),t.Small→∀ s,fT t x=some s→s.Small
 | .mk id kind text kids,x,h,s,hs=>by
   simp only [fT] at hs
   split at hs
   · cases hs; exact h
   · cases h with
     | mk g1 g2 g3 g4 g5=>exact fL_small kids x g5 s hs
theorem fL_small:∀ (ts:List T) (x:Int),(∀ t∈ts,t.Small)→∀ s,fL ts x=some s→s.Small
 | [],_,_,_,hs=>by simp [fL] at hs
 | t::ts,x,h,s,hs=>by
   have h0:=fT_small t x (h t (by simp))
   simp only [fL] at hs
   split at hs
   · rename_i s' hs'; cases hs; exact h0 _ hs'
   · exact fL_small ts x (fun t ht=>h t (by simp [ht])) s hs
end
theorem fL_drop (ts:List T) (i:Nat) (h:i < ts.length) (x:Int):fL (ts.drop i) x=match fT ts[i] x with
 | some s=>some s
 | none=>fL (ts.drop (i+1)) x:=by
 rw [List.drop_eq_getElem_cons h]; simp [fL]
theorem TZ_small:TZ.Small:=.mk (by omega) (by simp) (by simp) (by simp) (by simp)
theorem l2Find_pure1 (t:T) (hs:t.Small) (x:Int) (hT:∀ t'∈t.kids,Pure Try.prog 70 [.agg t'.cells,.int .i64 x] (·=fR (fT t' x))) :
 Pure Try.prog 70 [.agg t.cells,.int .i64 x] (·=fR (fT t x)):=by
 cases hs with
 | @mk id kind text kids g1 g2 g3 g4 g5 =>
 simp only [T.kids] at hT
 have hlr:=Go.Cod.rows_len kids
 have hov:fT (.mk id kind text kids) x=if id=x then some (.mk id kind text kids) else fL kids x:=rfl
 refine pure_of_awp good Try.func70 rfl (by kernel_rfl) (by decide) ?_
 conv=>whnf
 by_cases a1:id=x
 · rw [eqB_t a1]
   conv=>whnf
   rw [hov,if_pos a1]
   rfl
 rw [eqB_f a1]
 conv=>whnf
 rw [if_neg a1] at hov
 refine loop_drop (fun n fr st=>∃ i:Nat,n+i=kids.length∧st=[⟨[[.int .i64 id,.str kind,.str text,.sl (T.rows kids)]],4,true,true,true,.cell⟩,⟨[zrow],4,true,true,true,.cell⟩]∧fL kids x=fL (kids.drop i) x∧Holds fr [(1,.int .i64 x),(2,.ptr 0 0 0),(4,.ptr 1 0 0),(6,.int .i64 i)]) kids.length none
  ⟨0,rfl,rfl,rfl,rfl,rfl,rfl,rfl,trivial⟩ ?_
 rintro n fr st ⟨i,hi,rfl,hx,hh⟩
 obtain ⟨fr,rfl⟩:=hh.split
 clear hh
 conv=>whnf
 by_cases hlt:i < kids.length
 · rw [hlr,ltB_t (by omega)]
   conv=>whnf
   refine ⟨by omega,T.rows kids,kids[i].cells,4,rfl,Go.Cod.rows_get kids i hlt,rfl,Go.Cod.cells_len _,?_⟩
   have hc:=hT kids[i] (List.getElem_mem _)
   rw [fL_drop kids i hlt] at hx
   generalize kids[i]=t at hc hx ⊢
   cases t with
   | mk id' kind' text' kids' =>
   conv=>whnf
   refine .inl (hc.mono ?_)
   rintro r rfl
   cases hf:fT (.mk id' kind' text' kids') x with
   | some s =>
     rw [hf] at hx
     simp only at hx
     cases s with
     | mk sid sk st sks =>
     conv=>whnf
     rw [hov,hx]
     rfl
   | none =>
     rw [hf] at hx
     simp only at hx
     conv=>whnf
     refine ⟨n - 1,by omega,some [0,1],?_⟩
     conv=>whnf
     refine ⟨i+1,by omega,rfl,hx,rfl,rfl,rfl,?_,trivial⟩
     show V.int .i64 (IntKind.i64.wrap (i+1))=_
     rw [wrap64 (by omega) (by omega)]; simp
 · rw [hlr,ltB_f (by omega)]
   conv=>whnf
   rw [List.drop_of_length_le (by omega)] at hx
   rw [hov,hx]
   rfl
theorem l2Find_pure (t:T) (hs:t.Small) (x:Int):Pure Try.prog 70 [.agg t.cells,.int .i64 x] (·=fR (fT t x)):=by
 induction hs with
 | @mk id kind text kids g1 g2 g3 g4 g5 ih=>exact l2Find_pure1 _ (.mk g1 g2 g3 g4 g5) x ih
def findT (t:T) (x:Int):Option T:=if okT t then fT t x else none
theorem spotOf_find (t:T) (x:Int):(spotOf t x).map (·.1)=findT t x:=by
 unfold spotOf findT
 split
 · exact (fT_sp t x 0 1).symm
 · rfl
end Go.Cod
namespace Go.Cod
open Go Go.Proofs
set_option maxRecDepth 10000
theorem nodup_of_labs {es:List (List V)} (h:∀ (i j:Nat) e e',es[i]? = some e→es[j]? = some e'→labOf e=labOf e'→i=j):(es.map labOf).Nodup:=by
 induction es with
 | nil=>simp
 | cons e es ih =>
   rw [List.map_cons,List.nodup_cons]
   refine ⟨fun hm=>?_,ih fun i j a b h1 h2 h3=>?_⟩
   · obtain ⟨e',he',hl⟩:=List.mem_map.1 hm
     obtain ⟨j,hj⟩:=List.getElem?_of_mem he'
     have:=h 0 (j+1) e e' rfl (by simpa using hj) hl.symm
     omega
   · have:=h (i+1) (j+1) a b (by simpa using h1) (by simpa using h2) h3
     omega
theorem LabsOk.nodup {st:St} (h:LabsOk st) {k:Nat} {es:List (List V)} (hk:st[k]? = some (poolO es)):(es.map labOf).Nodup :=
 nodup_of_labs fun i j e e' h1 h2 h3=>(h k k _ _ i j e e' hk hk rfl rfl h1 h2 h3).2
mutual
theorem T.ids_size:∀ t:T,t.ids.length=t.size
 | .mk _ _ _ kids=>by simp [T.ids,T.size,T.idsL_size kids]; omega
theorem T.idsL_size:∀ ts:List T,(T.idsL ts).length=T.sizeL ts
 | []=>rfl
 | t::ts=>by simp [T.idsL,T.sizeL,T.ids_size t,T.idsL_size ts]
end
theorem T.kids_size (t:T):t.size=1+T.sizeL t.kids:=by cases t; rfl
theorem LT.kids_size (l:LT):LT.sizeL l.kids=T.sizeL l.erase.kids:=by
 cases l with
 | mk id kind text h kids=>simp only [LT.kids,LT.erase,T.kids,LT.sizeL_erase]
mutual
theorem fT_size:∀ (t:T) (x:Int) (s:T),fT t x=some s→s.size≤t.size
 | .mk id kind text kids,x,s,h=>by
   simp only [fT] at h
   split at h
   · cases h; exact Nat.le_refl _
   · have:=fL_size kids x s h; simp only [T.size]; omega
theorem fL_size:∀ (ts:List T) (x:Int) (s:T),fL ts x=some s→s.size≤T.sizeL ts
 | [],_,_,h=>by simp [fL] at h
 | t::ts,x,s,h=>by
   simp only [fL] at h
   simp only [T.sizeL]
   split at h
   · rename_i s' hs'; cases h
     have:=fT_size t x _ hs'; omega
   · have:=fL_size ts x s h; omega
end
def T.kind:T→List UInt8
 | .mk _ kind _ _=>kind
def T.text:T→List UInt8
 | .mk _ _ text _=>text
theorem viewL1 {es:List (List V)} {x y:V} (h:View es x y):ViewL es [x] [y]:=⟨rfl,fun i a b p q=>by
 match i,p,q with
 | 0,p,q=>simp at p q; subst p; subst q; exact h
 | i+1,p,q=>simp at p⟩
theorem viewL2 {es:List (List V)} {x y x' y':V} (h:View es x y) (h':View es x' y'):ViewL es [x,x'] [y,y']:=⟨rfl,fun i a b p q=>by
 match i,p,q with
 | 0,p,q=>simp at p q; subst p; subst q; exact h
 | 1,p,q=>simp at p q; subst p; subst q; exact h'
 | i+2,p,q=>simp at p⟩
end Go.Cod
namespace Go.Cod
open Go Go.Proofs
set_option maxRecDepth 10000
def idsOf (t:T):List Int:=if okT t then t.ids else []
theorem irows_snoc (a:List Int) (x:Int):irows (a++[x])=irows a++[[.int .i64 x]]:=by simp [irows]
theorem okT_len {t:T} (h:okT t=true):t.ids.length≤20:=by
 unfold okT at h
 simp only [Bool.and_eq_true,decide_eq_true_eq] at h
 exact h.2
theorem hdV_mapN (h:Option (Nat × Nat)) (n:Nat) (f:Nat→Nat):(hdV h n).mapN f=hdV h n:=by rcases h with _ | ⟨b,c⟩ <;> rfl
end Go.Cod
namespace Go.Cod
open Go Go.Proofs
set_option maxRecDepth 10000
mutual
theorem plainT_mono:∀ (t:T) (a b:Int),b≤a→plainT t a=true→plainT t b=true
 | .mk id kind text kids,a,b,h,hp=>by
   simp only [plainT,Bool.and_eq_true,Bool.not_eq_true',decide_eq_true_eq,decide_eq_false_iff_not] at hp ⊢
   obtain ⟨⟨⟨⟨h1,h2⟩,h3⟩,h4⟩,h5⟩:=hp
   exact ⟨⟨⟨⟨by omega,h2⟩,h3⟩,h4⟩,plainL_mono kids _ _ (by omega) h5⟩
theorem plainL_mono:∀ (ts:List T) (a b:Int),b≤a→plainL ts a=true→plainL ts b=true
 | [],_,_,_,_=>rfl
 | t::ts,a,b,h,hp=>by
   simp only [plainL,Bool.and_eq_true] at hp ⊢
   exact ⟨plainT_mono t a b h hp.1,plainL_mono ts a b h hp.2⟩
end
mutual
theorem fT_spec:∀ (t:T) (x:Int) (s:T),fT t x=some s→s.id=x∧s.ids.Sublist t.ids∧∀ lv,plainT t lv=true→plainT s lv=true
 | .mk id kind text kids,x,s,h=>by
   simp only [fT] at h
   split at h
   · rename_i e; cases h; exact ⟨e,.refl _,fun _ h=>h⟩
   · obtain ⟨h1,h2,h3⟩:=fL_spec kids x s h
     refine ⟨h1,h2.cons _,fun lv hp=>?_⟩
     simp only [plainT,Bool.and_eq_true] at hp
     exact plainT_mono s _ _ (by omega) (h3 _ hp.2)
theorem fL_spec:∀ (ts:List T) (x:Int) (s:T),fL ts x=some s→s.id=x∧s.ids.Sublist (T.idsL ts)∧∀ lv,plainL ts lv=true→plainT s lv=true
 | [],_,_,h=>by simp [fL] at h
 | t::ts,x,s,h=>by
   simp only [fL] at h
   split at h
   · rename_i s' hs'; cases h
     obtain ⟨h1,h2,h3⟩:=fT_spec t x _ hs'
     refine ⟨h1,h2.trans (List.sublist_append_left _ _),fun lv hp=>?_⟩
     simp only [plainL,Bool.and_eq_true] at hp
     exact h3 lv hp.1
   · obtain ⟨h1,h2,h3⟩:=fL_spec ts x s h
     refine ⟨h1,h2.trans (List.sublist_append_right _ _),fun lv hp=>?_⟩
     simp only [plainL,Bool.and_eq_true] at hp
     exact h3 lv hp.2
end
mutual
theorem fT_none:∀ (t:T) (x:Int),fT t x=none↔x∉t.ids
 | .mk id kind text kids,x=>by
   simp only [fT,T.ids,List.mem_cons,not_or]
   by_cases e:id=x
   · simp [e]
   · rw [if_neg e,fL_none kids x]
     exact ⟨fun h=>⟨fun e'=>e e'.symm,h⟩,fun h=>h.2⟩
theorem fL_none:∀ (ts:List T) (x:Int),fL ts x=none↔x∉T.idsL ts
 | [],x=>by simp [fL,T.idsL]
 | t::ts,x=>by
   have h1:=fT_none t x
   have h2:=fL_none ts x
   simp only [fL,T.idsL,List.mem_append,not_or]
   cases e:fT t x with
   | none=>simp only [h2]; exact ⟨fun h=>⟨h1.1 e,h⟩,fun h=>h.2⟩
   | some s=>rw [e] at h1; simp at h1; simp [h1]
end
theorem T.id_mem (t:T):t.id∈t.ids:=by cases t; simp [T.id,T.ids]
theorem okT_iff' (t:T):okT t=true↔plainT t 1=true∧t.ids.Nodup∧t.ids.length≤20:=by
 unfold okT
 simp [and_assoc]
theorem findT_spec {t:T} {x:Int} {s:T} (h:findT t x=some s):okT t=true∧fT t x=some s∧s.id=x∧okT s=true∧idsOf s=s.ids∧∀ i∈s.ids,i∈idsOf t:=by
 unfold findT at h
 split at h
 · rename_i hok
   obtain ⟨h1,h2,h3⟩:=fT_spec t x s h
   obtain ⟨p1,p2,p3⟩:=(okT_iff' t).1 hok
   have hos:okT s=true:=(okT_iff' s).2 ⟨h3 1 p1,h2.nodup p2,Nat.le_trans h2.length_le p3⟩
   refine ⟨hok,h,h1,hos,by rw [idsOf,if_pos hos],fun i hi=>?_⟩
   rw [idsOf,if_pos hok]
   exact h2.subset hi
 · cases h
theorem findT_isSome (t:T) (x:Int):(findT t x).isSome=decide (x∈idsOf t):=by
 unfold findT idsOf
 by_cases h:okT t=true
 · rw [if_pos h,if_pos h]
   have:=fT_none t x
   cases e:fT t x with
   | none=>simp [this.1 e]
   | some s=>rw [e] at this; simp at this; simp [this]
 · rw [if_neg h,if_neg h]; simp
theorem treeOver_none {t:T} {x:Int} (h:findT t x=none):treeOver t x=-1:=by
 have:=spotOf_find t x
 rw [h] at this
 unfold treeOver
 cases e:spotOf t x with
 | none=>rfl
 | some s=>rw [e] at this; simp at this
mutual
theorem overT_in:∀ (t:T) (x ov n:Int),t.ids.Nodup→overT t x ov=n→0≤n→(t.id=x∧n=ov)∨∃ s,fT t n=some s∧x∈s.kids.map T.id
 | .mk id kind text kids,x,ov,n,hn,h,h0=>by
   simp only [T.ids,List.nodup_cons] at hn
   simp only [overT] at h
   split at h
   · rename_i e; exact .inl ⟨e,h.symm⟩
   · rcases overL_in kids x id n hn.2 h h0 with ⟨e,hm⟩ | ⟨s,hs,hm⟩
     · exact .inr ⟨.mk id kind text kids,by simp [fT,e],hm⟩
     · refine .inr ⟨s,?_,hm⟩
       have:n∈T.idsL kids:=by
        obtain ⟨h1,h2,_⟩:=fL_spec kids n s hs
        rw [← h1]; exact h2.subset s.id_mem
       rw [fT,if_neg (fun e=>hn.1 (by rw [e]; exact this))]
       exact hs
theorem overL_in:∀ (ts:List T) (x ov n:Int),(T.idsL ts).Nodup→overL ts x ov=n→0≤n→(n=ov∧x∈ts.map T.id)∨∃ s,fL ts n=some s∧x∈s.kids.map T.id
 | [],_,_,n,_,h,h0=>by simp only [overL] at h; omega
 | t::ts,x,ov,n,hn,h,h0=>by
   simp only [T.idsL,List.nodup_append] at hn
   simp only [overL] at h
   split at h
   · rcases overT_in t x ov n hn.1 h h0 with ⟨e,e'⟩ | ⟨s,hs,hm⟩
     · exact .inl ⟨e',by simp [e]⟩
     · exact .inr ⟨s,by simp [fL,hs],hm⟩
   · rcases overL_in ts x ov n hn.2.1 h h0 with ⟨e,hm⟩ | ⟨s,hs,hm⟩
     · exact .inl ⟨e,by simp [hm]⟩
     · refine .inr ⟨s,?_,hm⟩
       have hin:n∈T.idsL ts:=by
        obtain ⟨h1,h2,_⟩:=fL_spec ts n s hs
        rw [← h1]; exact h2.subset s.id_mem
       have:fT t n=none:=(fT_none t n).2 fun hm=>hn.2.2 n hm n hin rfl
       simp [fL,this,hs]
end
theorem kidIds_sub:∀ (ts:List T),(ts.map T.id).Sublist (T.idsL ts)
 | []=>.refl _
 | t::ts=>by
   cases t with
   | mk id kind text kids =>
   simp only [List.map_cons,T.id,T.idsL,T.ids,List.cons_append]
   exact ((kidIds_sub ts).trans (List.sublist_append_right _ _)).cons_cons _
theorem okT_kids {s:T} (h:okT s=true):(s.kids.map T.id).Nodup:=by
 obtain ⟨_,h2,_⟩:=(okT_iff' s).1 h
 cases s with
 | mk id kind text kids =>
 simp only [T.ids,List.nodup_cons] at h2
 exact (kidIds_sub kids).nodup h2.2
theorem count_one {l:List Int} (h:l.Nodup) {x:Int} (hx:x∈l):l.count x=1:=by
 induction l with
 | nil=>simp at hx
 | cons a l ih =>
   simp only [List.nodup_cons] at h
   by_cases e:a=x
   · subst e; rw [List.count_cons_self,List.count_eq_zero.2 h.1]
   · rw [List.count_cons_of_ne e]
     exact ih h.2 (by
      rcases List.mem_cons.1 hx with h | h
      · exact absurd h.symm e
      · exact h)
theorem treeOver_cases (t:T) (x:Int):(treeOver t x=-1∧(okT t=false∨x∉idsOf t))∨(okT t=true∧treeOver t x=0∧t.id=x)∨(1≤treeOver t x∧∃ s,findT t (treeOver t x)=some s∧okT s=true∧(s.kids.map T.id).count x=1):=by
 cases hf:findT t x with
 | none =>
   refine .inl ⟨treeOver_none hf,?_⟩
   have:=findT_isSome t x
   rw [hf] at this
   exact .inr (by simpa using this)
 | some s0 =>
   obtain ⟨hok,hfx,_,_,_,_⟩:=findT_spec hf
   obtain ⟨p1,p2,p3⟩:=(okT_iff' t).1 hok
   have hov:treeOver t x=overT t x 0:=by
    unfold treeOver spotOf
    rw [if_pos hok,(overT_eq t x 0 1 (by omega) (okT_ids hok)).1]
   have hsm:=(overT_eq t x 0 1 (by omega) (okT_ids hok)).2
   have hso:=spotOf_find t x
   rw [hf,spotOf,if_pos hok] at hso
   have h0:0≤overT t x 0:=hsm.2 (by
    cases e:(spT t 0 1).find? (isId x) with
    | none=>rw [e] at hso; simp at hso
    | some s=>rfl)
   rcases overT_in t x 0 _ p2 rfl h0 with ⟨e,e'⟩ | ⟨s,hs,hm⟩
   · exact .inr (.inl ⟨hok,by rw [hov]; exact e',e⟩)
   · refine .inr (.inr ?_)
     rw [hov]
     have hft:findT t (overT t x 0)=some s:=by rw [findT,if_pos hok]; exact hs
     obtain ⟨_,_,q1,q2,_,_⟩:=findT_spec hft
     have hpos:=plainT_pos t 1 p1 _ ((fT_spec t _ s hs).2.1.subset s.id_mem)
     rw [q1] at hpos
     exact ⟨hpos,s,hft,q2,count_one (okT_kids q2) hm⟩
end Go.Cod
namespace Go.Cod
open Go Go.Proofs
set_option maxRecDepth 10000
def InsR (b n c i:Nat) (row:List V) (rows:List (List V)) (es:List (List V)) (o:Out) (st':St):Prop:=∃ b' c' es' d,d.box=false∧o=.ret (.dref b' (n+1) c')∧st'=[poolO es',d] ∧
 ((b'=b∧c'=c∧es'=putEnt b (rows.take i++row::rows.drop i) es)∨((∀ e∈es,labOf e≠b')∧es'=es++[ent b' c' 4 (rows.take i++row::rows.drop i)]))
theorem laid_end (rows:List (List V)) (row:List V):laidRows rows [row] rows.length=rows.take rows.length++row::rows.drop rows.length:=by
 simp [laidRows]
theorem putEnt_fresh {b c sz:Nat} {rows rows':List (List V)} {es:List (List V)} (h:∀ e∈es,labOf e≠b):putEnt b rows' (es++[ent b c sz rows])=es++[ent b c sz rows']:=by
 unfold putEnt
 rw [List.map_append]
 congr 1
 · refine (List.map_congr_left fun e he=>?_).trans (List.map_id _)
   rw [if_neg (h e he)]; rfl
 · simp [labOf,ent,capOf,szOfE]
theorem putEnt_twice (b:Nat) (r r':List (List V)) (es:List (List V)):putEnt b r' (putEnt b r es)=putEnt b r' es:=by
 unfold putEnt
 rw [List.map_map]
 refine List.map_congr_left fun e _=>?_
 by_cases h:labOf e=b
 · show (if labOf (if labOf e=b then ent b (capOf e) (szOfE e) r else e)=b then ent b (capOf (if labOf e=b then ent b (capOf e) (szOfE e) r else e)) (szOfE (if labOf e=b then ent b (capOf e) (szOfE e) r else e)) r' else (if labOf e=b then ent b (capOf e) (szOfE e) r else e))=_
   rw [if_pos h,if_pos h]
   show (if b=b then ent b (capOf e) (szOfE e) r' else _)=_
   rw [if_pos rfl]
 · show (if labOf (if labOf e=b then ent b (capOf e) (szOfE e) r else e)=b then ent b (capOf (if labOf e=b then ent b (capOf e) (szOfE e) r else e)) (szOfE (if labOf e=b then ent b (capOf e) (szOfE e) r else e)) r' else (if labOf e=b then ent b (capOf e) (szOfE e) r else e))=_
   rw [if_neg h,if_neg h]
theorem laidRows_len (rows ms:List (List V)) (o:Nat) (h:o+ms.length≤rows.length):(laidRows rows ms o).length=rows.length:=by
 simp only [laidRows,List.length_append,List.length_take,List.length_drop]; omega
theorem laid_two (rows:List (List V)) (row:List V) (z:List V) (i n:Nat) (hn:rows.length=n) (hi:i < n) :
 laidRows (laidRows (rows.take i++List.replicate (n+1 - i) z) [row] i) (rows.drop i) (i+1)=rows.take i++row::rows.drop i:=by
 have hl:(rows.take i).length=i:=by rw [List.length_take]; omega
 have hd:(rows.drop i).length=n - i:=by rw [List.length_drop]; omega
 generalize rows.take i=A at *
 generalize rows.drop i=B at *
 have h1:laidRows (A++List.replicate (n+1 - i) z) [row] i=A++([row]++List.replicate (n - i) z):=by
  have e1:(A++List.replicate (n+1 - i) z).take i=A:=by rw [← hl,List.take_left]
  have e2:(A++List.replicate (n+1 - i) z).drop (i+1)=List.replicate (n - i) z:=by
   rw [List.drop_append,List.drop_eq_nil_of_le (by omega),hl,List.drop_replicate,List.nil_append]
   congr 1; omega
  unfold laidRows
  rw [e1,List.length_singleton,e2]
 have e3:(A++([row]++List.replicate (n - i) z)).take (i+1)=A++[row]:=by
  have:(A++[row]).length=i+1:=by rw [List.length_append,hl]; rfl
  rw [← List.append_assoc,← this,List.take_left]
 have e4:(A++([row]++List.replicate (n - i) z)).drop (i+1+B.length)=[]:=by
  refine List.drop_eq_nil_of_le ?_
  rw [List.length_append,List.length_append,List.length_replicate,List.length_singleton,hl,hd]; omega
 rw [h1]
 unfold laidRows
 rw [e3,e4]
 simp
theorem laid_in (rows:List (List V)) (row:List V) (i n:Nat) (hn:rows.length=n) (hi:i < n) :
 laidRows (laidRows rows (rows.drop i) (i+1)) [row] i=rows.take i++row::rows.drop i:=by
 have hl1:(rows.take (i+1)).length=i+1:=by rw [List.length_take]; omega
 have h1:laidRows rows (rows.drop i) (i+1)=rows.take (i+1)++rows.drop i:=by
  have e:rows.drop (i+1+(rows.drop i).length)=[]:=List.drop_eq_nil_of_le (by rw [List.length_drop]; omega)
  unfold laidRows
  rw [e,List.append_nil]
 have e1:(rows.take (i+1)++rows.drop i).take i=rows.take i:=by
  rw [List.take_append_of_le_length (by omega),List.take_take,Nat.min_eq_left (by omega)]
 have e2:(rows.take (i+1)++rows.drop i).drop (i+1)=rows.drop i:=by
  have:=List.drop_left (l₁:=rows.take (i+1)) (l₂:=rows.drop i)
  rw [hl1] at this; exact this
 rw [h1]
 unfold laidRows
 rw [e1,List.length_singleton,e2]
 simp
set_option maxHeartbeats 8000000 in
theorem insert_full (es:List (List V)) (b n c i:Nat) (rows:List (List V)) (row:List V) (hm:ent b c 4 rows∈es) (hn:rows.length=n) (hi:i≤n) (hnc:n≤c) (hmax:n≤1048576) (hrw:∀ r∈rows,r.length=4)
 (hr:row.length=4):Full Try.prog noY 113 [.dref b n c,.int .i64 (i:Int),.own 1] [poolO es,⟨[row],4,true,true,false,.cell⟩] (InsR b n c i row rows es):=by
 have w1:IntKind.i64.wrap ((n:Int)+((1:Nat):Int))=((n+1:Nat):Int):=by rw [wrap64 (by omega) (by omega)]; simp
 have w2:IntKind.i64.wrap (((n+1:Nat):Int) - (i:Int))=((n+1 - i:Nat):Int):=by rw [wrap64 (by omega) (by omega)]; omega
 have w3:IntKind.i64.wrap ((i:Int)+((1:Nat):Int))=((i+1:Nat):Int):=by rw [wrap64 (by omega) (by omega)]; simp
 refine full_of_awp good Try.func113 rfl (by kernel_rfl) (by decide) ?_
 conv=>whnf
 refine ⟨hnc,by omega,by omega,?_⟩
 conv=>whnf
 by_cases hin:i=n
 · subst hin
   obtain ⟨es1,hes1⟩:∃ x,x=putEnt b (laidRows rows [row] i) es:=⟨_,rfl⟩
   refine ⟨fun _=>?_,fun _=>?_⟩
   all_goals
    conv=>whnf
    rw [eqB_f (by simp)]
    conv=>whnf
    rw [eqB_refl]
    conv=>whnf
    refine semAppendE (k:=0) (m:=1) (es:=es) (ms:=[row]) (rows:=rows) good rfl rfl rfl rfl rfl (by decide) rfl rfl hm (.inl rfl) (by simpa using hr) rfl (by omega) (by show (i+1)*64≤_; omega) hes1 (fun h1=>?_) (fun h1 b' c' hc' hf=>?_)
    · conv=>whnf
      refine ⟨[],false,?_⟩
      conv=>whnf
      exact ⟨b,c,es1,_,rfl,rfl,rfl,.inl ⟨rfl,rfl,by rw [hes1,← hn,laid_end]⟩⟩
    · conv=>whnf
      refine ⟨[],false,?_⟩
      conv=>whnf
      refine ⟨b',c',_,_,rfl,rfl,rfl,.inr ⟨hf,?_⟩⟩
      have e1:rows.drop i=[]:=List.drop_of_length_le (by omega)
      rw [e1]; rfl
 · refine ⟨fun h=>absurd h (by omega),fun _=>?_⟩
   conv=>whnf
   rw [eqB_f (by simp)]
   conv=>whnf
   rw [eqB_f (by omega)]
   conv=>whnf
   refine semCap good rfl rfl rfl ?_
   conv=>whnf
   by_cases hc:c < n+1
   · rw [ltB_t (by show (c:Int) < IntKind.i64.wrap ((n:Int)+((1:Nat):Int)); rw [w1]; omega)]
     conv=>whnf
     refine ⟨hnc,by omega,by omega,?_⟩
     conv=>whnf
     refine semAppendMakeE (k:=0) (es:=es) (n:=i) (m:=n+1 - i) (tot:=n+1) (rows:=rows) good rfl rfl rfl rfl rfl rfl rfl (by decide) (by decide) (by show [V.dref b i c,V.int .i64 (IntKind.i64.wrap (IntKind.i64.wrap ((n:Int)+((1:Nat):Int)) - (i:Int)))]=_; rw [w1,w2]) rfl hm (by omega) (by omega) (by omega) (by omega) (by show (n+1)*64≤_; omega) (fun b' c' hc' hf=>?_)
     obtain ⟨R0,hR0⟩:∃ R0,R0=rows.take i++List.replicate (n+1 - i) [V.int .i64 0,.str [],.str [],.nils]:=⟨_,rfl⟩
     have hR0l:R0.length=n+1:=by rw [hR0,List.length_append,List.length_take,List.length_replicate]; omega
     have hm0:ent b c 4 rows∈es++[ent b' c' 4 R0]:=List.mem_append_left _ hm
     have hm1:ent b' c' 4 R0∈es++[ent b' c' 4 R0]:=by simp
     obtain ⟨R1,hR1⟩:∃ R1,R1=laidRows R0 [row] i:=⟨_,rfl⟩
     obtain ⟨R2,hR2⟩:∃ R2,R2=laidRows R1 (rows.drop i) (i+1):=⟨_,rfl⟩
     have hR1l:R1.length=n+1:=by rw [hR1,laidRows_len _ _ _ (by simp; omega),hR0l]
     have hes2:es++[ent b' c' 4 R1]=putEnt b' (laidRows R0 ([row].take (n+1 - i)) i) (es++[ent b' c' 4 R0]):=by
      rw [putEnt_fresh hf,List.take_of_length_le (by simp; omega),hR1]
     have hes3:es++[ent b' c' 4 R2]=putEnt b' (laidRows R1 ((rows.drop i).take (n+1 - (i+1))) (i+1)) (es++[ent b' c' 4 R1]):=by
      rw [putEnt_fresh hf,List.take_of_length_le (by rw [List.length_drop]; omega),hR2]
     have hm2:ent b' c' 4 R1∈es++[ent b' c' 4 R1]:=by simp
     have hm3:ent b c 4 rows∈es++[ent b' c' 4 R1]:=List.mem_append_left _ hm
     have hfin:R2=rows.take i++row::rows.drop i:=by rw [hR2,hR1,hR0]; exact laid_two rows row _ i n hn (by omega)
     rw [show rows.take i++List.replicate (n+1 - i) (V.cells (TI.zero ⟨.agg,4,64,.agg [.int .i64 0,.str [],.str [],.nils],[(0,1,false),(1,1,false),(2,1,false),(3,1,false)],[],false⟩))=R0 from hR0.symm]
     conv=>whnf
     refine ⟨hc',by omega,by omega,fun h=>absurd h (by omega),fun _=>?_⟩
     conv=>whnf
     refine semCopyE (kd:=0) (od:=i) (nd:=n+1 - i) (cd:=c' - i) (rowsd:=R0) (ms:=[row]) (es':=es++[ent b' c' 4 R1]) good rfl rfl rfl rfl (.inl rfl) hm1 (.inl rfl) (by simpa using hr) (by omega) (by simp only [List.length_singleton]; omega) hes2 ?_
     conv=>whnf
     have hne1:¬ (IntKind.i64.wrap ((i:Int)+((1:Nat):Int))).toNat=c':=by rw [w3]; omega
     refine ⟨hc',by show 0≤IntKind.i64.wrap ((i:Int)+((1:Nat):Int)); rw [w3]; omega,by show (IntKind.i64.wrap ((i:Int)+((1:Nat):Int))).toNat≤n+1; rw [w3]; omega,fun h=>absurd h hne1,fun _=>⟨rfl,?_⟩⟩
     conv=>whnf
     refine ⟨hnc,by omega,by omega,fun h=>absurd h (by omega),fun _=>⟨rfl,?_⟩⟩
     conv=>whnf
     refine semCopyE (kd:=0) (od:=i+1) (nd:=n+1 - (i+1)) (cd:=c' - (i+1)) (rowsd:=R1) (ms:=rows.drop i) (es':=es++[ent b' c' 4 R2]) good rfl rfl rfl rfl
      (.inl (by show subD b' 4 (IntKind.i64.wrap ((i:Int)+((1:Nat):Int))).toNat (n+1 - (IntKind.i64.wrap ((i:Int)+((1:Nat):Int))).toNat) (c' - (IntKind.i64.wrap ((i:Int)+((1:Nat):Int))).toNat)=_; rw [w3]; rfl)) hm2
      (.inr ⟨b,4,i,n - i,c - i,0,c,rows,.inl rfl,hm3,by omega,by rw [List.take_of_length_le (by rw [List.length_drop]; omega)]⟩) (fun r hr=>hrw r (List.mem_of_mem_drop hr)) (by omega) (by rw [List.length_drop]; omega) hes3 ?_
     conv=>whnf
     repeat (refine And.intro (by
              conv=>whnf
              first
               | exact ⟨hc',by show 0≤IntKind.i64.wrap ((i:Int)+((1:Nat):Int)); rw [w3]; omega,by show (IntKind.i64.wrap ((i:Int)+((1:Nat):Int))).toNat≤n+1; rw [w3]; omega,fun h=>absurd h hne1,fun _=>⟨rfl,rfl⟩⟩
               | exact ⟨hnc,by omega,by omega,fun h=>absurd h (by omega),fun _=>⟨rfl,rfl⟩⟩) ?_
             conv=>whnf)
     refine ⟨[],false,?_⟩
     conv=>whnf
     exact ⟨b',c',_,_,rfl,rfl,rfl,.inr ⟨hf,by rw [hfin]; rfl⟩⟩
   · rw [ltB_f (by show IntKind.i64.wrap ((n:Int)+((1:Nat):Int))≤(c:Int); rw [w1]; omega)]
     conv=>whnf
     have hN:(IntKind.i64.wrap ((n:Int)+((1:Nat):Int))).toNat=n+1:=by rw [w1]; rfl
     have hI:(IntKind.i64.wrap ((i:Int)+((1:Nat):Int))).toNat=i+1:=by rw [w3]; rfl
     have hI0:0≤IntKind.i64.wrap ((i:Int)+((1:Nat):Int)):=by rw [w3]; omega
     have hNc:(IntKind.i64.wrap ((n:Int)+((1:Nat):Int))).toNat≤c:=by rw [hN]; omega
     have hIN:(IntKind.i64.wrap ((i:Int)+((1:Nat):Int))).toNat≤(IntKind.i64.wrap ((n:Int)+((1:Nat):Int))).toNat:=by rw [hN,hI]; omega
     have hne2:¬ (IntKind.i64.wrap ((i:Int)+((1:Nat):Int))).toNat=c:=by rw [hI]; omega
     have hiN:(i:Int).toNat≤(IntKind.i64.wrap ((n:Int)+((1:Nat):Int))).toNat:=by rw [hN]; omega
     obtain ⟨R1,hR1⟩:∃ R1,R1=laidRows rows (rows.drop i) (i+1):=⟨_,rfl⟩
     obtain ⟨es1,hes1⟩:∃ x,x=putEnt b R1 es:=⟨_,rfl⟩
     have hR1l:R1.length=n+1:=by
      rw [hR1]; simp only [laidRows,List.length_append,List.length_take,List.length_drop]; omega
     have hm1:ent b c 4 R1∈es1:=hes1 ▸ putEnt_mem hm
     have he1:es1=putEnt b (laidRows rows ((rows.drop i).take (n - i)) (i+1)) es:=by
      rw [List.take_of_length_le (by rw [List.length_drop]; omega),← hR1,hes1]
     have he2:putEnt b (laidRows R1 [row] i) es1=putEnt b (rows.take i++row::rows.drop i) es:=by
      rw [hes1,putEnt_twice,hR1,laid_in rows row i n hn (by omega)]
     refine ⟨hnc,by show 0≤IntKind.i64.wrap ((n:Int)+((1:Nat):Int)); rw [w1]; omega,hNc,?_⟩
     conv=>whnf
     refine ⟨hNc,hI0,hIN,fun h=>absurd h hne2,fun _=>?_⟩
     conv=>whnf
     refine semOverlaps (kx:=1) (ky:=0) (rows:=rows) (cap:=c) (oy:=(IntKind.i64.wrap ((i:Int)+((1:Nat):Int))).toNat) (fn:=Try.f114) good rfl Try.func114 (by kernel_rfl) (by kernel_rfl) (by kernel_rfl) (by kernel_rfl) rfl rfl rfl (by decide) rfl rfl rfl rfl (.inl rfl) hm ?_
     conv=>whnf
     refine ⟨hNc,hI0,hIN,fun h=>absurd h hne2,fun _=>⟨rfl,?_⟩⟩
     conv=>whnf
     refine ⟨hNc,by omega,hiN,fun h=>absurd h (by omega),fun _=>⟨rfl,?_⟩⟩
     conv=>whnf
     refine semCopyP (kd:=0) (ks:=0) (m:=n - i) (od:=i+1) (nd:=n+1 - (i+1)) (cd:=c - (i+1)) (os:=i) (ns:=n+1 - i) (cs:=c - i) (rowsd:=rows) (rowss:=rows) (es':=es1) good rfl rfl rfl rfl
      (.inl (by show subD b 4 (IntKind.i64.wrap ((i:Int)+((1:Nat):Int))).toNat ((IntKind.i64.wrap ((n:Int)+((1:Nat):Int))).toNat - (IntKind.i64.wrap ((i:Int)+((1:Nat):Int))).toNat) (c - (IntKind.i64.wrap ((i:Int)+((1:Nat):Int))).toNat)=_; rw [hI,hN])) hm
      (.inl (by show subD b 4 i ((IntKind.i64.wrap ((n:Int)+((1:Nat):Int))).toNat - i) (c - i)=_; rw [hN])) hm (by omega) (by omega) (by omega) (by omega) he1 ?_
     conv=>whnf
     repeat (refine And.intro (by
              conv=>whnf
              first
               | exact ⟨hNc,hI0,hIN,fun h=>absurd h hne2,fun _=>⟨rfl,rfl⟩⟩
               | exact ⟨hNc,by omega,hiN,fun h=>absurd h (by omega),fun _=>⟨rfl,rfl⟩⟩) ?_
             conv=>whnf)
     refine ⟨hNc,by omega,hiN,fun h=>absurd h (by omega),fun _=>?_⟩
     conv=>whnf
     obtain ⟨es2,hes2⟩:∃ x,x=putEnt b (rows.take i++row::rows.drop i) es:=⟨_,rfl⟩
     have hes2':es2=putEnt b (laidRows R1 ([row].take (n+1 - i)) i) es1:=by
      rw [List.take_of_length_le (by simp; omega),he2,hes2]
     refine semCopyE (kd:=0) (od:=i) (nd:=n+1 - i) (cd:=c - i) (rowsd:=R1) (ms:=[row]) (es':=es2) good rfl rfl rfl rfl
      (.inl (by show subD b 4 i ((IntKind.i64.wrap ((n:Int)+((1:Nat):Int))).toNat - i) (c - i)=_; rw [hN])) hm1 (.inl rfl) (by simpa using hr) (by omega) (by simp only [List.length_singleton]; omega) hes2' ?_
     conv=>whnf
     refine ⟨[],false,?_⟩
     conv=>whnf
     exact ⟨b,c,es2,_,rfl,by show Out.ret (V.dref b (IntKind.i64.wrap ((n:Int)+((1:Nat):Int))).toNat c)=_; rw [hN],rfl,.inl ⟨rfl,rfl,hes2⟩⟩
end Go.Cod
namespace Go.Cod
open Go Go.Proofs
set_option maxRecDepth 10000
theorem laid_cut (rows:List (List V)) (i n:Nat) (hn:rows.length=n) (hi:i < n):(laidRows rows (rows.drop (i+1)) i).take (n - 1)=rows.take i++rows.drop (i+1):=by
 have hl:(rows.take i).length=i:=by rw [List.length_take]; omega
 have hd:(rows.drop (i+1)).length=n - (i+1):=by rw [List.length_drop]; omega
 unfold laidRows
 rw [← List.append_assoc]
 rw [List.take_append_of_le_length (by rw [List.length_append,hl,hd]; omega),List.take_of_length_le (by rw [List.length_append,hl,hd]; omega)]
set_option maxHeartbeats 8000000 in
theorem delete_full (es:List (List V)) (b n c i j:Nat) (rows:List (List V)) (hm:ent b c 4 rows∈es) (hn:rows.length=n) (hi:i < n) (hj:j=i+1) (hnc:n≤c) (hmax:n≤1048576) (hrw:∀ r∈rows,r.length=4) :
 Full Try.prog noY 120 [.dref b n c,.int .i64 (i:Int),.int .i64 (j:Int)] [poolO es] (fun o st'=>o=.ret (.dref b (n - 1) c)∧st'=[poolO (putEnt b (rows.take i++rows.drop (i+1)) es)]):=by
 refine full_of_awp good Try.func120 rfl (by kernel_rfl) (by decide) ?_
 conv=>whnf
 refine semSlice3 (i:=i) (j:=j) (k:=n) good rfl rfl rfl rfl (by omega) (by omega) hnc ?_
 conv=>whnf
 rw [eqB_f (by omega)]
 conv=>whnf
 obtain ⟨es1,hes1⟩:∃ x,x=putEnt b (laidRows rows (rows.drop (i+1)) i) es:=⟨_,rfl⟩
 obtain ⟨es2,hes2⟩:∃ x,x=putEnt b (rows.take i++rows.drop (i+1)) es:=⟨_,rfl⟩
 obtain ⟨m,hmd⟩:∃ m,m=n - (i+1):=⟨_,rfl⟩
 obtain ⟨n1,hn1⟩:∃ n1,n1=n - 1:=⟨_,rfl⟩
 have him:i+m=n1:=by omega
 have hm1:ent b c 4 (laidRows rows (rows.drop (i+1)) i)∈es1:=hes1 ▸ putEnt_mem hm
 have hdl:(rows.drop (i+1)).length=m:=by rw [List.length_drop]; omega
 have hl1:n1≤(laidRows rows (rows.drop (i+1)) i).length:=by
  simp only [laidRows,List.length_append,List.length_take,List.length_drop]; omega
 have he2:es2=putEnt b ((laidRows rows (rows.drop (i+1)) i).take n1) es1:=by
  rw [hes1,putEnt_twice,hn1,laid_cut rows i n hn hi,hes2]
 have hdw:∀ r∈rows.drop (i+1),r.length=4:=fun r hr=>hrw r (List.mem_of_mem_drop hr)
 have hnn:¬ n1=c:=by omega
 rw [← hn1,← hes2]
 have hsrc1:j=c→PSrc [poolO es] (subD b 4 0 0 0) (rows.drop (i+1)):=fun h=>.inr ⟨b,4,0,0,0,0,c,rows,.inl rfl,hm,by omega,by rw [List.drop_eq_nil_of_le (by omega)]; rfl⟩
 have hsrc2:PSrc [poolO es] (subD b 4 j (n - j) (c - j)) (rows.drop (i+1)):=.inr ⟨b,4,j,n - j,c - j,0,c,rows,.inl rfl,hm,by omega,by rw [hj,List.take_of_length_le (by rw [List.length_drop]; omega)]⟩
 refine ⟨hnc,by omega,by omega,rfl,?_⟩
 conv=>whnf
 refine ⟨hnc,by omega,by omega,fun hjc=>⟨rfl,?_⟩,fun hjc=>⟨rfl,?_⟩⟩
 · conv=>whnf
   refine semAppendE (k:=0) (m:=m) (es:=es) (es1:=es1) (ms:=rows.drop (i+1)) (rows:=rows) good rfl rfl rfl rfl rfl (by decide) rfl rfl hm (hsrc1 hjc) hdw hdl (by omega) (by show (i+m)*64≤_; omega) hes1 (fun h1=>?_) (fun h1=>absurd h1 (by omega))
   rw [show (i:Int).toNat+m=n1 from him]
   conv=>whnf
   refine ⟨by omega,by omega,by omega,by omega,by omega,fun h=>absurd h hnn,fun _=>?_⟩
   conv=>whnf
   refine semClearE (k:=0) (od:=n1) (n:=n - n1) (c:=c - n1) (cap:=c) (es':=es2) good rfl rfl rfl rfl (by decide) (by decide) rfl (.inl rfl) hm1 (by omega) hl1 (by omega) he2 ?_
   conv=>whnf
   refine ⟨[],false,?_⟩
   conv=>whnf
   exact ⟨rfl,rfl⟩
 · conv=>whnf
   refine semAppendE (k:=0) (m:=m) (es:=es) (es1:=es1) (ms:=rows.drop (i+1)) (rows:=rows) good rfl rfl rfl rfl rfl (by decide) rfl rfl hm hsrc2 hdw hdl (by omega) (by show (i+m)*64≤_; omega) hes1 (fun h1=>?_) (fun h1=>absurd h1 (by omega))
   rw [show (i:Int).toNat+m=n1 from him]
   conv=>whnf
   refine ⟨by omega,by omega,by omega,by omega,by omega,fun h=>absurd h hnn,fun _=>?_⟩
   conv=>whnf
   refine semClearE (k:=0) (od:=n1) (n:=n - n1) (c:=c - n1) (cap:=c) (es':=es2) good rfl rfl rfl rfl (by decide) (by decide) rfl (.inl rfl) hm1 (by omega) hl1 (by omega) he2 ?_
   conv=>whnf
   refine ⟨[],false,?_⟩
   conv=>whnf
   exact ⟨rfl,rfl⟩
end Go.Cod
namespace Go.Cod
open Go Go.Proofs
set_option maxRecDepth 10000
mutual
def LT.seek (x:Int) (b0 i0:Nat):LT→Option (Nat × Nat)
 | .mk id _ _ h kids=>if id=x then some (b0,i0) else match h with
   | none=>none
   | some (b,_)=>LT.seekL x b 0 kids
def LT.seekL (x:Int) (b i:Nat):List LT→Option (Nat × Nat)
 | []=>none
 | l::ls=>match LT.seek x b i l with
   | some p=>some p
   | none=>LT.seekL x b (i+1) ls
end
def plV:Option (Nat × Nat)→V
 | none=>.raw (.pointer none)
 | some (b,i)=>.dptr b 4 i 0
def InC (l:LT):Prop:=∀ (x:Int) (b0 c0 i0:Nat) (rows:List (List V)) (es:List (List V)),ent b0 c0 4 rows∈es→rows[i0]? = some l.cells→(∀ e∈l.ents,e∈es)→l.Wf→LT.sizeL l.kids≤1048576 →
 Full Try.prog noY 112 [.dptr b0 4 i0 0,.int .i64 x] [poolO es] fun o st'=>o=.ret (plV (l.seek x b0 i0))∧st'=[poolO es]
theorem LT.seekL_drop (x:Int) (b:Nat) (ls:List LT) (i:Nat) (h:i < ls.length):LT.seekL x b i (ls.drop i)=match LT.seek x b i ls[i] with
 | some p=>some p
 | none=>LT.seekL x b (i+1) (ls.drop (i+1)):=by
 rw [List.drop_eq_getElem_cons h]; rfl
set_option maxHeartbeats 4000000 in
theorem treeIn_some (id:Int) (kind text:List UInt8) (b c:Nat) (kids:List LT) (hT:∀ l∈kids,InC l):InC (.mk id kind text (some (b,c)) kids):=by
 intro x b0 c0 i0 rows es hm hg hin hw hz
 simp only [LT.kids] at hz
 have hlen:=LT.len_sizeL kids
 have hroot:ent b c 4 (LT.rows kids)∈es:=hin _ (by simp [LT.ents,rootE])
 have hkin:∀ l∈kids,∀ e∈l.ents,e∈es:=fun l hl e he=>hin e (by
  simp only [LT.ents,List.mem_append]; left; rw [LT.entsL_eq]; exact List.mem_flatten.2 ⟨_,List.mem_map_of_mem hl,he⟩)
 have hkw:∀ l∈kids,l.Wf:=(LT.WfL_iff kids).1 (by simp only [LT.Wf] at hw; exact hw.2)
 refine full_of_awp good Try.func112 rfl (by kernel_rfl) (by decide) ?_
 conv=>whnf
 refine ⟨0,c0,rows,_,hm,hg,?_⟩
 conv=>whnf
 by_cases hid:id=x
 · subst hid
   rw [eqB_refl]
   conv=>whnf
   refine ⟨[],false,?_⟩
   conv=>whnf
   exact ⟨by simp only [LT.seek,if_true]; rfl,rfl⟩
 rw [eqB_f hid]
 conv=>whnf
 refine ⟨0,c0,rows,_,hm,hg,?_⟩
 conv=>whnf
 refine loop_drop (fun n fr st=>∃ (i:Nat),n+i=kids.length∧st=[poolO es]∧LT.seekL x b 0 kids=LT.seekL x b i (kids.drop i)∧Holds fr [(0,.dptr b0 4 i0 0),(1,.int .i64 x),(18,.int .i64 kids.length),(19,.int .i64 i)]) kids.length none
  ⟨0,rfl,rfl,by simp,rfl,rfl,rfl,rfl,trivial⟩ ?_
 rintro n fr st ⟨i,hi,rfl,hsk,hh⟩
 obtain ⟨fr,rfl⟩:=hh.split
 clear hh
 conv=>whnf
 by_cases hlt:i < kids.length
 · rw [ltB_t (by omega)]
   conv=>whnf
   have hgi:=LT.rows_get kids i hlt
   have hd:=LT.seekL_drop x b kids i hlt
   have hTi:=hT kids[i] (List.getElem_mem _) x b c i _ es hroot hgi (hkin _ (List.getElem_mem _)) (hkw _ (List.getElem_mem _)) (by
    have h1:=LT.sizeL_take kids i hlt
    have h2:=LT.sizeL_le kids (i+1)
    generalize kids[i]=l at *
    cases l with
    | mk id' kind' text' h' kids' =>
    simp only [LT.size,LT.kids] at h1 ⊢
    omega)
   generalize LT.seek x b i kids[i]=r at hd hTi
   refine ⟨0,c0,rows,_,hm,hg,?_⟩
   conv=>whnf
   refine ⟨by omega,by omega,?_⟩
   conv=>whnf
   refine .inr (.inl ⟨[0],false,?_⟩)
   conv=>whnf
   refine hTi.mono ?_
   rintro o st' ⟨rfl,rfl⟩
   rcases r with _ | ⟨b',i'⟩
   · conv=>whnf
     refine ⟨n - 1,by omega,none,i+1,by omega,rfl,hsk.trans hd,⟨rfl,rfl,rfl,?_,trivial⟩⟩
     show V.int .i64 (IntKind.i64.wrap (i+1))=_
     rw [wrap64 (by omega) (by omega)]; simp
   · conv=>whnf
     refine ⟨[],false,?_⟩
     conv=>whnf
     refine ⟨?_,rfl⟩
     simp only [LT.seek,if_neg hid]
     rw [hsk,hd]
     rfl
 · rw [ltB_f (by omega)]
   conv=>whnf
   refine ⟨[],false,?_⟩
   conv=>whnf
   refine ⟨?_,rfl⟩
   simp only [LT.seek,if_neg hid]
   rw [hsk,List.drop_eq_nil_of_le (by omega)]
   rfl
theorem treeIn_none (id:Int) (kind text:List UInt8):InC (.mk id kind text none []):=by
 intro x b0 c0 i0 rows es hm hg hin hw hz
 refine full_of_awp good Try.func112 rfl (by kernel_rfl) (by decide) ?_
 conv=>whnf
 refine ⟨0,c0,rows,_,hm,hg,?_⟩
 conv=>whnf
 by_cases hid:id=x
 · subst hid
   rw [eqB_refl]
   conv=>whnf
   refine ⟨[],false,?_⟩
   conv=>whnf
   exact ⟨by simp only [LT.seek,if_true]; rfl,rfl⟩
 rw [eqB_f hid]
 conv=>whnf
 refine ⟨0,c0,rows,_,hm,hg,?_⟩
 conv=>whnf
 refine loop_intro (fun n fr st=>st=[poolO es]∧Holds fr [(18,.int .i64 0),(19,.int .i64 0)]) 0 ⟨rfl,rfl,rfl,trivial⟩ ?_
 rintro n fr st ⟨rfl,hh⟩
 obtain ⟨fr,rfl⟩:=hh.split
 clear hh
 conv=>whnf
 rw [ltB_f (by simp)]
 conv=>whnf
 refine ⟨[],false,?_⟩
 conv=>whnf
 exact ⟨by simp only [LT.seek,if_neg hid]; rfl,rfl⟩
mutual
theorem treeIn_all:∀ (l:LT),l.Wf→InC l
 | .mk id kind text h kids,hw=>by
   simp only [LT.Wf] at hw
   rcases h with _ | ⟨b,c⟩
   · rw [hw.1 rfl]; exact treeIn_none id kind text
   · exact treeIn_some id kind text b c kids (treeIn_allL kids hw.2)
theorem treeIn_allL:∀ (ls:List LT),LT.WfL ls→∀ l∈ls,InC l
 | [],_,l,h=>by simp at h
 | l::ls,hw,l',h=>by
   simp only [LT.WfL] at hw
   have h0:=treeIn_all l hw.1
   rcases List.mem_cons.1 h with h | h
   · rw [h]; exact h0
   · exact treeIn_allL ls hw.2 l' h
end
def LT.seekR (x:Int):LT→V
 | .mk id _ _ h kids=>if id=x then .ptr 1 0 0 else match h with
   | none=>.raw (.pointer none)
   | some (b,_)=>plV (LT.seekL x b 0 kids)
def boxO (l:LT):O:=⟨[l.cells],4,true,true,true,.cell⟩
set_option maxHeartbeats 4000000 in
theorem treeIn_root (l:LT) (hw:l.Wf) (x:Int) (es:List (List V)) (hin:∀ e∈l.ents,e∈es) (hz:LT.sizeL l.kids≤1048576) :
 Full Try.prog noY 112 [.ptr 1 0 0,.int .i64 x] [poolO es,boxO l] fun o st'=>o=.ret (l.seekR x)∧st'=[poolO es,boxO l]:=by
 cases l with
 | mk id kind text h kids =>
 simp only [LT.kids] at hz
 simp only [LT.Wf] at hw
 rcases h with _ | ⟨b,c⟩
 · rw [hw.1 rfl]
   refine full_of_awp good Try.func112 rfl (by kernel_rfl) (by decide) ?_
   conv=>whnf
   by_cases hid:id=x
   · subst hid
     rw [eqB_refl]
     conv=>whnf
     refine ⟨[],false,?_⟩
     conv=>whnf
     exact ⟨by simp only [LT.seekR,if_true],rfl⟩
   rw [eqB_f hid]
   conv=>whnf
   refine loop_intro (fun n fr st=>st=[poolO es,boxO (.mk id kind text none [])]∧Holds fr [(18,.int .i64 0),(19,.int .i64 0)]) 0 ⟨rfl,rfl,rfl,trivial⟩ ?_
   rintro n fr st ⟨rfl,hh⟩
   obtain ⟨fr,rfl⟩:=hh.split
   clear hh
   conv=>whnf
   rw [ltB_f (by simp)]
   conv=>whnf
   refine ⟨[],false,?_⟩
   conv=>whnf
   exact ⟨by simp only [LT.seekR,if_neg hid],rfl⟩
 · have hT:=treeIn_allL kids hw.2
   have hlen:=LT.len_sizeL kids
   have hroot:ent b c 4 (LT.rows kids)∈es:=hin _ (by simp [LT.ents,rootE])
   have hkin:∀ l∈kids,∀ e∈l.ents,e∈es:=fun l hl e he=>hin e (by
    simp only [LT.ents,List.mem_append]; left; rw [LT.entsL_eq]; exact List.mem_flatten.2 ⟨_,List.mem_map_of_mem hl,he⟩)
   have hkw:∀ l∈kids,l.Wf:=(LT.WfL_iff kids).1 hw.2
   refine full_of_awp good Try.func112 rfl (by kernel_rfl) (by decide) ?_
   conv=>whnf
   by_cases hid:id=x
   · subst hid
     rw [eqB_refl]
     conv=>whnf
     refine ⟨[],false,?_⟩
     conv=>whnf
     exact ⟨by simp only [LT.seekR,if_true],rfl⟩
   rw [eqB_f hid]
   conv=>whnf
   refine loop_drop (fun n fr st=>∃ (i:Nat),n+i=kids.length∧st=[poolO es,boxO (.mk id kind text (some (b,c)) kids)]∧LT.seekL x b 0 kids=LT.seekL x b i (kids.drop i)∧Holds fr [(0,.ptr 1 0 0),(1,.int .i64 x),(18,.int .i64 kids.length),(19,.int .i64 i)]) kids.length none
    ⟨0,rfl,rfl,by simp,rfl,rfl,rfl,rfl,trivial⟩ ?_
   rintro n fr st ⟨i,hi,rfl,hsk,hh⟩
   obtain ⟨fr,rfl⟩:=hh.split
   clear hh
   conv=>whnf
   by_cases hlt:i < kids.length
   · rw [ltB_t (by omega)]
     conv=>whnf
     have hgi:=LT.rows_get kids i hlt
     have hd:=LT.seekL_drop x b kids i hlt
     have hTi:=hT kids[i] (List.getElem_mem _) x b c i _ es hroot hgi (hkin _ (List.getElem_mem _)) (hkw _ (List.getElem_mem _)) (by
      have h1:=LT.sizeL_take kids i hlt
      have h2:=LT.sizeL_le kids (i+1)
      generalize kids[i]=l at *
      cases l with
      | mk id' kind' text' h' kids' =>
      simp only [LT.size,LT.kids] at h1 ⊢
      omega)
     generalize LT.seek x b i kids[i]=r at hd hTi
     refine ⟨by omega,by omega,?_⟩
     conv=>whnf
     refine .inr (.inl ⟨[0],false,?_⟩)
     conv=>whnf
     refine hTi.mono ?_
     rintro o st' ⟨rfl,rfl⟩
     rcases r with _ | ⟨b',i'⟩
     · conv=>whnf
       refine ⟨n - 1,by omega,none,i+1,by omega,rfl,hsk.trans hd,⟨rfl,rfl,rfl,?_,trivial⟩⟩
       show V.int .i64 (IntKind.i64.wrap (i+1))=_
       rw [wrap64 (by omega) (by omega)]; simp
     · conv=>whnf
       refine ⟨[],false,?_⟩
       conv=>whnf
       refine ⟨?_,rfl⟩
       simp only [LT.seekR,if_neg hid]
       rw [hsk,hd]
       rfl
   · rw [ltB_f (by omega)]
     conv=>whnf
     refine ⟨[],false,?_⟩
     conv=>whnf
     refine ⟨?_,rfl⟩
     simp only [LT.seekR,if_neg hid]
     rw [hsk,List.drop_eq_nil_of_le (by omega)]
     rfl
end Go.Cod
namespace Go.Cod
open Go Go.Proofs
set_option maxRecDepth 10000
def placeGo (x:Int):Nat→List T→Int
 | _,[]=>-1
 | i,t::ts=>if t.id=x then (i:Int) else placeGo x (i+1) ts
def intO (x:Int):O:=⟨[[.int .i64 x]],1,true,true,true,.cell⟩
theorem treePlace1_full (t:T) (x:Int):Full Try.prog noY 90 [.agg t.cells,.ptr 0 0 0] [intO x] fun o st'=>o=.ret (.bool (eqB t.id x))∧st'=[intO x]:=by
 cases t with
 | mk id kind text kids =>
 refine full_of_awp good Try.func90 rfl (by kernel_rfl) (by decide) ?_
 conv=>whnf
 refine ⟨[],false,?_⟩
 conv=>whnf
 exact ⟨rfl,rfl⟩
theorem placeGo_drop (x:Int) (ts:List T) (i:Nat) (h:i < ts.length):placeGo x i (ts.drop i)=if ts[i].id=x then (i:Int) else placeGo x (i+1) (ts.drop (i+1)):=by
 rw [List.drop_eq_getElem_cons h]; rfl
theorem indexFunc_full (ts:List T) (x:Int) (hl:ts.length≤1048576):Full Try.prog noY 89 [.sl (T.rows ts),.fn 90 [.ptr 0 0 0]] [intO x] fun o st'=>o=.ret (.int .i64 (placeGo x 0 ts))∧st'=[intO x]:=by
 have hlr:=Go.Cod.rows_len ts
 refine full_of_awp good Try.func89 rfl (by kernel_rfl) (by decide) ?_
 conv=>whnf
 refine loop_drop (fun n fr st=>∃ (i:Nat),n+i=ts.length∧st=[intO x]∧placeGo x 0 ts=placeGo x i (ts.drop i)∧Holds fr [(0,.sl (T.rows ts)),(1,.fn 90 [.ptr 0 0 0]),(7,.int .i64 ts.length),(8,.int .i64 i)]) ts.length none
  ⟨0,rfl,rfl,by simp,rfl,rfl,by rw [← hlr]; rfl,rfl,trivial⟩ ?_
 rintro n fr st ⟨i,hi,rfl,hpl,hh⟩
 obtain ⟨fr,rfl⟩:=hh.split
 clear hh
 conv=>whnf
 by_cases hlt:i < ts.length
 · rw [ltB_t (by omega)]
   conv=>whnf
   have hg:=Go.Cod.rows_get ts i hlt
   have hd:=placeGo_drop x ts i hlt
   generalize ts[i]=t at hg hd
   have hc:=treePlace1_full t x
   have hd1:t.id=x→placeGo x i (ts.drop i)=i:=fun h=>by rw [hd,if_pos h]
   have hd2:¬ t.id=x→placeGo x i (ts.drop i)=placeGo x (i+1) (ts.drop (i+1)):=fun h=>by rw [hd,if_neg h]
   clear hd
   have w1:IntKind.i64.wrap ((i:Int)+1)=((i+1:Nat):Int):=by rw [wrap64 (by omega) (by omega)]; simp
   cases t with
   | mk id kind text kids =>
   refine ⟨by omega,T.rows ts,_,4,rfl,hg,rfl,rfl,?_⟩
   conv=>whnf
   refine ⟨[0],false,?_⟩
   conv=>whnf
   refine hc.mono ?_
   rintro o st' ⟨rfl,rfl⟩
   by_cases hid:id=x
   · rw [eqB_t (show (T.mk id kind text kids).id=x from hid)]
     conv=>whnf
     refine ⟨[],false,?_⟩
     conv=>whnf
     exact ⟨by rw [hpl,hd1 hid],rfl⟩
   · rw [eqB_f (show ¬ (T.mk id kind text kids).id=x from hid)]
     conv=>whnf
     refine ⟨n - 1,by omega,none,i+1,by omega,rfl,by rw [hpl,hd2 hid],⟨rfl,rfl,rfl,?_,trivial⟩⟩
     show V.int .i64 (IntKind.i64.wrap (i+1))=_
     rw [w1]
 · rw [ltB_f (by omega)]
   conv=>whnf
   refine ⟨[],false,?_⟩
   conv=>whnf
   refine ⟨?_,rfl⟩
   rw [hpl,List.drop_eq_nil_of_le (by omega)]; rfl
theorem treePlace_pure (t:T) (x:Int) (hl:t.kids.length≤1048576):Pure Try.prog 67 [.agg t.cells,.int .i64 x] (·=.int .i64 (placeGo x 0 t.kids)):=by
 have hc:=indexFunc_full t.kids x hl
 cases t with
 | mk id kind text kids =>
 simp only [T.kids] at hc hl
 refine pure_of_awp good Try.func67 rfl (by kernel_rfl) (by decide) ?_
 conv=>whnf
 refine ⟨[1],false,?_⟩
 conv=>whnf
 refine hc.mono ?_
 rintro o st' ⟨rfl,rfl⟩
 conv=>whnf
 rfl
end Go.Cod
namespace Go.Cod
open Go Go.Proofs
set_option maxRecDepth 10000
def LT.id:LT→Int
 | .mk id _ _ _ _=>id
mutual
def LT.upd (x:Int) (f:LT→LT):LT→Option LT
 | .mk id kind text h kids=>if id=x then some (f (.mk id kind text h kids)) else match h with
   | none=>none
   | some p=>(LT.updL x f kids).map fun ks=>.mk id kind text (some p) ks
def LT.updL (x:Int) (f:LT→LT):List LT→Option (List LT)
 | []=>none
 | l::ls=>match LT.upd x f l with
   | some l'=>some (l'::ls)
   | none=>(LT.updL x f ls).map (l::·)
end
def Deep (x:Int) (f:LT→LT) (s:T) (old:List (List V)) (new:List (List V)) (b' i':Nat):Prop :=
 ∃ (c':Nat) (ks:List LT) (node:LT),ent b' c' 4 (LT.rows ks)∈old∧ks[i']? = some node∧node.erase=s∧LT.id node=x∧node.Wf∧(node.ents.map labOf).Nodup∧(∀ e∈node.ents,e∈old)∧b'∉node.ents.map labOf ∧
   ∀ es':List (List V),(∀ e∈(f node).ents,e∈es')→(∀ e∈old,labOf e∉node.ents.map labOf→labOf e≠b'→e∈es')→ent b' c' 4 ((LT.rows ks).set i' (f node).cells)∈es'→∀ e∈new,e∈es'
def Flat (x:Int) (f:LT→LT) (s:T) (ls ls':List LT) (j:Nat):Prop :=
 ∃ node,ls[j]? = some node∧node.erase=s∧LT.id node=x∧node.Wf∧ls'=ls.set j (f node)
mutual
theorem LT.seek_none (x:Int) (f:LT→LT):∀ (l:LT) (b0 i0:Nat),l.seek x b0 i0=none→l.Wf→l.upd x f=none∧fT l.erase x=none
 | .mk id kind text h kids,b0,i0,hs,hw=>by
   simp only [LT.seek] at hs
   simp only [LT.Wf] at hw
   simp only [LT.upd,LT.erase,fT]
   by_cases hid:id=x
   · rw [if_pos hid] at hs; cases hs
   · rw [if_neg hid] at hs ⊢
     rw [if_neg hid]
     rcases h with _ | ⟨b,c⟩
     · rw [hw.1 rfl]; exact ⟨rfl,rfl⟩
     · simp only at hs ⊢
       obtain ⟨h1,h2⟩:=LT.seekL_none x f kids b 0 hs hw.2
       exact ⟨by rw [h1]; rfl,h2⟩
theorem LT.seekL_none (x:Int) (f:LT→LT):∀ (ls:List LT) (b i:Nat),LT.seekL x b i ls=none→LT.WfL ls→LT.updL x f ls=none∧fL (LT.eraseL ls) x=none
 | [],_,_,_,_=>⟨rfl,rfl⟩
 | l::ls,b,i,hs,hw=>by
   simp only [LT.seekL] at hs
   simp only [LT.WfL] at hw
   simp only [LT.updL,LT.eraseL,fL]
   cases hl:LT.seek x b i l with
   | some p=>rw [hl] at hs; cases hs
   | none =>
     rw [hl] at hs
     obtain ⟨h1,h2⟩:=LT.seek_none x f l b i hl hw.1
     obtain ⟨h3,h4⟩:=LT.seekL_none x f ls b (i+1) hs hw.2
     rw [h1,h2,h3,h4]; exact ⟨rfl,rfl⟩
end
theorem nodup_app {us vs:List (List V)} (h:((us++vs).map labOf).Nodup):(us.map labOf).Nodup∧(vs.map labOf).Nodup∧∀ e∈us,labOf e∉vs.map labOf:=by
 rw [List.map_append,List.nodup_append] at h
 exact ⟨h.1,h.2.1,fun e he hm=>h.2.2 _ (List.mem_map_of_mem he) _ hm rfl⟩
theorem Deep.right {x:Int} {f:LT→LT} {s:T} {old new z:List (List V)} {b' i':Nat} (h:Deep x f s old new b' i') (hd:∀ e∈old,labOf e∉z.map labOf):Deep x f s (old++z) (new++z) b' i':=by
 obtain ⟨c',ks,node,m,g,her,hid,hw,hnd,hin,hnb,hall⟩:=h
 refine ⟨c',ks,node,List.mem_append_left _ m,g,her,hid,hw,hnd,fun e he=>List.mem_append_left _ (hin e he),hnb,fun es' a1 a2 a3 e he=>?_⟩
 rcases List.mem_append.1 he with he | he
 · exact hall es' a1 (fun e he p q=>a2 e (List.mem_append_left _ he) p q) a3 e he
 · refine a2 e (List.mem_append_right _ he) (fun hm=>?_) (fun hb=>?_)
   · obtain ⟨e2,h2,h3⟩:=List.mem_map.1 hm
     exact hd e2 (hin e2 h2) (h3 ▸ List.mem_map_of_mem he)
   · exact hd _ m (by rw [labOf_ent,← hb]; exact List.mem_map_of_mem he)
theorem Deep.left {x:Int} {f:LT→LT} {s:T} {old new z:List (List V)} {b' i':Nat} (h:Deep x f s old new b' i') (hd:∀ e∈z,labOf e∉old.map labOf):Deep x f s (z++old) (z++new) b' i':=by
 obtain ⟨c',ks,node,m,g,her,hid,hw,hnd,hin,hnb,hall⟩:=h
 refine ⟨c',ks,node,List.mem_append_right _ m,g,her,hid,hw,hnd,fun e he=>List.mem_append_right _ (hin e he),hnb,fun es' a1 a2 a3 e he=>?_⟩
 rcases List.mem_append.1 he with he | he
 · refine a2 e (List.mem_append_left _ he) (fun hm=>?_) (fun hb=>?_)
   · obtain ⟨e2,h2,h3⟩:=List.mem_map.1 hm
     exact hd e he (h3 ▸ List.mem_map_of_mem (hin e2 h2))
   · exact hd e he (by rw [hb,← labOf_ent b' c' 4 (LT.rows ks)]; exact List.mem_map_of_mem m)
 · exact hall es' a1 (fun e he p q=>a2 e (List.mem_append_right _ he) p q) a3 e he
theorem Deep.lab {x:Int} {f:LT→LT} {s:T} {old new:List (List V)} {b' i':Nat} (h:Deep x f s old new b' i'):b'∈old.map labOf:=by
 obtain ⟨c',ks,node,m,_⟩:=h
 exact List.mem_map.2 ⟨_,m,labOf_ent _ _ _ _⟩
theorem LT.ents_mem {l:LT} {ls:List LT} (h:l∈ls) {e:List V} (he:e∈l.ents):e∈LT.entsL ls:=by
 rw [LT.entsL_eq]; exact List.mem_flatten.2 ⟨_,List.mem_map_of_mem h,he⟩
theorem LT.nodup_mem {l:LT} {ls:List LT} (h:l∈ls) (hn:((LT.entsL ls).map labOf).Nodup):(l.ents.map labOf).Nodup:=by
 rw [LT.entsL_eq] at hn
 exact ((List.sublist_flatten_of_mem (List.mem_map_of_mem h)).map labOf).nodup hn
theorem LT.entsL_set (m node:LT):∀ (ls:List LT) (j:Nat),ls[j]? = some node→((LT.entsL ls).map labOf).Nodup→∀ e∈LT.entsL (ls.set j m),e∈m.ents∨(e∈LT.entsL ls∧labOf e∉node.ents.map labOf)
 | [],j,hg,_,_,_=>by simp at hg
 | l::ls,0,hg,hn,e,he=>by
   simp only [List.getElem?_cons_zero,Option.some.injEq] at hg
   subst hg
   simp only [List.set_cons_zero,LT.entsL,List.mem_append] at he hn ⊢
   rcases he with he | he
   · exact .inl he
   · refine .inr ⟨.inr he,fun hm=>?_⟩
     obtain ⟨e2,h2,h3⟩:=List.mem_map.1 hm
     exact (nodup_app hn).2.2 e2 h2 (h3 ▸ List.mem_map_of_mem he)
 | l::ls,j+1,hg,hn,e,he=>by
   simp only [List.getElem?_cons_succ] at hg
   simp only [List.set_cons_succ,LT.entsL,List.mem_append] at he hn ⊢
   rcases he with he | he
   · refine .inr ⟨.inl he,fun hm=>?_⟩
     obtain ⟨e2,h2,h3⟩:=List.mem_map.1 hm
     exact (nodup_app hn).2.2 e he (h3 ▸ List.mem_map_of_mem (LT.ents_mem (List.mem_of_getElem? hg) h2))
   · rcases LT.entsL_set m node ls j hg (nodup_app hn).2.1 e he with h | ⟨h,k⟩
     · exact .inl h
     · exact .inr ⟨.inr h,k⟩
mutual
theorem LT.seek_some (x:Int) (f:LT→LT):∀ (l:LT) (b0 i0 b' i':Nat),l.seek x b0 i0=some (b',i')→l.Wf→(l.ents.map labOf).Nodup→b0∉l.ents.map labOf →
 ∃ s,fT l.erase x=some s∧((LT.id l=x∧s=l.erase∧(b',i')=(b0,i0)∧l.upd x f=some (f l))∨(b'≠b0∧∃ l',l.upd x f=some l'∧l'.cells=l.cells∧Deep x f s l.ents l'.ents b' i'))
 | .mk id kind text h kids,b0,i0,b',i',hs,hw,hn,hb=>by
   simp only [LT.seek] at hs
   simp only [LT.upd,LT.id,LT.erase,fT]
   simp only [LT.Wf] at hw
   simp only [LT.ents] at hn hb ⊢
   by_cases hid:id=x
   · rw [if_pos hid] at hs ⊢
     rw [if_pos hid]
     exact ⟨_,rfl,.inl ⟨hid,rfl,by cases hs; rfl,rfl⟩⟩
   · rw [if_neg hid] at hs ⊢
     rw [if_neg hid]
     rcases h with _ | ⟨b,c⟩
     · cases hs
     · simp only at hs ⊢
       have hbn:b∉(LT.entsL kids).map labOf:=by
        intro hm
        obtain ⟨e,he,hel⟩:=List.mem_map.1 hm
        exact (nodup_app hn).2.2 e he (by rw [hel]; simp [rootE,ent,labOf])
       obtain ⟨s,hs0,hs1⟩:=LT.seekL_some x f kids b 0 b' i' hs hw.2 (nodup_app hn).1 hbn
       refine ⟨s,hs0,.inr ?_⟩
       rcases hs1 with ⟨rfl,j,rfl,ls',h1,h2⟩ | ⟨h0,ls',h1,h2,h3⟩
       · obtain ⟨node,g1,g0,g2,g3,rfl⟩:=h2
         rw [Nat.zero_add]
         refine ⟨fun h=>hb (by subst h; simp [rootE,ent,labOf]),_,by rw [h1]; rfl,by simp only [LT.cells,List.length_set],c,kids,node,by simp [rootE],g1,g0,g2,g3,LT.nodup_mem (List.mem_of_getElem? g1) (nodup_app hn).1,
          fun e he=>List.mem_append_left _ (LT.ents_mem (List.mem_of_getElem? g1) he),fun hm=>?_,fun es' a1 a2 a3 e he=>?_⟩
         · obtain ⟨e2,h2,h3⟩:=List.mem_map.1 hm
           exact hbn (h3 ▸ List.mem_map_of_mem (LT.ents_mem (List.mem_of_getElem? g1) h2))
         · simp only [LT.ents] at he
           rcases List.mem_append.1 he with he | he
           · rcases LT.entsL_set (f node) node kids j g1 (nodup_app hn).1 e he with h | ⟨h,k⟩
             · exact a1 e h
             · exact a2 e (List.mem_append_left _ h) k (fun hl=>hbn (hl ▸ List.mem_map_of_mem h))
           · simp only [rootE,List.mem_singleton] at he
             subst he
             rw [show LT.rows (kids.set j (f node))=(LT.rows kids).set j (f node).cells by simp only [LT.rows,List.map_set]]
             exact a3
       · have hlen:ls'.length=kids.length:=by have:=congrArg List.length h2; rwa [LT.rows_len,LT.rows_len] at this
         refine ⟨fun h=>hb (by rw [List.map_append,← h]; exact List.mem_append_left _ h3.lab),_,by rw [h1]; rfl,by simp only [LT.cells,hlen],?_⟩
         simp only [LT.ents,rootE,h2]
         exact h3.right (nodup_app hn).2.2
theorem LT.seekL_some (x:Int) (f:LT→LT):∀ (ls:List LT) (b i b' i':Nat),LT.seekL x b i ls=some (b',i')→LT.WfL ls→((LT.entsL ls).map labOf).Nodup→b∉(LT.entsL ls).map labOf →
 ∃ s,fL (LT.eraseL ls) x=some s∧((b'=b∧∃ j,i'=i+j∧∃ ls',LT.updL x f ls=some ls'∧Flat x f s ls ls' j)∨(b'≠b∧∃ ls',LT.updL x f ls=some ls'∧LT.rows ls'=LT.rows ls∧Deep x f s (LT.entsL ls) (LT.entsL ls') b' i'))
 | [],b,i,b',i',hs,_,_,_=>by cases hs
 | l::ls,b,i,b',i',hs,hw,hn,hb=>by
   simp only [LT.seekL] at hs
   simp only [LT.updL,LT.eraseL,fL]
   simp only [LT.WfL] at hw
   simp only [LT.entsL] at hn hb ⊢
   obtain ⟨n1,n2,n3⟩:=nodup_app hn
   have hb1:b∉l.ents.map labOf:=fun hm=>hb (by rw [List.map_append]; exact List.mem_append_left _ hm)
   have hb2:b∉(LT.entsL ls).map labOf:=fun hm=>hb (by rw [List.map_append]; exact List.mem_append_right _ hm)
   cases hl:LT.seek x b i l with
   | some p =>
     rw [hl] at hs; cases hs
     obtain ⟨s,hs0,hs1⟩:=LT.seek_some x f l b i b' i' hl hw.1 n1 hb1
     rw [hs0]
     refine ⟨s,rfl,?_⟩
     rcases hs1 with ⟨h0,hse,h1,h2⟩ | ⟨h0,l',h1,h2,h3⟩
     · cases h1
       exact .inl ⟨rfl,0,rfl,f l::ls,by rw [h2],l,rfl,hse.symm,h0,hw.1,rfl⟩
     · refine .inr ⟨h0,l'::ls,by rw [h1],by simp only [LT.rows,List.map_cons,h2],?_⟩
       exact h3.right n3
   | none =>
     rw [hl] at hs
     obtain ⟨k1,k2⟩:=LT.seek_none x f l b i hl hw.1
     rw [k1,k2]
     obtain ⟨s,hs0,hs1⟩:=LT.seekL_some x f ls b (i+1) b' i' hs hw.2 n2 hb2
     refine ⟨s,hs0,?_⟩
     rcases hs1 with ⟨rfl,j,rfl,ls',h1,node,h2,h20,h3,h4,h5⟩ | ⟨h0,ls',h1,h2,h3⟩
     · exact .inl ⟨rfl,j+1,by omega,l::ls',by rw [h1]; rfl,node,h2,h20,h3,h4,by rw [h5]; rfl⟩
     · refine .inr ⟨h0,l::ls',by rw [h1]; rfl,by simp only [LT.rows,List.map_cons] at h2 ⊢; rw [h2],?_⟩
       exact h3.left n3
end
end Go.Cod
namespace Go.Cod
open Go Go.Proofs
set_option maxRecDepth 10000
theorem fresh_lab:∀ L:List Nat,∃ n,∀ m∈L,m < n
 | []=>⟨0,by simp⟩
 | a::L=>by
   obtain ⟨n,h⟩:=fresh_lab L
   refine ⟨n+a+1,fun m hm=>?_⟩
   rcases List.mem_cons.1 hm with rfl | hm
   · omega
   · have:=h m hm; omega
theorem LT.seekR_cases (l:LT) (x:Int) (f:LT→LT) (hw:l.Wf) (hn:(l.ents.map labOf).Nodup):(LT.id l=x∧l.seekR x=.ptr 1 0 0∧l.upd x f=some (f l))∨(l.seekR x=.raw (.pointer none)∧l.upd x f=none∧fT l.erase x=none) ∨
 ∃ b' i' l' s,l.seekR x=.dptr b' 4 i' 0∧l.upd x f=some l'∧l'.cells=l.cells∧fT l.erase x=some s∧Deep x f s l.ents l'.ents b' i':=by
 obtain ⟨b0,hb0⟩:=fresh_lab (l.ents.map labOf)
 have hb:b0∉l.ents.map labOf:=fun h=>absurd (hb0 _ h) (by omega)
 by_cases hid:LT.id l=x
 · cases l with
   | mk id kind text h kids =>
   simp only [LT.id] at hid
   exact .inl ⟨hid,by simp only [LT.seekR,if_pos hid],by simp only [LT.upd,if_pos hid]⟩
 have hs:l.seekR x=plV (l.seek x b0 0):=by
  cases l with
  | mk id kind text h kids =>
  simp only [LT.id] at hid
  simp only [LT.seekR,LT.seek,if_neg hid]
  rcases h with _ | ⟨b,c⟩ <;> rfl
 right
 cases hk:l.seek x b0 0 with
 | none=>exact .inl ⟨by rw [hs,hk]; rfl,LT.seek_none x f l b0 0 hk hw⟩
 | some p =>
   obtain ⟨b',i'⟩:=p
   obtain ⟨s,hs0,hs1⟩:=LT.seek_some x f l b0 0 b' i' hk hw hn hb
   rcases hs1 with ⟨h,_⟩ | ⟨_,l',h1,h2,h3⟩
   · exact absurd h hid
   · exact .inr ⟨b',i',l',s,by rw [hs,hk]; rfl,h1,h2,hs0,h3⟩
def EditR (es:List (List V)) (l:LT) (r:Option LT) (o:Out) (st':St):Prop :=
 match r with
 | none=>o=.ret (.bool false)∧st'=[poolO es,boxO l]
 | some l'=>o=.ret (.bool true)∧∃ es',st'=[poolO es',boxO l']∧∀ e∈l'.ents,e∈es'
def setText (s:List UInt8):LT→LT
 | .mk id kind _ h kids=>.mk id kind s h kids
def setKind (s:List UInt8):LT→LT
 | .mk id _ text h kids=>.mk id s text h kids
set_option maxHeartbeats 4000000 in
theorem textDo (l:LT) (hw:l.Wf) (x:Int) (s:List UInt8) (es:List (List V)) (hin:∀ e∈l.ents,e∈es) (hn:(l.ents.map labOf).Nodup) (hz:LT.sizeL l.kids≤1048576) :
 Full Try.prog noY 121 [.agg [.int .i64 x,.str s],.ptr 1 0 0] [poolO es,boxO l] (EditR es l (l.upd x (setText s))):=by
 have hc:=treeIn_root l hw x es hin hz
 have hcs:=LT.seekR_cases l x (setText s) hw hn
 generalize l.seekR x=r at hc hcs
 generalize l.upd x (setText s)=u at hcs ⊢
 have hset:∀ id kind text h kids,l=.mk id kind text h kids→setText s l=.mk id kind s h kids:=fun _ _ _ _ _ e=>by rw [e]; rfl
 have hents:∀ n:LT,(setText s n).ents=n.ents:=fun n=>by cases n; rfl
 generalize hsf:setText s=f at hcs hset hents
 cases l with
 | mk id kind text h kids =>
 rcases h with _ | ⟨b,c⟩
 all_goals
  refine full_of_awp good Try.func121 rfl (by kernel_rfl) (by decide) ?_
  conv=>whnf
  refine ⟨[0,1],true,?_⟩
  conv=>whnf
  refine hc.mono ?_
  rintro o st' ⟨rfl,rfl⟩
  rcases hcs with ⟨h0,rfl,rfl⟩ | ⟨rfl,rfl,hno⟩ | ⟨b',i',l',sx,rfl,rfl,hcl,hsx,hD⟩
  · conv=>whnf
    refine ⟨[],true,?_⟩
    conv=>whnf
    rw [hset _ _ _ _ _ rfl]
    exact ⟨rfl,es,rfl,hin⟩
  · conv=>whnf
    refine ⟨[],true,?_⟩
    conv=>whnf
    exact ⟨rfl,rfl⟩
  · obtain ⟨c',ks,node,m,g,her,hid,hnw,hnd,hnin,hnb,hall⟩:=hD
    have hr:(LT.rows ks)[i']? = some node.cells:=by simp only [LT.rows,List.getElem?_map,g,Option.map_some]
    cases node with
    | mk nid nk nt nh nks =>
    obtain ⟨es1,hes1⟩:∃ x,x=putEnt b' ((LT.rows ks).set i' (f (.mk nid nk nt nh nks)).cells) es:=⟨_,rfl⟩
    have hfc:(f (.mk nid nk nt nh nks)).cells=[.int .i64 nid,.str nk,.str s,hdV nh nks.length]:=by rw [← hsf]; rfl
    conv=>whnf
    refine ⟨0,c',LT.rows ks,_,es1,hin _ m,hr,by rw [hes1,hfc]; rfl,?_⟩
    conv=>whnf
    refine ⟨[],true,?_⟩
    conv=>whnf
    refine ⟨rfl,es1,?_,?_⟩
    · simp only [boxO,hcl]; rfl
    · refine hall es1 (fun e he=>?_) (fun e he k1 k2=>hes1 ▸ putEnt_other (hin e he) k2) (hes1 ▸ putEnt_mem (hin _ m))
      rw [hents] at he
      exact hes1 ▸ putEnt_other (hin e (hnin e he)) (fun hl=>hnb (hl ▸ List.mem_map_of_mem he))
set_option maxHeartbeats 4000000 in
theorem kindDo (l:LT) (hw:l.Wf) (x:Int) (s:List UInt8) (es:List (List V)) (hin:∀ e∈l.ents,e∈es) (hn:(l.ents.map labOf).Nodup) (hz:LT.sizeL l.kids≤1048576) :
 Full Try.prog noY 123 [.agg [.int .i64 x,.str s],.ptr 1 0 0] [poolO es,boxO l] (EditR es l (l.upd x (setKind s))):=by
 have hc:=treeIn_root l hw x es hin hz
 have hcs:=LT.seekR_cases l x (setKind s) hw hn
 generalize l.seekR x=r at hc hcs
 generalize l.upd x (setKind s)=u at hcs ⊢
 have hset:∀ id kind text h kids,l=.mk id kind text h kids→setKind s l=.mk id s text h kids:=fun _ _ _ _ _ e=>by rw [e]; rfl
 have hents:∀ n:LT,(setKind s n).ents=n.ents:=fun n=>by cases n; rfl
 generalize hsf:setKind s=f at hcs hset hents
 cases l with
 | mk id kind text h kids =>
 rcases h with _ | ⟨b,c⟩
 all_goals
  refine full_of_awp good Try.func123 rfl (by kernel_rfl) (by decide) ?_
  conv=>whnf
  refine ⟨[0,1],true,?_⟩
  conv=>whnf
  refine hc.mono ?_
  rintro o st' ⟨rfl,rfl⟩
  rcases hcs with ⟨h0,rfl,rfl⟩ | ⟨rfl,rfl,hno⟩ | ⟨b',i',l',sx,rfl,rfl,hcl,hsx,hD⟩
  · conv=>whnf
    refine ⟨[],true,?_⟩
    conv=>whnf
    rw [hset _ _ _ _ _ rfl]
    exact ⟨rfl,es,rfl,hin⟩
  · conv=>whnf
    refine ⟨[],true,?_⟩
    conv=>whnf
    exact ⟨rfl,rfl⟩
  · obtain ⟨c',ks,node,m,g,her,hid,hnw,hnd,hnin,hnb,hall⟩:=hD
    have hr:(LT.rows ks)[i']? = some node.cells:=by simp only [LT.rows,List.getElem?_map,g,Option.map_some]
    cases node with
    | mk nid nk nt nh nks =>
    obtain ⟨es1,hes1⟩:∃ x,x=putEnt b' ((LT.rows ks).set i' (f (.mk nid nk nt nh nks)).cells) es:=⟨_,rfl⟩
    have hfc:(f (.mk nid nk nt nh nks)).cells=[.int .i64 nid,.str s,.str nt,hdV nh nks.length]:=by rw [← hsf]; rfl
    conv=>whnf
    refine ⟨0,c',LT.rows ks,_,es1,hin _ m,hr,by rw [hes1,hfc]; rfl,?_⟩
    conv=>whnf
    refine ⟨[],true,?_⟩
    conv=>whnf
    refine ⟨rfl,es1,?_,?_⟩
    · simp only [boxO,hcl]; rfl
    · refine hall es1 (fun e he=>?_) (fun e he k1 k2=>hes1 ▸ putEnt_other (hin e he) k2) (hes1 ▸ putEnt_mem (hin _ m))
      rw [hents] at he
      exact hes1 ▸ putEnt_other (hin e (hnin e he)) (fun hl=>hnb (hl ▸ List.mem_map_of_mem he))
end Go.Cod
namespace Go.Cod
open Go Go.Proofs
set_option maxRecDepth 10000
theorem placeGo_in (x:Int):∀ (ts:List T) (i:Nat),x∈ts.map T.id→∃ j,j < ts.length∧placeGo x i ts=((i+j:Nat):Int)
 | [],i,h=>by simp at h
 | t::ts,i,h=>by
   simp only [placeGo]
   by_cases hid:t.id=x
   · exact ⟨0,by simp,by rw [if_pos hid]; rfl⟩
   · rw [if_neg hid]
     have hx:x∈ts.map T.id:=by
      simp only [List.map_cons,List.mem_cons] at h
      rcases h with h | h
      · exact absurd h.symm hid
      · exact h
     obtain ⟨j,h1,h2⟩:=placeGo_in x ts (i+1) hx
     exact ⟨j+1,by simp; omega,by rw [h2]; congr 1; omega⟩
def cutKid (x:Int):LT→LT
 | .mk id kind text h kids=>.mk id kind text h (kids.eraseIdx (placeGo x 0 (LT.eraseL kids)).toNat)
def cutT (l:LT) (x:Int):Option LT:=if 1≤treeOver l.erase x then l.upd (treeOver l.erase x) (cutKid x) else none
theorem rows_erase (ks:List LT) (j:Nat):(LT.rows ks).take j++(LT.rows ks).drop (j+1)=LT.rows (ks.eraseIdx j):=by
 simp only [LT.rows,List.eraseIdx_eq_take_drop_succ,List.map_append,List.map_take,List.map_drop]
theorem ents_erase (ks:List LT) (j:Nat):∀ e∈LT.entsL (ks.eraseIdx j),e∈LT.entsL ks:=fun e he=>by
 rw [LT.entsL_eq] at he
 obtain ⟨r,h1,h2⟩:=List.mem_flatten.1 he
 obtain ⟨m,h3,rfl⟩:=List.mem_map.1 h1
 exact LT.ents_mem (List.mem_of_mem_eraseIdx h3) h2
theorem delete_to (es:List (List V)) (b n c i:Nat) (jv:Int) (rows:List (List V)) (hjv:jv=((i+1:Nat):Int)) (hm:ent b c 4 rows∈es) (hn:rows.length=n) (hi:i < n) (hmax:n≤1048576) (hrw:∀ r∈rows,r.length=4) :
 Full Try.prog noY 120 [.dref b n c,.int .i64 (i:Int),.int .i64 jv] [poolO es] (fun o st'=>o=.ret (.dref b (n - 1) c)∧st'=[poolO (putEnt b (rows.take i++rows.drop (i+1)) es)]):=by
 subst hjv
 exact Full.room 0 (delete_full [ent 0 1 4 [zrow]] 0 1 1 0 1 [zrow] (by simp) rfl (by omega) rfl (by omega) (by omega) (by simp [zrow])).1
  fun hr=>delete_full es b n c i (i+1) rows hm hn hi rfl (hn ▸ hr b c 4 rows hm) hmax hrw
theorem rows_wid (ks:List LT):∀ r∈LT.rows ks,r.length=4:=fun r hr=>by
 obtain ⟨l,_,rfl⟩:=List.mem_map.1 hr
 exact l.cells_len
set_option maxHeartbeats 4000000 in
theorem cutDo (l:LT) (hw:l.Wf) (hs:l.erase.Small) (x:Int) (es:List (List V)) (hin:∀ e∈l.ents,e∈es) (hn:(l.ents.map labOf).Nodup) (hz:LT.sizeL l.kids≤1048576) :
 Full Try.prog noY 118 [.agg [.int .i64 x],.ptr 1 0 0] [poolO es,boxO l] (EditR es l (cutT l x)):=by
 have ho:=implTreeOver_pure l.erase hs x
 have hv:=l.viewA hw hin
 have hoc:=treeOver_cases l.erase x
 unfold cutT
 generalize hov:treeOver l.erase x=ov at *
 have hc:=treeIn_root l hw ov es hin hz
 have hcs:=LT.seekR_cases l ov (cutKid x) hw hn
 generalize l.seekR ov=r at hc hcs
 generalize hu:l.upd ov (cutKid x)=u at hcs ⊢
 cases l with
 | mk id kind text h kids =>
 rcases h with _ | ⟨b,c⟩
 · refine full_of_awp good Try.func118 rfl (by kernel_rfl) (by decide) ?_
   conv=>whnf
   refine ⟨.int .i64 ov,.inr ⟨es,[.agg (T.mk id kind text (LT.eraseL kids)).cells,.int .i64 x],fun e he=>⟨0,he⟩,viewL2 hv (.same _),rfl,ho.mono fun r hr=>⟨by rw [hr]; rfl,hr⟩⟩,?_⟩
   conv=>whnf
   by_cases h1:1≤ov
   rotate_left
   · rw [ltB_t (by omega),if_neg h1]
     conv=>whnf
     refine ⟨[],true,?_⟩
     conv=>whnf
     exact ⟨rfl,rfl⟩
   rw [ltB_f (by omega),if_pos h1]
   conv=>whnf
   obtain ⟨s,hf,hok,hcount⟩:∃ s,fT (LT.mk id kind text _ kids).erase ov=some s∧okT s=true∧(s.kids.map T.id).count x=1:=by
    rcases hoc with ⟨h,_⟩ | ⟨_,h,_⟩ | ⟨_,s,h2,h3,h4⟩
    · omega
    · omega
    · exact ⟨s,(findT_spec h2).2.1,h3,h4⟩
   have hxin:x∈s.kids.map T.id:=List.count_pos_iff.1 (by omega)
   obtain ⟨j,hj1,hj2⟩:=placeGo_in x s.kids 0 hxin
   rw [Nat.zero_add] at hj2
   refine ⟨[0,1],true,?_⟩
   conv=>whnf
   refine hc.mono ?_
   rintro o st' ⟨rfl,rfl⟩
   rcases hcs with ⟨h0,rfl,rfl⟩ | ⟨rfl,rfl,hno⟩ | ⟨b',i',l',sx,rfl,rfl,hcl,hsx,hD⟩
   rotate_left
   · rw [hno] at hf; cases hf
   · obtain ⟨c',ks,node,m,g,her,hid,hnw,hnd,hnin,hnb,hall⟩:=hD
     have hss:sx=s:=by rw [hsx] at hf; cases hf; rfl
     subst hss
     have hk20:sx.kids.length≤20:=by
      have h1:=okT_len hok
      have h2:=(kidIds_sub sx.kids).length_le
      rw [List.length_map] at h2
      cases sx with
      | mk a1 a2 a3 a4 =>
      simp only [T.ids,T.kids,List.length_cons] at h1 h2 ⊢
      omega
     cases node with
     | mk nid nk nt nh nks =>
     have hsk:sx.kids=LT.eraseL nks:=by rw [← her]; rfl
     rw [hsk] at hj1 hj2 hk20
     rw [LT.eraseL_len] at hj1 hk20
     simp only [LT.Wf] at hnw
     rcases nh with _ | ⟨nb,nc⟩
     · exfalso
       have:=hnw.1 rfl
       subst this
       simp at hj1
     have hr:(LT.rows ks)[i']? = some [.int .i64 nid,.str nk,.str nt,.dref nb nks.length nc]:=by simp only [LT.rows,List.getElem?_map,g,Option.map_some]; rfl
     have hpl:=treePlace_pure (.mk nid nk nt (LT.eraseL nks)) x (by simp only [T.kids]; rw [LT.eraseL_len]; omega)
     simp only [T.kids] at hpl
     rw [hj2] at hpl
     have hnv:=LT.viewA (.mk nid nk nt (some (nb,nc)) nks) (by simp only [LT.Wf]; exact hnw) (fun e he=>hin e (hnin e he))
     have w1:IntKind.i64.wrap ((j:Int)+((1:Nat):Int))=((j+1:Nat):Int):=by rw [wrap64 (by omega) (by omega)]; simp
     have hnroot0:ent nb nc 4 (LT.rows nks)∈(LT.mk nid nk nt (some (nb,nc)) nks).ents:=by simp [LT.ents,rootE]
     have hnroot:ent nb nc 4 (LT.rows nks)∈es:=hin _ (hnin _ hnroot0)
     have hnbl:nb∈(LT.mk nid nk nt (some (nb,nc)) nks).ents.map labOf:=List.mem_map.2 ⟨_,hnroot0,labOf_ent _ _ _ _⟩
     have hcut:cutKid x (.mk nid nk nt (some (nb,nc)) nks)=.mk nid nk nt (some (nb,nc)) (nks.eraseIdx j):=by simp only [cutKid,hj2,Int.toNat_natCast]
     have hlen:(nks.eraseIdx j).length=nks.length - 1:=List.length_eraseIdx_of_lt hj1
     rw [hcut] at hall
     obtain ⟨es1,hes1⟩:∃ y,y=putEnt nb (LT.rows (nks.eraseIdx j)) es:=⟨_,rfl⟩
     obtain ⟨es2,hes2⟩:∃ y,y=putEnt b' ((LT.rows ks).set i' (LT.mk nid nk nt (some (nb,nc)) (nks.eraseIdx j)).cells) es1:=⟨_,rfl⟩
     have hm1:ent b' c' 4 (LT.rows ks)∈es1:=hes1 ▸ putEnt_other (hin _ m) (by rw [labOf_ent]; intro h; rw [h] at hnb; exact hnb hnbl)
     conv=>whnf
     refine ⟨0,c',LT.rows ks,_,hin _ m,hr,?_⟩
     conv=>whnf
     refine ⟨.int .i64 (j:Int),.inr ⟨es,[.agg (T.mk nid nk nt (LT.eraseL nks)).cells,.int .i64 x],fun e he=>⟨0,he⟩,viewL2 hnv (.same _),rfl,hpl.mono fun r hr=>⟨by rw [hr]; rfl,hr⟩⟩,?_⟩
     conv=>whnf
     refine ⟨0,c',LT.rows ks,_,hin _ m,hr,?_⟩
     conv=>whnf
     refine .inr (.inl ⟨[0],false,?_⟩)
     conv=>whnf
     refine (delete_to es nb nks.length nc j _ (LT.rows nks) w1 hnroot (LT.rows_len _) hj1 (by omega) (rows_wid _)).mono ?_
     rintro o st' ⟨rfl,rfl⟩
     rw [rows_erase,← hes1]
     conv=>whnf
     refine ⟨0,c',LT.rows ks,_,es2,hm1,hr,by rw [hes2]; simp only [LT.cells,hdV,hlen]; rfl,?_⟩
     conv=>whnf
     refine ⟨[],true,?_⟩
     conv=>whnf
     refine ⟨rfl,es2,?_,?_⟩
     · simp only [boxO,hcl]; rfl
     · simp only [LT.ents] at hnd hnb hnin hall
       refine hall es2 (fun e he=>?_) (fun e he k1 k2=>hes2 ▸ putEnt_other (hes1 ▸ putEnt_other (hin e he) (fun hl=>k1 (by rw [hl]; exact hnbl))) k2) (hes2 ▸ putEnt_mem hm1)
       rcases List.mem_append.1 he with he | he
       · have he':=ents_erase _ _ e he
         refine hes2 ▸ putEnt_other (hes1 ▸ putEnt_other (hin e (hnin e (List.mem_append_left _ he'))) fun hl=>?_) (fun hl=>hnb (by rw [← hl]; exact List.mem_map_of_mem (List.mem_append_left _ he')))
         exact (nodup_app hnd).2.2 e he' (by rw [hl]; simp [rootE,ent,labOf])
       · simp only [rootE,List.mem_singleton] at he
         subst he
         refine hes2 ▸ putEnt_other (hes1 ▸ putEnt_mem hnroot) ?_
         rw [labOf_ent]; intro h; rw [← h] at hnb; exact hnb hnbl
   · simp only [LT.id] at h0
     have hse:s=.mk id kind text (LT.eraseL kids):=by
      simp only [LT.erase,fT,if_pos h0,Option.some.injEq] at hf; exact hf.symm
     subst hse
     simp only [T.kids] at hj1 hj2
     have hkl:=LT.len_sizeL kids
     simp only [LT.kids] at hz
     rw [LT.eraseL_len] at hj1
     have hpl:=treePlace_pure (.mk id kind text (LT.eraseL kids)) x (by simp only [T.kids]; rw [LT.eraseL_len]; omega)
     simp only [T.kids] at hpl
     rw [hj2] at hpl
     simp only [LT.Wf] at hw
     exfalso
     have:=hw.1 trivial
     subst this
     simp at hj1
 · refine full_of_awp good Try.func118 rfl (by kernel_rfl) (by decide) ?_
   conv=>whnf
   refine ⟨.int .i64 ov,.inr ⟨es,[.agg (T.mk id kind text (LT.eraseL kids)).cells,.int .i64 x],fun e he=>⟨0,he⟩,viewL2 hv (.same _),rfl,ho.mono fun r hr=>⟨by rw [hr]; rfl,hr⟩⟩,?_⟩
   conv=>whnf
   by_cases h1:1≤ov
   rotate_left
   · rw [ltB_t (by omega),if_neg h1]
     conv=>whnf
     refine ⟨[],true,?_⟩
     conv=>whnf
     exact ⟨rfl,rfl⟩
   rw [ltB_f (by omega),if_pos h1]
   conv=>whnf
   obtain ⟨s,hf,hok,hcount⟩:∃ s,fT (LT.mk id kind text _ kids).erase ov=some s∧okT s=true∧(s.kids.map T.id).count x=1:=by
    rcases hoc with ⟨h,_⟩ | ⟨_,h,_⟩ | ⟨_,s,h2,h3,h4⟩
    · omega
    · omega
    · exact ⟨s,(findT_spec h2).2.1,h3,h4⟩
   have hxin:x∈s.kids.map T.id:=List.count_pos_iff.1 (by omega)
   obtain ⟨j,hj1,hj2⟩:=placeGo_in x s.kids 0 hxin
   rw [Nat.zero_add] at hj2
   refine ⟨[0,1],true,?_⟩
   conv=>whnf
   refine hc.mono ?_
   rintro o st' ⟨rfl,rfl⟩
   rcases hcs with ⟨h0,rfl,rfl⟩ | ⟨rfl,rfl,hno⟩ | ⟨b',i',l',sx,rfl,rfl,hcl,hsx,hD⟩
   rotate_left
   · rw [hno] at hf; cases hf
   · obtain ⟨c',ks,node,m,g,her,hid,hnw,hnd,hnin,hnb,hall⟩:=hD
     have hss:sx=s:=by rw [hsx] at hf; cases hf; rfl
     subst hss
     have hk20:sx.kids.length≤20:=by
      have h1:=okT_len hok
      have h2:=(kidIds_sub sx.kids).length_le
      rw [List.length_map] at h2
      cases sx with
      | mk a1 a2 a3 a4 =>
      simp only [T.ids,T.kids,List.length_cons] at h1 h2 ⊢
      omega
     cases node with
     | mk nid nk nt nh nks =>
     have hsk:sx.kids=LT.eraseL nks:=by rw [← her]; rfl
     rw [hsk] at hj1 hj2 hk20
     rw [LT.eraseL_len] at hj1 hk20
     simp only [LT.Wf] at hnw
     rcases nh with _ | ⟨nb,nc⟩
     · exfalso
       have:=hnw.1 rfl
       subst this
       simp at hj1
     have hr:(LT.rows ks)[i']? = some [.int .i64 nid,.str nk,.str nt,.dref nb nks.length nc]:=by simp only [LT.rows,List.getElem?_map,g,Option.map_some]; rfl
     have hpl:=treePlace_pure (.mk nid nk nt (LT.eraseL nks)) x (by simp only [T.kids]; rw [LT.eraseL_len]; omega)
     simp only [T.kids] at hpl
     rw [hj2] at hpl
     have hnv:=LT.viewA (.mk nid nk nt (some (nb,nc)) nks) (by simp only [LT.Wf]; exact hnw) (fun e he=>hin e (hnin e he))
     have w1:IntKind.i64.wrap ((j:Int)+((1:Nat):Int))=((j+1:Nat):Int):=by rw [wrap64 (by omega) (by omega)]; simp
     have hnroot0:ent nb nc 4 (LT.rows nks)∈(LT.mk nid nk nt (some (nb,nc)) nks).ents:=by simp [LT.ents,rootE]
     have hnroot:ent nb nc 4 (LT.rows nks)∈es:=hin _ (hnin _ hnroot0)
     have hnbl:nb∈(LT.mk nid nk nt (some (nb,nc)) nks).ents.map labOf:=List.mem_map.2 ⟨_,hnroot0,labOf_ent _ _ _ _⟩
     have hcut:cutKid x (.mk nid nk nt (some (nb,nc)) nks)=.mk nid nk nt (some (nb,nc)) (nks.eraseIdx j):=by simp only [cutKid,hj2,Int.toNat_natCast]
     have hlen:(nks.eraseIdx j).length=nks.length - 1:=List.length_eraseIdx_of_lt hj1
     rw [hcut] at hall
     obtain ⟨es1,hes1⟩:∃ y,y=putEnt nb (LT.rows (nks.eraseIdx j)) es:=⟨_,rfl⟩
     obtain ⟨es2,hes2⟩:∃ y,y=putEnt b' ((LT.rows ks).set i' (LT.mk nid nk nt (some (nb,nc)) (nks.eraseIdx j)).cells) es1:=⟨_,rfl⟩
     have hm1:ent b' c' 4 (LT.rows ks)∈es1:=hes1 ▸ putEnt_other (hin _ m) (by rw [labOf_ent]; intro h; rw [h] at hnb; exact hnb hnbl)
     conv=>whnf
     refine ⟨0,c',LT.rows ks,_,hin _ m,hr,?_⟩
     conv=>whnf
     refine ⟨.int .i64 (j:Int),.inr ⟨es,[.agg (T.mk nid nk nt (LT.eraseL nks)).cells,.int .i64 x],fun e he=>⟨0,he⟩,viewL2 hnv (.same _),rfl,hpl.mono fun r hr=>⟨by rw [hr]; rfl,hr⟩⟩,?_⟩
     conv=>whnf
     refine ⟨0,c',LT.rows ks,_,hin _ m,hr,?_⟩
     conv=>whnf
     refine .inr (.inl ⟨[0],false,?_⟩)
     conv=>whnf
     refine (delete_to es nb nks.length nc j _ (LT.rows nks) w1 hnroot (LT.rows_len _) hj1 (by omega) (rows_wid _)).mono ?_
     rintro o st' ⟨rfl,rfl⟩
     rw [rows_erase,← hes1]
     conv=>whnf
     refine ⟨0,c',LT.rows ks,_,es2,hm1,hr,by rw [hes2]; simp only [LT.cells,hdV,hlen]; rfl,?_⟩
     conv=>whnf
     refine ⟨[],true,?_⟩
     conv=>whnf
     refine ⟨rfl,es2,?_,?_⟩
     · simp only [boxO,hcl]; rfl
     · simp only [LT.ents] at hnd hnb hnin hall
       refine hall es2 (fun e he=>?_) (fun e he k1 k2=>hes2 ▸ putEnt_other (hes1 ▸ putEnt_other (hin e he) (fun hl=>k1 (by rw [hl]; exact hnbl))) k2) (hes2 ▸ putEnt_mem hm1)
       rcases List.mem_append.1 he with he | he
       · have he':=ents_erase _ _ e he
         refine hes2 ▸ putEnt_other (hes1 ▸ putEnt_other (hin e (hnin e (List.mem_append_left _ he'))) fun hl=>?_) (fun hl=>hnb (by rw [← hl]; exact List.mem_map_of_mem (List.mem_append_left _ he')))
         exact (nodup_app hnd).2.2 e he' (by rw [hl]; simp [rootE,ent,labOf])
       · simp only [rootE,List.mem_singleton] at he
         subst he
         refine hes2 ▸ putEnt_other (hes1 ▸ putEnt_mem hnroot) ?_
         rw [labOf_ent]; intro h; rw [← h] at hnb; exact hnb hnbl
   · simp only [LT.id] at h0
     have hse:s=.mk id kind text (LT.eraseL kids):=by
      simp only [LT.erase,fT,if_pos h0,Option.some.injEq] at hf; exact hf.symm
     subst hse
     simp only [T.kids] at hj1 hj2
     have hkl:=LT.len_sizeL kids
     simp only [LT.kids] at hz
     rw [LT.eraseL_len] at hj1
     have hpl:=treePlace_pure (.mk id kind text (LT.eraseL kids)) x (by simp only [T.kids]; rw [LT.eraseL_len]; omega)
     simp only [T.kids] at hpl
     rw [hj2] at hpl
     simp only [LT.Wf] at hw
     have w1:IntKind.i64.wrap ((j:Int)+((1:Nat):Int))=((j+1:Nat):Int):=by rw [wrap64 (by omega) (by omega)]; simp
     have hroot:ent b c 4 (LT.rows kids)∈es:=hin _ (by simp [LT.ents,rootE])
     have hcut:cutKid x (.mk id kind text (some (b,c)) kids)=.mk id kind text (some (b,c)) (kids.eraseIdx j):=by simp only [cutKid,hj2,Int.toNat_natCast]
     have hlen:(kids.eraseIdx j).length=kids.length - 1:=List.length_eraseIdx_of_lt hj1
     conv=>whnf
     refine ⟨.int .i64 (j:Int),.inr ⟨es,[.agg (T.mk id kind text (LT.eraseL kids)).cells,.int .i64 x],fun e he=>⟨0,he⟩,viewL2 hv (.same _),rfl,hpl.mono fun r hr=>⟨by rw [hr]; rfl,hr⟩⟩,?_⟩
     conv=>whnf
     refine .inr (.inl ⟨[0],false,?_⟩)
     conv=>whnf
     refine (delete_to es b kids.length c j _ (LT.rows kids) w1 hroot (LT.rows_len _) hj1 (by omega) (rows_wid _)).mono ?_
     rintro o st' ⟨rfl,rfl⟩
     rw [rows_erase]
     conv=>whnf
     refine ⟨[],true,?_⟩
     conv=>whnf
     refine ⟨rfl,putEnt b (LT.rows (kids.eraseIdx j)) es,?_,?_⟩
     · rw [hcut]; simp only [boxO,LT.cells,hdV,hlen]; rfl
     · rw [hcut]
       intro e he
       simp only [LT.ents] at he hn hin
       rcases List.mem_append.1 he with he | he
       · refine putEnt_other (hin e (List.mem_append_left _ (ents_erase _ _ e he))) fun hl=>?_
         exact (nodup_app hn).2.2 e (ents_erase _ _ e he) (by rw [hl]; simp [rootE,ent,labOf])
       · simp only [rootE,List.mem_singleton] at he
         subst he
         exact putEnt_mem hroot
end Go.Cod
namespace Go.Cod
open Go Go.Proofs
set_option maxRecDepth 10000
mutual
def T.mapAt (x:Int) (f:T→T):T→T
 | .mk id kind text kids=>if id=x then f (.mk id kind text kids) else .mk id kind text (T.mapAtL x f kids)
def T.mapAtL (x:Int) (f:T→T):List T→List T
 | []=>[]
 | t::ts=>T.mapAt x f t::T.mapAtL x f ts
end
mutual
def T.upd (x:Int) (f:T→T):T→Option T
 | .mk id kind text kids=>if id=x then some (f (.mk id kind text kids)) else (T.updL x f kids).map fun ks=>.mk id kind text ks
def T.updL (x:Int) (f:T→T):List T→Option (List T)
 | []=>none
 | t::ts=>match T.upd x f t with
   | some t'=>some (t'::ts)
   | none=>(T.updL x f ts).map (t::·)
end
mutual
def T.cut (x:Int):T→T
 | .mk id kind text kids=>.mk id kind text (T.cutL x kids)
def T.cutL (x:Int):List T→List T
 | []=>[]
 | t::ts=>if t.id=x then T.cutL x ts else T.cut x t::T.cutL x ts
end
mutual
theorem T.mapAt_none (x:Int) (f:T→T):∀ t:T,x∉t.ids→t.mapAt x f=t
 | .mk id kind text kids,h=>by
   simp only [T.ids,List.mem_cons,not_or] at h
   simp only [T.mapAt,if_neg (Ne.symm h.1),T.mapAtL_none x f kids h.2]
theorem T.mapAtL_none (x:Int) (f:T→T):∀ ts:List T,x∉T.idsL ts→T.mapAtL x f ts=ts
 | [],_=>rfl
 | t::ts,h=>by
   simp only [T.idsL,List.mem_append,not_or] at h
   simp only [T.mapAtL,T.mapAt_none x f t h.1,T.mapAtL_none x f ts h.2]
end
mutual
theorem T.upd_none (x:Int) (f:T→T):∀ t:T,x∉t.ids→t.upd x f=none
 | .mk id kind text kids,h=>by
   simp only [T.ids,List.mem_cons,not_or] at h
   simp only [T.upd,if_neg (Ne.symm h.1),T.updL_none x f kids h.2,Option.map_none]
theorem T.updL_none (x:Int) (f:T→T):∀ ts:List T,x∉T.idsL ts→T.updL x f ts=none
 | [],_=>rfl
 | t::ts,h=>by
   simp only [T.idsL,List.mem_append,not_or] at h
   simp only [T.updL,T.upd_none x f t h.1,T.updL_none x f ts h.2,Option.map_none]
end
mutual
theorem T.upd_map (x:Int) (f:T→T):∀ t:T,x∈t.ids→t.ids.Nodup→t.upd x f=some (t.mapAt x f)
 | .mk id kind text kids,h,hn=>by
   simp only [T.ids,List.mem_cons,List.nodup_cons] at h hn
   by_cases hid:id=x
   · simp only [T.upd,T.mapAt,if_pos hid]
   · have h:x∈T.idsL kids:=by
      rcases h with h | h
      · exact absurd h.symm hid
      · exact h
     simp only [T.upd,T.mapAt,if_neg hid,T.updL_map x f kids h hn.2,Option.map_some]
theorem T.updL_map (x:Int) (f:T→T):∀ ts:List T,x∈T.idsL ts→(T.idsL ts).Nodup→T.updL x f ts=some (T.mapAtL x f ts)
 | [],h,_=>by simp [T.idsL] at h
 | t::ts,h,hn=>by
   simp only [T.idsL,List.mem_append,List.nodup_append] at h hn
   by_cases hx:x∈t.ids
   · have hx2:x∉T.idsL ts:=fun h2=>hn.2.2 x hx x h2 rfl
     simp only [T.updL,T.mapAtL,T.upd_map x f t hx hn.1,T.mapAtL_none x f ts hx2]
   · have h:x∈T.idsL ts:=by
      rcases h with h | h
      · exact absurd h hx
      · exact h
     simp only [T.updL,T.mapAtL,T.upd_none x f t hx,T.mapAt_none x f t hx,T.updL_map x f ts h hn.2.1,Option.map_some]
end
mutual
theorem LT.upd_erase (x:Int) (f:LT→LT) (g:T→T) (hf:∀ n:LT,(f n).erase=g n.erase):∀ l:LT,l.Wf→(l.upd x f).map LT.erase=l.erase.upd x g
 | .mk id kind text h kids,hw=>by
   simp only [LT.Wf] at hw
   simp only [LT.upd,LT.erase,T.upd]
   by_cases hid:id=x
   · rw [if_pos hid,if_pos hid,Option.map_some,hf]; rfl
   · rw [if_neg hid,if_neg hid]
     have hk:=LT.updL_erase x f g hf kids hw.2
     rcases h with _ | ⟨b,c⟩
     · rw [hw.1 rfl]; rfl
     · simp only
       rw [← hk]
       cases LT.updL x f kids with
       | none=>rfl
       | some ks=>rfl
theorem LT.updL_erase (x:Int) (f:LT→LT) (g:T→T) (hf:∀ n:LT,(f n).erase=g n.erase):∀ ls:List LT,LT.WfL ls→(LT.updL x f ls).map LT.eraseL=T.updL x g (LT.eraseL ls)
 | [],_=>rfl
 | l::ls,hw=>by
   simp only [LT.WfL] at hw
   have h1:=LT.upd_erase x f g hf l hw.1
   have h2:=LT.updL_erase x f g hf ls hw.2
   simp only [LT.updL,LT.eraseL,T.updL]
   rw [← h1]
   cases LT.upd x f l with
   | some l'=>rfl
   | none =>
     simp only [Option.map_none]
     rw [← h2]
     cases LT.updL x f ls with
     | none=>rfl
     | some ks=>rfl
end
mutual
theorem LT.upd_wf (x:Int) (f:LT→LT) (hf:∀ n:LT,n.Wf→(f n).Wf):∀ (l l':LT),l.Wf→l.upd x f=some l'→l'.Wf
 | .mk id kind text h kids,l',hw,e=>by
   simp only [LT.upd] at e
   by_cases hid:id=x
   · rw [if_pos hid,Option.some.injEq] at e
     exact e ▸ hf _ hw
   · rw [if_neg hid] at e
     simp only [LT.Wf] at hw
     rcases h with _ | ⟨b,c⟩
     · cases e
     · simp only [Option.map_eq_some_iff] at e
       obtain ⟨ks,h1,rfl⟩:=e
       simp only [LT.Wf]
       exact ⟨by simp,LT.updL_wf x f hf kids ks hw.2 h1⟩
theorem LT.updL_wf (x:Int) (f:LT→LT) (hf:∀ n:LT,n.Wf→(f n).Wf):∀ (ls ls':List LT),LT.WfL ls→LT.updL x f ls=some ls'→LT.WfL ls'
 | [],_,_,e=>by simp [LT.updL] at e
 | l::ls,ls',hw,e=>by
   simp only [LT.WfL] at hw
   simp only [LT.updL] at e
   cases h1:LT.upd x f l with
   | some l1 =>
     rw [h1,Option.some.injEq] at e
     subst e
     exact ⟨LT.upd_wf x f hf l l1 hw.1 h1,hw.2⟩
   | none =>
     rw [h1] at e
     simp only [Option.map_eq_some_iff] at e
     obtain ⟨ks,h2,rfl⟩:=e
     exact ⟨hw.1,LT.updL_wf x f hf ls ks hw.2 h2⟩
end
mutual
theorem T.cut_none (x:Int):∀ t:T,x∉t.ids→t.cut x=t
 | .mk id kind text kids,h=>by
   simp only [T.ids,List.mem_cons,not_or] at h
   simp only [T.cut,T.cutL_none x kids h.2]
theorem T.cutL_none (x:Int):∀ ts:List T,x∉T.idsL ts→T.cutL x ts=ts
 | [],_=>rfl
 | t::ts,h=>by
   simp only [T.idsL,List.mem_append,not_or] at h
   have:¬ t.id=x:=fun e=>h.1 (e ▸ t.id_mem)
   simp only [T.cutL,if_neg this,T.cut_none x t h.1,T.cutL_none x ts h.2]
end
def cutKidT (x:Int):T→T
 | .mk id kind text kids=>.mk id kind text (kids.eraseIdx (placeGo x 0 kids).toNat)
theorem placeGo_at (x:Int) (k:T) (b:List T) (hk:k.id=x):∀ (a:List T) (i:Nat),x∉a.map T.id→placeGo x i (a++k::b)=((i+a.length:Nat):Int)
 | [],i,_=>by simp only [List.nil_append,placeGo,if_pos hk]; rfl
 | t::a,i,h=>by
   simp only [List.map_cons,List.mem_cons,not_or] at h
   simp only [List.cons_append,placeGo,if_neg (Ne.symm h.1)]
   rw [placeGo_at x k b hk a (i+1) h.2]
   congr 1
   simp only [List.length_cons]; omega
theorem idsL_kid {ts:List T} {x:Int} (h:x∈ts.map T.id):x∈T.idsL ts:=(kidIds_sub ts).subset h
theorem T.idsL_append (a b:List T):T.idsL (a++b)=T.idsL a++T.idsL b:=by
 induction a with
 | nil=>rfl
 | cons t a ih=>simp [T.idsL,ih]
theorem T.cutL_append (x:Int) (a b:List T):T.cutL x (a++b)=T.cutL x a++T.cutL x b:=by
 induction a with
 | nil=>rfl
 | cons t a ih =>
   simp only [List.cons_append,T.cutL]
   split <;> simp [ih]
theorem cutL_kids (x:Int) (kids:List T) (hn:(T.idsL kids).Nodup) (hx:x∈kids.map T.id):T.cutL x kids=kids.eraseIdx (placeGo x 0 kids).toNat:=by
 obtain ⟨k,hk,hkx⟩:=List.mem_map.1 hx
 obtain ⟨a,b,rfl⟩:=List.append_of_mem hk
 rw [T.idsL_append] at hn
 simp only [T.idsL,List.nodup_append,List.mem_append] at hn
 have hkk:x∈k.ids:=hkx ▸ k.id_mem
 have ha:x∉T.idsL a:=fun h=>hn.2.2 x h x (.inl hkk) rfl
 have hb:x∉T.idsL b:=fun h=>hn.2.1.2.2 x hkk x h rfl
 rw [T.cutL_append]
 simp only [T.cutL,if_pos hkx]
 rw [T.cutL_none x a ha,T.cutL_none x b hb,placeGo_at x k b hkx a 0 (fun h=>ha (idsL_kid h))]
 rw [Nat.zero_add,Int.toNat_natCast,List.eraseIdx_append_of_length_le (Nat.le_refl _),Nat.sub_self]
 rfl
mutual
theorem fT_kid:∀ (t:T) (p x:Int) (s:T),fT t p=some s→x∈s.kids.map T.id→x∈T.idsL t.kids
 | .mk id kind text kids,p,x,s,h,hx=>by
   simp only [fT] at h
   simp only [T.kids]
   split at h
   · rw [Option.some.injEq] at h
     subst h
     exact idsL_kid hx
   · exact fL_kid kids p x s h hx
theorem fL_kid:∀ (ts:List T) (p x:Int) (s:T),fL ts p=some s→x∈s.kids.map T.id→x∈T.idsL ts
 | [],_,_,_,h,_=>by simp [fL] at h
 | t::ts,p,x,s,h,hx=>by
   simp only [fL] at h
   simp only [T.idsL,List.mem_append]
   cases h1:fT t p with
   | some s' =>
     rw [h1,Option.some.injEq] at h
     subst h
     have:=fT_kid t p x s' h1 hx
     cases t with
     | mk a b c d=>exact .inl (by simp only [T.ids,List.mem_cons]; exact .inr this)
   | none =>
     rw [h1] at h
     exact .inr (fL_kid ts p x s h hx)
end
mutual
theorem T.cut_map (x p:Int):∀ (t:T) (s:T),t.ids.Nodup→fT t p=some s→x∈s.kids.map T.id→t.cut x=t.mapAt p (cutKidT x)
 | .mk id kind text kids,s,hn,hf,hx=>by
   simp only [T.ids,List.nodup_cons] at hn
   simp only [fT] at hf
   simp only [T.cut,T.mapAt]
   by_cases hid:id=p
   · rw [if_pos hid,Option.some.injEq] at hf
     subst hf
     rw [if_pos hid,cutL_kids x kids hn.2 hx]; rfl
   · rw [if_neg hid] at hf
     rw [if_neg hid,T.cutL_map x p kids s hn.2 hf hx]
theorem T.cutL_map (x p:Int):∀ (ts:List T) (s:T),(T.idsL ts).Nodup→fL ts p=some s→x∈s.kids.map T.id→T.cutL x ts=T.mapAtL p (cutKidT x) ts
 | [],_,_,hf,_=>by simp [fL] at hf
 | t::ts,s,hn,hf,hx=>by
   simp only [fL] at hf
   simp only [T.idsL,List.nodup_append] at hn
   simp only [T.cutL,T.mapAtL]
   cases h1:fT t p with
   | some s' =>
     rw [h1,Option.some.injEq] at hf
     subst hf
     have hk:=fT_kid t p x s' h1 hx
     have hpi:p∈t.ids:=by
      refine Decidable.byContradiction fun h=>?_
      rw [(fT_none t p).2 h] at h1; cases h1
     have hxt:x∈t.ids:=by
      cases t with
      | mk a b c d=>simp only [T.ids,List.mem_cons]; exact .inr hk
     have hne:¬ t.id=x:=fun e=>by
      cases t with
      | mk a b c d =>
      simp only [T.ids,List.nodup_cons] at hn
      exact hn.1.1 (show a∈T.idsL d from (show a=x from e) ▸ hk)
     have hx2:x∉T.idsL ts:=fun h=>hn.2.2 x hxt x h rfl
     have hp2:p∉T.idsL ts:=fun h=>hn.2.2 p hpi p h rfl
     rw [if_neg hne,T.cutL_none x ts hx2,T.mapAtL_none p _ ts hp2,T.cut_map x p t s' hn.1 h1 hx]
   | none =>
     rw [h1] at hf
     have hk:=fL_kid ts p x s hf hx
     have hxt:x∉t.ids:=fun h=>hn.2.2 x h x hk rfl
     have hpt:=(fT_none t p).1 h1
     have hne:¬ t.id=x:=fun e=>hxt (e ▸ t.id_mem)
     rw [if_neg hne,T.cut_none x t hxt,T.mapAt_none p _ t hpt,T.cutL_map x p ts s hn.2.1 hf hx]
end
theorem T.mapAtL_eq (x:Int) (f:T→T) (ts:List T):T.mapAtL x f ts=ts.map (T.mapAt x f):=by
 induction ts with
 | nil=>rfl
 | cons t ts ih=>simp [T.mapAtL,ih]
mutual
theorem T.mapAt_size (x:Int) (f:T→T) (m:Nat) (hf:∀ s:T,(f s).size≤s.size+m):∀ t:T,(t.mapAt x f).size≤t.size*(m+1)
 | .mk id kind text kids=>by
   have hL:=T.mapAtL_size x f m hf kids
   have e:(1+T.sizeL kids)*(m+1)=(m+1)+T.sizeL kids*(m+1):=by rw [Nat.add_mul,Nat.one_mul]
   have e2:T.sizeL kids≤T.sizeL kids*(m+1):=Nat.le_mul_of_pos_right _ (by omega)
   simp only [T.mapAt]
   split
   · have:=hf (.mk id kind text kids)
     simp only [T.size] at this ⊢
     omega
   · simp only [T.size]
     omega
theorem T.mapAtL_size (x:Int) (f:T→T) (m:Nat) (hf:∀ s:T,(f s).size≤s.size+m):∀ ts:List T,T.sizeL (T.mapAtL x f ts)≤T.sizeL ts*(m+1)
 | []=>by simp [T.mapAtL,T.sizeL]
 | t::ts=>by
   have h1:=T.mapAt_size x f m hf t
   have h2:=T.mapAtL_size x f m hf ts
   have e:(t.size+T.sizeL ts)*(m+1)=t.size*(m+1)+T.sizeL ts*(m+1):=Nat.add_mul _ _ _
   simp only [T.mapAtL,T.sizeL]
   omega
end
mutual
theorem T.mapAt_small (x:Int) (f:T→T) (N:Nat) (hf:∀ s:T,s.Small→s.id=x→s.size≤N→(f s).Small):∀ t:T,t.Small→t.size≤N→(t.mapAt x f).Small
 | .mk id kind text kids,h,hN=>by
   have h':=h
   cases h with
   | mk g1 g2 g3 g4 g5 =>
   simp only [T.mapAt]
   split
   · rename_i hid
     exact hf _ h' hid hN
   · simp only [T.size] at hN
     exact .mk g1 g2 g3 (by rw [T.mapAtL_eq,List.length_map]; exact g4) (T.mapAtL_small x f N hf kids g5 (by omega))
theorem T.mapAtL_small (x:Int) (f:T→T) (N:Nat) (hf:∀ s:T,s.Small→s.id=x→s.size≤N→(f s).Small):∀ ts:List T,(∀ t∈ts,t.Small)→T.sizeL ts≤N→∀ t∈T.mapAtL x f ts,t.Small
 | [],_,_,t,h=>by simp [T.mapAtL] at h
 | t::ts,hs,hN,y,h=>by
   simp only [T.sizeL] at hN
   have h0:=T.mapAt_small x f N hf t (hs t (by simp)) (by omega)
   simp only [T.mapAtL,List.mem_cons] at h
   rcases h with rfl | h
   · exact h0
   · exact T.mapAtL_small x f N hf ts (fun z hz=>hs z (by simp [hz])) (by omega) y h
end
theorem T.cutL_len (x:Int) (ts:List T):(T.cutL x ts).length≤ts.length:=by
 induction ts with
 | nil=>simp [T.cutL]
 | cons t ts ih =>
   simp only [T.cutL]
   split
   · simp only [List.length_cons]; omega
   · simp only [List.length_cons]; omega
mutual
theorem T.cut_small (x:Int):∀ t:T,t.Small→(t.cut x).Small∧(t.cut x).size≤t.size
 | .mk id kind text kids,h=>by
   cases h with
   | mk g1 g2 g3 g4 g5 =>
   obtain ⟨h1,h2⟩:=T.cutL_small x kids g5
   simp only [T.cut,T.size]
   exact ⟨.mk g1 g2 g3 (by have:=T.cutL_len x kids; omega) h1,by omega⟩
theorem T.cutL_small (x:Int):∀ ts:List T,(∀ t∈ts,t.Small)→(∀ t∈T.cutL x ts,t.Small)∧T.sizeL (T.cutL x ts)≤T.sizeL ts
 | [],_=>by simp [T.cutL]
 | t::ts,hs=>by
   obtain ⟨h1,h2⟩:=T.cut_small x t (hs t (by simp))
   obtain ⟨h3,h4⟩:=T.cutL_small x ts (fun z hz=>hs z (by simp [hz]))
   simp only [T.cutL]
   split
   · exact ⟨h3,by simp only [T.sizeL]; omega⟩
   · refine ⟨fun y hy=>?_,by simp only [T.sizeL]; omega⟩
     rcases List.mem_cons.1 hy with rfl | hy
     · exact h1
     · exact h3 y hy
end
def putKidT (n:Nat) (y:T):T→T
 | .mk id kind text kids=>.mk id kind text (kids.take n++y::kids.drop n)
def setT (k:List UInt8) (s:List UInt8):T→T
 | .mk id _ _ kids=>.mk id k s kids
theorem T.sizeL_put (n:Nat) (y:T) (ts:List T):T.sizeL (ts.take n++y::ts.drop n)=T.sizeL ts+y.size:=by
 have:T.sizeL ts=T.sizeL (ts.take n)+T.sizeL (ts.drop n):=by rw [← T.sizeL_append,List.take_append_drop]
 rw [T.sizeL_append,this]
 simp only [T.sizeL]; omega
theorem putKidT_size (n:Nat) (y s:T):(putKidT n y s).size=s.size+y.size:=by
 cases s with
 | mk id kind text kids=>simp only [putKidT,T.size,T.sizeL_put]; omega
theorem putKidT_small (n:Nat) (y s:T) (hs:s.Small) (hy:y.Small) (hz:s.size≤1000000):(putKidT n y s).Small:=by
 have hlen:∀ ts:List T,ts.length≤T.sizeL ts:=fun ts=>by
  induction ts with
  | nil=>simp
  | cons t ts ih =>
    have:1≤t.size:=by cases t; simp only [T.size]; omega
    simp only [T.sizeL,List.length_cons]; omega
 cases hs with
 | @mk id kind text kids g1 g2 g3 g4 g5 =>
 have:=hlen kids
 simp only [T.size] at hz
 refine .mk g1 g2 g3 (by simp only [List.length_append,List.length_cons,List.length_take,List.length_drop]; omega) fun t ht=>?_
 rcases List.mem_append.1 ht with h | h
 · exact g5 t (List.mem_of_mem_take h)
 · rcases List.mem_cons.1 h with rfl | h
   · exact hy
   · exact g5 t (List.mem_of_mem_drop h)
theorem setT_size (k s:List UInt8) (t:T):(setT k s t).size=t.size:=by cases t; rfl
theorem setT_small (k s:List UInt8) (t:T) (ht:t.Small) (hk:k.length≤1048576) (hs:s.length≤1048576):(setT k s t).Small:=by
 cases ht with
 | mk g1 g2 g3 g4 g5=>exact .mk g1 hk hs g4 g5
structure Stp where
 kind:Int
 id:Int
 at_:Int
 node:T
 text:List UInt8
def Stp.cells (s:Stp):List V:=[.int .i64 s.kind,.int .i64 s.id,.int .i64 s.at_]++s.node.cells++[.str s.text]
def noneT:T→Bool
 | .mk id kind text kids=>decide (id=0)&&decide (kind=[])&&decide (text=[])&&decide (kids.length=0)
def bareT (s:Stp):Bool :=
 if s.kind=1 then decide (s.text=[]) else if s.kind=2 then noneT s.node&&decide (s.text=[])&&decide (s.at_=0) else noneT s.node&&decide (s.at_=0)
def editT (t:T) (s:Stp):Option T:=match fT t s.id with
 | none=>none
 | some x=>if bareT s=false then none else
   if s.kind=1 then (if 0≤s.at_∧s.at_≤x.kids.length∧okT s.node=true then some (t.mapAt s.id (putKidT s.at_.toNat s.node)) else none)
   else if s.kind=2 then (if s.id=t.id then none else some (t.cut s.id))
   else if s.kind=3 then some (t.mapAt s.id (setT x.kind s.text))
   else if s.kind=4 then some (t.mapAt s.id (setT s.text x.text))
   else none
def doT (t:T) (s:Stp):Option T:=match editT t s with
 | none=>none
 | some y=>if okT y=true then some y else none
def stepT (t:T) (s:Stp):T × Bool:=if okT t=true then (match doT t s with | some y=>(y,true) | none=>(t,false)) else (TZ,false)
end Go.Cod
namespace Go.Cod
open Go Go.Proofs
set_option maxRecDepth 10000
def T.kidIds (t:T):List Int:=t.kids.map T.id
theorem kids_take (ts:List T) (i:Nat) (h:i < ts.length):irows ((ts.map T.id).take (i+1))=irows ((ts.map T.id).take i)++[[.int .i64 ts[i].id]]:=by
 have h2:i < (ts.map T.id).length:=by rw [List.length_map]; exact h
 rw [List.take_succ_eq_append_getElem h2,irows_snoc,List.getElem_map]
theorem l5Numbers_pure (t:T) (hl:t.kids.length≤1048576):Pure Try.prog 69 [.agg t.cells] (·=.sl (irows t.kidIds)):=by
 cases t with
 | mk id kind text kids =>
 simp only [T.kids] at hl
 have hlr:=Go.Cod.rows_len kids
 refine pure_of_awp good Try.func69 rfl (by kernel_rfl) (by decide) ?_
 conv=>whnf
 refine loop_drop (fun n fr st=>∃ i:Nat,n+i=kids.length ∧
  ((i=0∧Holds fr [(1,.ptr 0 0 0),(3,.nils),(4,.int .i64 i)]∧st=[⟨[[.int .i64 id,.str kind,.str text,.sl (T.rows kids)]],4,true,true,true,.cell⟩]) ∨
   (0 < i∧Holds fr [(1,.ptr 0 0 0),(3,.own 1),(4,.int .i64 i)]∧st=[⟨[[.int .i64 id,.str kind,.str text,.sl (T.rows kids)]],4,true,true,true,.cell⟩,⟨irows ((kids.map T.id).take i),1,true,true,false,.cell⟩]))) kids.length none
  ⟨0,rfl,.inl ⟨rfl,⟨rfl,rfl,rfl,trivial⟩,rfl⟩⟩ ?_
 rintro n fr st ⟨i,hi,hst⟩
 rcases hst with ⟨rfl,hh,rfl⟩ | ⟨hi0,hh,rfl⟩
 · obtain ⟨fr,rfl⟩:=hh.split
   clear hh
   conv=>whnf
   by_cases hlt:0 < kids.length
   · rw [hlr,ltB_t (by omega)]
     conv=>whnf
     have hg:=rows_get kids 0 hlt
     have htk:=kids_take kids 0 hlt
     generalize kids[0]=t at hg htk
     cases t with
     | mk id' kind' text' kids' =>
     refine ⟨by omega,T.rows kids,_,4,rfl,hg,rfl,rfl,?_⟩
     conv=>whnf
     refine ⟨fun m hm=>by rw [List.mem_singleton.1 hm]; rfl,?_⟩
     conv=>whnf
     refine ⟨by show 1*8≤_; omega,.inr ⟨(by intro e; cases e),?_⟩⟩
     conv=>whnf
     refine ⟨n - 1,by omega,some [0,2],?_⟩
     conv=>whnf
     refine ⟨1,by omega,.inr ⟨by omega,⟨rfl,rfl,rfl,trivial⟩,?_⟩⟩
     rw [htk]
     rfl
   · rw [hlr,ltB_f (by omega)]
     conv=>whnf
     have:kids=[]:=List.eq_nil_of_length_eq_zero (by omega)
     subst this
     rfl
 · obtain ⟨fr,rfl⟩:=hh.split
   clear hh
   conv=>whnf
   by_cases hlt:i < kids.length
   · rw [hlr,ltB_t (by omega)]
     conv=>whnf
     have hg:=rows_get kids i hlt
     have htk:=kids_take kids i hlt
     have hln:(irows ((kids.map T.id).take i)).length=i:=by rw [irows_len,List.length_take,List.length_map]; omega
     generalize kids[i]=t at hg htk
     cases t with
     | mk id' kind' text' kids' =>
     refine ⟨by omega,T.rows kids,_,4,rfl,hg,rfl,rfl,?_⟩
     conv=>whnf
     refine ⟨fun m hm=>by rw [List.mem_singleton.1 hm]; rfl,?_⟩
     conv=>whnf
     refine ⟨by
      show ((irows ((kids.map T.id).take i)).length+1)*8≤_
      rw [hln]; omega,?_⟩
     conv=>whnf
     refine ⟨n - 1,by omega,some [0,3],?_⟩
     conv=>whnf
     refine ⟨i+1,by omega,.inr ⟨by omega,⟨rfl,rfl,?_,trivial⟩,?_⟩⟩
     · show V.int .i64 (IntKind.i64.wrap (i+1))=_
       rw [wrap64 (by omega) (by omega)]; simp
     · rw [htk]
       rfl
   · rw [hlr,ltB_f (by omega)]
     conv=>whnf
     rw [List.take_of_length_le (by rw [List.length_map]; omega)]
     rfl
end Go.Cod
namespace Go.Cod
open Go Go.Proofs
variable [Lam]
def aOpsR (P:Program) (ok:OkY) (τ:Tau) (ops:Array Oper) (l:List Oper):(Nat→V)→St→((Nat→V)→St→Prop)→(V→(Nat→V)→St→Prop)→Prop :=
 List.rec (motive:=fun _=>(Nat→V)→St→((Nat→V)→St→Prop)→(V→(Nat→V)→St→Prop)→Prop)
  (fun fr st K _=>K fr st)
  (fun o _ ih fr st K Z=>match o.guard with
    | none=>aOp P ok τ o fr st (fun v st'=>force v fun v=>forceSt st' fun st'=>ih (put fr o.dst v) st' K Z) (fun v st'=>Z v fr st')
    | some (j,want)=>match (ops[j]?).bind (·.dst) with
      | some d=>(match fr d with
        | .bool b=>BC (if want then b else negB b) (aOp P ok τ o fr st (fun v st'=>force v fun v=>forceSt st' fun st'=>ih (put fr o.dst v) st' K Z) (fun v st'=>Z v fr st'))
          (ih (put fr o.dst undefV) st K Z)
        | .raw (.tuple _)=>ih (put fr o.dst undefV) st K Z
        | _=>False)
      | none=>False) l
theorem aOps_with {P:Program} {ok:OkY} {τ:Tau} {ops:Array Oper} {l:List Oper} {fr:Nat→V} {st:St} {K:(Nat→V)→St→Prop} {Z:V→(Nat→V)→St→Prop} (L:List (Nat × V)) (hh:Holds fr L) (h:∀ b,aOpsR P ok τ ops l (setL b L) st K Z):aOps P ok τ ops l fr st K Z:=by
 obtain ⟨b,rfl⟩:=hh.split
 exact h b
end Go.Cod
namespace Go.Cod
open Go Go.Proofs
variable [Lam]
def awpG (A:Program→OkY→Tau→Array Oper→List Oper→(Nat→V)→St→((Nat→V)→St→Prop)→(V→(Nat→V)→St→Prop)→Prop) (P:Program) (ok:OkY) (τ:Tau) (nb:Nat) (c:Code):(Ex→(Nat→V)→St→Prop)→(Nat→V)→St→Prop :=
 Code.rec (motive:=fun _=>Nat→(Ex→(Nat→V)→St→Prop)→(Nat→V)→St→Prop)
  (fun _ Q fr st=>Q .normal fr st)
  (fun _ ops d _ Q fr st=>match d with
    | false=>A P ok τ ops ops.toList fr st (Q .normal) (fun v=>Q (.pan v))
    | true=>(match hasHand τ ops with
      | true=>withMat τ ops fun M CH=>Chk (mix2Ok τ M CH ops) (aEOps2 P τ CH ops ops.toList 0 fr st fun fr=>forcePlan (planOf M CH ops) fun plan=>aXOps P ok τ ops plan (Q .normal) plan [] fr st)
      | false=>(match orderOk ops with
        | true=>aQOps P τ ops ops.toList fr st fun fr=>Q .normal fr st
        | false=>(match mixOk ops with
          | true=>aEOps P τ ops ops.toList 0 fr st fun fr=>aCOps P ok τ ops ops.toList 0 fr st (Q .normal)
          | false=>withMat τ ops fun M CH=>(match mix2Ok τ M CH ops with
            | true=>aEOps2 P τ CH ops ops.toList 0 fr st fun fr=>forcePlan (planOf M CH ops) fun plan=>aXOps P ok τ ops plan (Q .normal) plan [] fr st
            | false=>aAny P ok τ ops (Q .normal) (fun v=>Q (.pan v)) ops.size [] fr st)))))
  (fun _ _ iha ihb nb Q fr st=>iha nb (AThen (ihb nb Q) Q) fr st)
  (fun c _ _ iha ihb nb Q fr st=>ACond (ev fr c) (iha nb Q fr st) (ihb nb Q fr st))
  (fun id _ ih nb Q fr st=>ih nb (ABlock id Q) fr st)
  (fun _ ih nb Q fr st=>∃ (J:Nat→(Nat→V)→St→Prop) (n:Nat) (flag:Bool) (s0:Option (List Nat)),cmp nb s0 fr st (J n) ∧
    ∀ n fr st,J n fr st→ih nb (AThen (ALoop nb flag J n) Q) fr st)
  (fun f ps _ _ ihx ihy _ Q fr st=>(match ev fr f with
    | .fn g cap=>ARange P g cap ps.size (fun Q vs st'=>ihx st.length (AThen (ihy st.length Q) fun _ _ _=>False) (setPs ps.toList vs fr) st') Q fr st
    | _=>False))
  (fun id _ Q fr st=>Q (.exit id) fr st)
  (fun _ _ _ _ _ _=>False)
  (fun _ _ _ _ _=>False)
  (fun _ _ _ _ _=>False)
  (fun _ Q fr st=>Q .ret fr st)
  (fun _ _ _ _ _=>False) c nb
theorem pure_of_box {P:Program} {τ:Tau} (hτ:TauGood P τ) {f:FuncId} {fn:Func} {c:Code} {args:List V} {R:V→Prop}
 (hf : P.funcs[f]? = some fn) (hb : fn.body = some c) (hname : (fn.name == "runtime.NumGoroutine") = false) (hc : codeOk fn.ntmps c = true)
 (h:∀ A,A=aOps→awpG A P noY τ 0 c (AEnd τ fn.results.toList R) (initFr args) []):Pure P f args R:=pure_of_awp hτ hf hb hname hc (h aOps rfl)
variable {A:Program→OkY→Tau→Array Oper→List Oper→(Nat→V)→St→((Nat→V)→St→Prop)→(V→(Nat→V)→St→Prop)→Prop}
variable {P:Program} {ok:OkY} {τ:Tau} {ops:Array Oper} {l:List Oper} {fr:Nat→V} {st:St} {K:(Nat→V)→St→Prop} {Z:V→(Nat→V)→St→Prop}
theorem box_go (hA:A=aOps) (h:aOpsR P ok τ ops l fr st K Z):A P ok τ ops l fr st K Z:=by rw [hA]; exact h
theorem box_with (hA:A=aOps) (L:List (Nat × V)) (hh:Holds fr L) (h:∀ b,aOpsR P ok τ ops l (setL b L) st K Z):A P ok τ ops l fr st K Z:=by
 rw [hA]
 exact aOps_with L hh h
end Go.Cod
namespace Go.Cod
open Go Go.Proofs
set_option linter.all false
variable [Lam]
def drawR (P:Program) (ok:OkY) (τ:Tau) (ops:Array Oper) (fr:Nat→V) (st:St) (K:(Nat→V)→St→Prop) (Z:V→(Nat→V)→St→Prop):Prop:=(match hasHand τ ops with
 | true=>withMat τ ops fun M CH=>Chk (mix2Ok τ M CH ops) (aEOps2 P τ CH ops ops.toList 0 fr st fun fr=>forcePlan (planOf M CH ops) fun plan=>aXOps P ok τ ops plan K plan [] fr st)
 | false=>(match orderOk ops with
   | true=>aQOps P τ ops ops.toList fr st fun fr=>K fr st
   | false=>(match mixOk ops with
     | true=>aEOps P τ ops ops.toList 0 fr st fun fr=>aCOps P ok τ ops ops.toList 0 fr st K
     | false=>withMat τ ops fun M CH=>(match mix2Ok τ M CH ops with
       | true=>aEOps2 P τ CH ops ops.toList 0 fr st fun fr=>forcePlan (planOf M CH ops) fun plan=>aXOps P ok τ ops plan K plan [] fr st
       | false=>aAny P ok τ ops K Z ops.size [] fr st))))
abbrev WalkA:=Program→OkY→Tau→Array Oper→List Oper→(Nat→V)→St→((Nat→V)→St→Prop)→(V→(Nat→V)→St→Prop)→Prop
abbrev WalkX:=Program→OkY→Tau→Array Oper→(Nat→V)→St→((Nat→V)→St→Prop)→(V→(Nat→V)→St→Prop)→Prop
def awpX (A:WalkA) (X:WalkX) (P:Program) (ok:OkY) (τ:Tau) (nb:Nat) (c:Code):(Ex→(Nat→V)→St→Prop)→(Nat→V)→St→Prop :=
 Code.rec (motive:=fun _=>Nat→(Ex→(Nat→V)→St→Prop)→(Nat→V)→St→Prop)
  (fun _ Q fr st=>Q .normal fr st)
  (fun _ ops d _ Q fr st=>match d with
    | false=>A P ok τ ops ops.toList fr st (Q .normal) (fun v=>Q (.pan v))
    | true=>X P ok τ ops fr st (Q .normal) (fun v=>Q (.pan v)))
  (fun _ _ iha ihb nb Q fr st=>iha nb (AThen (ihb nb Q) Q) fr st)
  (fun c _ _ iha ihb nb Q fr st=>ACond (ev fr c) (iha nb Q fr st) (ihb nb Q fr st))
  (fun id _ ih nb Q fr st=>ih nb (ABlock id Q) fr st)
  (fun _ ih nb Q fr st=>∃ (J:Nat→(Nat→V)→St→Prop) (n:Nat) (flag:Bool) (s0:Option (List Nat)),cmp nb s0 fr st (J n) ∧
    ∀ n fr st,J n fr st→ih nb (AThen (ALoop nb flag J n) Q) fr st)
  (fun f ps _ _ ihx ihy _ Q fr st=>(match ev fr f with
    | .fn g cap=>ARange P g cap ps.size (fun Q vs st'=>ihx st.length (AThen (ihy st.length Q) fun _ _ _=>False) (setPs ps.toList vs fr) st') Q fr st
    | _=>False))
  (fun id _ Q fr st=>Q (.exit id) fr st)
  (fun _ _ _ _ _ _=>False)
  (fun _ _ _ _ _=>False)
  (fun _ _ _ _ _=>False)
  (fun _ Q fr st=>Q .ret fr st)
  (fun _ _ _ _ _=>False) c nb
theorem full_of_draw {P:Program} {ok:OkY} {τ:Tau} (hτ:TauGood P τ) {f:FuncId} {fn:Func} {c:Code} {args:List V} {st0:St} {R:Out→St→Prop}
 (hf : P.funcs[f]? = some fn) (hb : fn.body = some c) (hname : (fn.name == "runtime.NumGoroutine") = false) (hc : codeOk fn.ntmps c = true)
 (h:∀ X,X=drawR→awpX aOps X P ok τ st0.length c (AEndF τ fn.results.toList st0.length R) (initFr args) st0):Full P ok f args st0 R:=full_of_awp hτ hf hb hname hc (h drawR rfl)
theorem pure_of_draw {P:Program} {τ:Tau} (hτ:TauGood P τ) {f:FuncId} {fn:Func} {c:Code} {args:List V} {R:V→Prop}
 (hf : P.funcs[f]? = some fn) (hb : fn.body = some c) (hname : (fn.name == "runtime.NumGoroutine") = false) (hc : codeOk fn.ntmps c = true)
 (h:∀ X,X=drawR→awpX aOps X P noY τ 0 c (AEnd τ fn.results.toList R) (initFr args) []):Pure P f args R:=pure_of_awp hτ hf hb hname hc (h drawR rfl)
variable {X:WalkX} {P:Program} {ok:OkY} {τ:Tau} {ops:Array Oper} {fr:Nat→V} {st:St} {K:(Nat→V)→St→Prop} {Z:V→(Nat→V)→St→Prop}
theorem draw_with (hX:X=drawR) (L:List (Nat × V)) (hh:Holds fr L) (h:∀ C:(Nat→V)→St→Prop,(∀ fr st,K fr st→C fr st)→∀ b,drawR P ok τ ops (setL b L) st C Z):X P ok τ ops fr st K Z:=by
 obtain ⟨b,rfl⟩:=hh.split
 rw [hX]
 exact h K (fun _ _ x=>x) b
theorem draw_go (hX:X=drawR) (h:drawR P ok τ ops fr st K Z):X P ok τ ops fr st K Z:=by rw [hX]; exact h
end Go.Cod
namespace Go.Cod
set_option linter.all false
def lcsL:List Int→List Int→Nat
 | [],_=>0
 | _::_,[]=>0
 | a::as1,b::bs1=>if a=b then 1+lcsL as1 bs1 else max (lcsL as1 (b::bs1)) (lcsL (a::as1) bs1)
termination_by x y=>x.length+y.length
theorem lcsL_nil (x:List Int):lcsL x []=0:=by
 cases x <;> simp [lcsL]
theorem nil_lcsL (x:List Int):lcsL [] x=0:=by simp [lcsL]
theorem lcsL_cons (a b:Int) (x y:List Int):lcsL (a::x) (b::y)=if a=b then 1+lcsL x y else max (lcsL x (b::y)) (lcsL (a::x) y):=by rw [lcsL]
theorem lcsL_sym:∀ (n:Nat) (x y:List Int),x.length+y.length≤n→lcsL x y=lcsL y x:=by
 intro n
 induction n with
 | zero =>
   intro x y h
   have h1:x=[]:=List.eq_nil_of_length_eq_zero (by omega)
   have h2:y=[]:=List.eq_nil_of_length_eq_zero (by omega)
   rw [h1,h2]
 | succ n ih =>
   intro x y h
   cases x with
   | nil=>rw [nil_lcsL,lcsL_nil]
   | cons a x =>
     cases y with
     | nil=>rw [nil_lcsL,lcsL_nil]
     | cons b y =>
       simp only [List.length_cons] at h
       rw [lcsL_cons,lcsL_cons,ih x y (by omega),ih x (b::y) (by simp only [List.length_cons]; omega),ih (a::x) y (by simp only [List.length_cons]; omega)]
       by_cases e:a=b
       · rw [if_pos e,if_pos e.symm]
       · rw [if_neg e,if_neg (Ne.symm e),Nat.max_comm]
theorem lcsL_step:∀ (n:Nat) (x y:List Int) (a:Int),x.length+y.length≤n→lcsL x y≤lcsL (a::x) y∧lcsL (a::x) y≤lcsL x y+1:=by
 intro n
 induction n with
 | zero =>
   intro x y a h
   have h2:y=[]:=List.eq_nil_of_length_eq_zero (by omega)
   rw [h2,lcsL_nil,lcsL_nil]; omega
 | succ n ih =>
   intro x y a h
   cases y with
   | nil=>rw [lcsL_nil,lcsL_nil]; omega
   | cons b y =>
     simp only [List.length_cons] at h
     have h1:=ih y x b (by omega)
     rw [lcsL_sym _ y x (Nat.le_refl _),lcsL_sym _ (b::y) x (Nat.le_refl _)] at h1
     have h2:=ih x y a (by omega)
     rw [lcsL_cons]
     by_cases e:a=b
     · rw [if_pos e]; omega
     · rw [if_neg e]; omega
theorem lcsL_l (a:Int) (x y:List Int):lcsL x y≤lcsL (a::x) y∧lcsL (a::x) y≤lcsL x y+1:=lcsL_step _ x y a (Nat.le_refl _)
theorem lcsL_r (b:Int) (x y:List Int):lcsL x y≤lcsL x (b::y)∧lcsL x (b::y)≤lcsL x y+1:=by
 have:=lcsL_l b y x
 rwa [lcsL_sym _ y x (Nat.le_refl _),lcsL_sym _ (b::y) x (Nat.le_refl _)] at this
theorem lcsL_spec (a b:Int) (x y:List Int):lcsL (a::x) (b::y)=max (max (lcsL x (b::y)) (lcsL (a::x) y)) (if a=b then lcsL x y+1 else 0):=by
 rw [lcsL_cons]
 by_cases e:a=b
 · rw [if_pos e,if_pos e]
   have:=lcsL_r b x y
   have:=lcsL_l a x y
   omega
 · rw [if_neg e,if_neg e]; omega
theorem lcsL_le:∀ (x y:List Int),lcsL x y≤x.length
 | [],y=>by rw [nil_lcsL]; omega
 | a::x,y=>by
   have:=lcsL_l a x y
   have:=lcsL_le x y
   simp only [List.length_cons]; omega
def lcs:List Int→List Int→List Int
 | [],_=>[]
 | _::_,[]=>[]
 | a::as1,b::bs1=>if a=b then a::lcs as1 bs1 else if lcsL (a::as1) bs1≤lcsL as1 (b::bs1) then lcs as1 (b::bs1) else lcs (a::as1) bs1
termination_by x y=>x.length+y.length
theorem lcs_nil (x:List Int):lcs x []=[]:=by
 cases x <;> simp [lcs]
theorem nil_lcs (x:List Int):lcs [] x=[]:=by simp [lcs]
theorem lcs_cons (a b:Int) (x y:List Int):lcs (a::x) (b::y)=if a=b then a::lcs x y else if lcsL (a::x) y≤lcsL x (b::y) then lcs x (b::y) else lcs (a::x) y:=by rw [lcs]
theorem lcs_sub:∀ (n:Nat) (x y:List Int),x.length+y.length≤n→(lcs x y).Sublist x∧(lcs x y).Sublist y:=by
 intro n
 induction n with
 | zero =>
   intro x y h
   have h2:y=[]:=List.eq_nil_of_length_eq_zero (by omega)
   rw [h2,lcs_nil]; exact ⟨List.nil_sublist _,List.nil_sublist _⟩
 | succ n ih =>
   intro x y h
   cases x with
   | nil=>rw [nil_lcs]; exact ⟨List.nil_sublist _,List.nil_sublist _⟩
   | cons a x =>
     cases y with
     | nil=>rw [lcs_nil]; exact ⟨List.nil_sublist _,List.nil_sublist _⟩
     | cons b y =>
       simp only [List.length_cons] at h
       rw [lcs_cons]
       by_cases e:a=b
       · rw [if_pos e]
         have:=ih x y (by omega)
         subst e
         exact ⟨this.1.cons_cons a,this.2.cons_cons a⟩
       · rw [if_neg e]
         split
         · have:=ih x (b::y) (by simp only [List.length_cons]; omega)
           exact ⟨this.1.cons a,this.2⟩
         · have:=ih (a::x) y (by simp only [List.length_cons]; omega)
           exact ⟨this.1,this.2.cons b⟩
end Go.Cod
namespace Go.Cod
open Go Go.Proofs
set_option linter.all false
set_option maxRecDepth 10000
def kidW (t:T) (x:Int):T:=(t.kids.find? fun k=>decide (k.id=x)).getD TZ
mutual
def pairsT:T→T→List (T × T)
 | w,.mk id kind text kids=>(w,.mk id kind text kids)::pairsL w (lcs w.kidIds (kids.map T.id)) kids
def pairsL:T→List Int→List T→List (T × T)
 | _,_,[]=>[]
 | w,c,k::ks=>(if k.id∈c then pairsT (kidW w k.id) k else [])++pairsL w c ks
end
def commonT (p:T × T):List Int:=lcs p.1.kidIds p.2.kidIds
theorem pairsT_eq (w i:T):pairsT w i=(w,i)::pairsL w (commonT (w,i)) i.kids:=by
 obtain ⟨id,kind,text,kids⟩:=i
 rw [pairsT]; rfl
theorem pairsL_append (w:T) (c:List Int) (x y:List T):pairsL w c (x++y)=pairsL w c x++pairsL w c y:=by
 induction x with
 | nil=>rfl
 | cons k ks ih=>simp only [List.cons_append,pairsL,ih,List.append_assoc]
def keptOf (P:List (T × T)):List Int:=P.map fun p=>p.2.id
theorem kid_ids {t k:T} (h:k∈t.kids):∀ x∈k.ids,x∈T.idsL t.kids:=by
 generalize t.kids=ks at h
 induction ks with
 | nil=>cases h
 | cons s ks ih =>
   intro x hx
   simp only [T.idsL,List.mem_append]
   rcases List.mem_cons.1 h with rfl | h
   · exact .inl hx
   · exact .inr (ih h x hx)
theorem ids_eq (t:T):t.ids=t.id::T.idsL t.kids:=by
 obtain ⟨id,kind,text,kids⟩:=t
 simp [T.ids,T.id,T.kids]
theorem kidW_mem {t k:T} (hn:(T.idsL t.kids).Nodup) (h:k∈t.kids):kidW t k.id=k:=by
 unfold kidW
 generalize t.kids=ks at hn h
 induction ks with
 | nil=>cases h
 | cons s ks ih =>
   simp only [T.idsL,List.nodup_append] at hn
   rw [List.find?_cons]
   rcases List.mem_cons.1 h with rfl | h
   · simp
   · have hne:s.id≠k.id:=fun e=>by
      have h1:=T.id_mem s
      have h2:k.id∈T.idsL ks:=by
       have:k∈(T.mk 0 [] [] ks).kids:=h
       exact kid_ids this _ (T.id_mem k)
      exact hn.2.2 s.id h1 k.id h2 e
     rw [decide_eq_false hne]
     exact ih hn.2.1 h
theorem kidW_some {t:T} {x:Int} (h:x∈t.kidIds):∃ k,k∈t.kids∧kidW t x=k∧k.id=x:=by
 unfold T.kidIds at h
 obtain ⟨k,hk,rfl⟩:=List.mem_map.1 h
 unfold kidW
 cases hf:t.kids.find? fun s=>decide (s.id=k.id) with
 | none =>
   have:=List.find?_eq_none.1 hf k hk
   simp at this
 | some s =>
   exact ⟨s,List.mem_of_find?_eq_some hf,rfl,by simpa using List.find?_some hf⟩
theorem common_l {p:T × T} {x:Int} (h:x∈commonT p):x∈p.1.kidIds:=(lcs_sub _ _ _ (Nat.le_refl _)).1.subset h
theorem common_r {p:T × T} {x:Int} (h:x∈commonT p):x∈p.2.kidIds:=(lcs_sub _ _ _ (Nat.le_refl _)).2.subset h
mutual
theorem kept_in:∀ (w i:T),w.id=i.id→(∀ x∈keptOf (pairsT w i),x∈i.ids)∧∀ x∈keptOf (pairsT w i),x∈w.ids
 | w,.mk id kind text kids,hw=>by
   have h:=kept_inL w (lcs w.kidIds (kids.map T.id)) kids (fun x hx=>(lcs_sub _ _ _ (Nat.le_refl _)).1.subset hx)
   simp only [pairsT,keptOf,List.map_cons,List.mem_cons]
   refine ⟨fun x hx=>?_,fun x hx=>?_⟩
   · rcases hx with rfl | hx
     · exact T.id_mem _
     · simp only [T.ids,List.mem_cons]; exact .inr (h.1 x hx)
   · rcases hx with rfl | hx
     · have:=T.id_mem w
       rw [hw] at this; exact this
     · rw [ids_eq w]; exact List.mem_cons_of_mem _ (h.2 x hx)
theorem kept_inL:∀ (w:T) (c:List Int) (ks:List T),(∀ x∈c,x∈w.kidIds)→(∀ x∈keptOf (pairsL w c ks),x∈T.idsL ks)∧∀ x∈keptOf (pairsL w c ks),x∈T.idsL w.kids
 | _,_,[],_=>by simp [pairsL,keptOf]
 | w,c,k::ks,hc=>by
   have h2:=kept_inL w c ks hc
   simp only [pairsL,keptOf,List.map_append,List.mem_append,T.idsL]
   by_cases hk:k.id∈c
   · obtain ⟨s,s1,s2,s3⟩:=kidW_some (hc _ hk)
     have h1:=kept_in s k s3
     rw [if_pos hk,s2]
     refine ⟨fun x hx=>?_,fun x hx=>?_⟩
     · rcases hx with hx | hx
       · exact .inl (h1.1 x hx)
       · exact .inr (h2.1 x hx)
     · rcases hx with hx | hx
       · exact kid_ids s1 _ (h1.2 x hx)
       · exact h2.2 x hx
   · rw [if_neg hk]
     refine ⟨fun x hx=>?_,fun x hx=>?_⟩
     · rcases hx with hx | hx
       · cases hx
       · exact .inr (h2.1 x hx)
     · rcases hx with hx | hx
       · cases hx
       · exact h2.2 x hx
end
theorem T.ind {P:T→Prop} (h:∀ id k x ks,(∀ t∈ks,P t)→P (.mk id k x ks)) (t:T):P t :=
 T.rec (motive_1:=P) (motive_2:=fun ts=>∀ t∈ts,P t) (fun id k x ks ih=>h id k x ks ih) (fun t h=>by cases h)
  (fun s ts hs hts t ht=>by
    rcases List.mem_cons.1 ht with rfl | ht
    · exact hs
    · exact hts t ht) t
theorem pairsL_mem {w:T} {c:List Int} {ks:List T} {p:T × T} (h:p∈pairsL w c ks):∃ k,k∈ks∧k.id∈c∧p∈pairsT (kidW w k.id) k:=by
 induction ks with
 | nil=>simp [pairsL] at h
 | cons k ks ih =>
   simp only [pairsL,List.mem_append] at h
   rcases h with h | h
   · by_cases hk:k.id∈c
     · rw [if_pos hk] at h; exact ⟨k,by simp,hk,h⟩
     · rw [if_neg hk] at h; cases h
   · obtain ⟨s,h1,h2,h3⟩:=ih h
     exact ⟨s,List.mem_cons_of_mem _ h1,h2,h3⟩
theorem keptL_mem {w:T} {c:List Int} {ks:List T} {x:Int}:x∈keptOf (pairsL w c ks)↔∃ k,k∈ks∧k.id∈c∧x∈keptOf (pairsT (kidW w k.id) k):=by
 induction ks with
 | nil=>simp [pairsL,keptOf]
 | cons k ks ih =>
   simp only [pairsL,keptOf,List.map_append,List.mem_append]
   constructor
   · rintro (h | h)
     · by_cases hk:k.id∈c
       · rw [if_pos hk] at h; exact ⟨k,by simp,hk,h⟩
       · rw [if_neg hk] at h; cases h
     · obtain ⟨s,h1,h2,h3⟩:=ih.1 h
       exact ⟨s,List.mem_cons_of_mem _ h1,h2,h3⟩
   · rintro ⟨s,h1,h2,h3⟩
     rcases List.mem_cons.1 h1 with rfl | h1
     · rw [if_pos h2]; exact .inl h3
     · exact .inr (ih.2 ⟨s,h1,h2,h3⟩)
theorem kid_apart {ks:List T} (hn:(T.idsL ks).Nodup) {k s:T} (hk:k∈ks) (hs:s∈ks) {x:Int} (h1:x∈k.ids) (h2:x∈s.ids):k=s:=by
 induction ks with
 | nil=>cases hk
 | cons a ks ih =>
   simp only [T.idsL,List.nodup_append] at hn
   have hin:∀ t,t∈ks→∀ y∈t.ids,y∈T.idsL ks:=fun t ht=>by
    have:t∈(T.mk 0 [] [] ks).kids:=ht
    exact kid_ids this
   rcases List.mem_cons.1 hk with e | hk2
   · rcases List.mem_cons.1 hs with f | hs2
     · rw [e,f]
     · exact absurd rfl (hn.2.2 x (e ▸ h1) x (hin s hs2 x h2))
   · rcases List.mem_cons.1 hs with f | hs2
     · exact absurd rfl (hn.2.2 x (f ▸ h2) x (hin k hk2 x h1))
     · exact ih hn.2.1 hk2 hs2
theorem kids_nodup {t:T} (h:t.ids.Nodup):(T.idsL t.kids).Nodup∧t.id∉T.idsL t.kids:=by
 rw [ids_eq,List.nodup_cons] at h
 exact ⟨h.2,h.1⟩
theorem kid_nodup {ks:List T} (hn:(T.idsL ks).Nodup) {k:T} (hk:k∈ks):k.ids.Nodup:=by
 induction ks with
 | nil=>cases hk
 | cons a ks ih =>
   simp only [T.idsL,List.nodup_append] at hn
   rcases List.mem_cons.1 hk with rfl | hk
   · exact hn.1
   · exact ih hn.2.1 hk
theorem kept_kid {w i k:T} (hi:i.ids.Nodup) (hw:w.id=i.id) (hk:k∈i.kids) {x:Int} (hx:x∈k.ids):x∈keptOf (pairsT w i)↔k.id∈commonT (w,i)∧x∈keptOf (pairsT (kidW w k.id) k):=by
 obtain ⟨n1,n2⟩:=kids_nodup hi
 have hxi:x∈T.idsL i.kids:=kid_ids hk x hx
 have hne:x≠i.id:=fun e=>n2 (e ▸ hxi)
 rw [pairsT_eq]
 simp only [keptOf,List.map_cons,List.mem_cons]
 rw [show List.map (fun p:T × T=>p.2.id) (pairsL w (commonT (w,i)) i.kids)=keptOf (pairsL w (commonT (w,i)) i.kids) from rfl,keptL_mem]
 constructor
 · rintro (h | ⟨s,s1,s2,s3⟩)
   · exact absurd h hne
   · obtain ⟨z,z1,z2,z3⟩:=kidW_some (common_l s2)
     have hxs:x∈s.ids:=by
      rw [z2] at s3
      exact (kept_in z s z3).1 x s3
     have e:=kid_apart n1 hk s1 hx hxs
     subst e; exact ⟨s2,s3⟩
 · exact fun ⟨h1,h2⟩=>.inr ⟨k,hk,h1,h2⟩
theorem kept_was {w i s:T} (hwn:w.ids.Nodup) (hi:i.ids.Nodup) (hw:w.id=i.id) (hs:s∈w.kids) {x:Int} (hx:x∈s.ids):x∈keptOf (pairsT w i)↔s.id∈commonT (w,i)∧x∈keptOf (pairsT s (kidW i s.id)):=by
 obtain ⟨n1,n2⟩:=kids_nodup hwn
 obtain ⟨m1,m2⟩:=kids_nodup hi
 have hxi:x∈T.idsL w.kids:=kid_ids hs x hx
 have hne:x≠i.id:=fun e=>n2 (by rw [hw,← e]; exact hxi)
 rw [pairsT_eq]
 simp only [keptOf,List.map_cons,List.mem_cons]
 rw [show List.map (fun p:T × T=>p.2.id) (pairsL w (commonT (w,i)) i.kids)=keptOf (pairsL w (commonT (w,i)) i.kids) from rfl,keptL_mem]
 constructor
 · rintro (h | ⟨k,s1,s2,s3⟩)
   · exact absurd h hne
   · obtain ⟨z,z1,z2,z3⟩:=kidW_some (common_l s2)
     rw [z2] at s3
     have hxz:=(kept_in z k z3).2 x s3
     have e:=kid_apart n1 hs z1 hx hxz
     subst e
     have hk:kidW i s.id=k:=by rw [z3]; exact kidW_mem m1 s1
     rw [hk,z3]; exact ⟨s2,s3⟩
 · rintro ⟨h1,h2⟩
   obtain ⟨k,k1,k2,k3⟩:=kidW_some (common_r h1)
   refine .inr ⟨k,k1,by rw [k3]; exact h1,?_⟩
   rw [k3,kidW_mem n1 hs]
   have k2:kidW i s.id=k:=k2
   rw [← k2]; exact h2
theorem kept_nest:∀ (i w w' i':T),i.ids.Nodup→w.ids.Nodup→w.id=i.id→(w',i')∈pairsT w i→w'.id=i'.id∧i'.ids.Nodup∧w'.ids.Nodup ∧
 (∀ x∈i'.ids,x∈i.ids∧(x∈keptOf (pairsT w i)↔x∈keptOf (pairsT w' i')))∧(∀ x∈w'.ids,x∈w.ids∧(x∈keptOf (pairsT w i)↔x∈keptOf (pairsT w' i'))):=by
 intro i
 induction i using T.ind with
 | h id kd tx ks ih =>
   intro w w' i' hi hwn hw hp
   rw [pairsT_eq] at hp
   rcases List.mem_cons.1 hp with hp | hp
   · cases hp
     exact ⟨hw,hi,hwn,fun x hx=>⟨hx,Iff.rfl⟩,fun x hx=>⟨hx,Iff.rfl⟩⟩
   · obtain ⟨k,k1,k2,k3⟩:=pairsL_mem hp
     obtain ⟨s,s1,s2,s3⟩:=kidW_some (common_l k2)
     rw [s2] at k3
     obtain ⟨m1,m2⟩:=kids_nodup hi
     obtain ⟨n1,n2⟩:=kids_nodup hwn
     obtain ⟨q1,q2,q3,q4,q5⟩:=ih k k1 s w' i' (kid_nodup m1 k1) (kid_nodup n1 s1) s3 k3
     refine ⟨q1,q2,q3,fun x hx=>?_,fun x hx=>?_⟩
     · obtain ⟨r1,r2⟩:=q4 x hx
       refine ⟨by rw [ids_eq]; exact List.mem_cons_of_mem _ (kid_ids k1 x r1),?_⟩
       rw [kept_kid hi hw k1 r1,s2,← r2]
       exact ⟨fun h=>h.2,fun h=>⟨k2,h⟩⟩
     · obtain ⟨r1,r2⟩:=q5 x hx
       refine ⟨by rw [ids_eq]; exact List.mem_cons_of_mem _ (kid_ids s1 x r1),?_⟩
       have hk:kidW (T.mk id kd tx ks) s.id=k:=by rw [s3]; exact kidW_mem m1 k1
       rw [kept_was hwn hi hw s1 r1,hk,s3,← r2]
       exact ⟨fun h=>h.2,fun h=>⟨k2,h⟩⟩
theorem kept_root (w i:T):i.id∈keptOf (pairsT w i):=by
 rw [pairsT_eq]; simp [keptOf]
theorem kept_local {a b w i:T} (ha:a.ids.Nodup) (hb:b.ids.Nodup) (hab:a.id=b.id) (hp:(w,i)∈pairsT a b) :
 (∀ k∈i.kids,(k.id∈keptOf (pairsT a b)↔k.id∈commonT (w,i)))∧(∀ s∈w.kids,(s.id∈keptOf (pairsT a b)↔s.id∈commonT (w,i))):=by
 obtain ⟨q1,q2,q3,q4,q5⟩:=kept_nest b a w i hb ha hab hp
 refine ⟨fun k hk=>?_,fun s hs=>?_⟩
 · have hx:k.id∈i.ids:=by rw [ids_eq]; exact List.mem_cons_of_mem _ (kid_ids hk _ (T.id_mem k))
   rw [(q4 _ hx).2,kept_kid q2 q1 hk (T.id_mem k)]
   exact ⟨fun h=>h.1,fun h=>⟨h,kept_root _ _⟩⟩
 · have hx:s.id∈w.ids:=by rw [ids_eq]; exact List.mem_cons_of_mem _ (kid_ids hs _ (T.id_mem s))
   rw [(q5 _ hx).2,kept_was q3 q2 q1 hs (T.id_mem s)]
   refine ⟨fun h=>h.1,fun h=>⟨h,?_⟩⟩
   obtain ⟨k,_,k2,k3⟩:=kidW_some (common_r h)
   have k2:kidW i s.id=k:=k2
   have:=kept_root s (kidW i s.id)
   rw [k2,k3] at this
   rw [k2]; exact this
def cutStp (x:Int):Stp:=⟨2,x,0,TZ,[]⟩
def cutsOf (kept:Int→Bool) (p:T × T):List Stp:=(p.1.kids.filter fun k=>!kept k.id).map fun k=>cutStp k.id
def wordsOf (p:T × T):List Stp:=(if p.1.kind≠p.2.kind then [⟨4,p.2.id,0,TZ,p.2.kind⟩] else [])++(if p.1.text≠p.2.text then [⟨3,p.2.id,0,TZ,p.2.text⟩] else [])
mutual
def putsT (kept:Int→Bool):T→List Stp
 | .mk id _ _ kids=>putsL kept id 0 kids
def putsL (kept:Int→Bool) (x:Int):Nat→List T→List Stp
 | _,[]=>[]
 | n,k::ks=>(if kept k.id then putsT kept k else [⟨1,x,n,k,[]⟩])++putsL kept x (n+1) ks
end
mutual
def sputT:T→T→List Stp
 | w,.mk id _ _ kids=>sputL w id (lcs w.kidIds (kids.map T.id)) 0 kids
def sputL:T→Int→List Int→Nat→List T→List Stp
 | _,_,_,_,[]=>[]
 | w,x,c,n,k::ks=>(if k.id∈c then sputT (kidW w k.id) k else [⟨1,x,n,k,[]⟩])++sputL w x c (n+1) ks
end
def keptB (P:List (T × T)) (x:Int):Bool:=decide (x∈keptOf P)
def diffT (a b:T):List Stp:=(pairsT a b).flatMap (cutsOf (keptB (pairsT a b)))++((pairsT a b).flatMap wordsOf++putsT (keptB (pairsT a b)) b)
def locB (p:T × T) (x:Int):Bool:=decide (x∈commonT p)
theorem pairsL_of {w k:T} {c:List Int} {ks:List T} {p:T × T} (h1:k∈ks) (h2:k.id∈c) (h3:p∈pairsT (kidW w k.id) k):p∈pairsL w c ks:=by
 induction ks with
 | nil=>cases h1
 | cons s ks ih =>
   simp only [pairsL,List.mem_append]
   rcases List.mem_cons.1 h1 with rfl | h1
   · rw [if_pos h2]; exact .inl h3
   · exact .inr (ih h1)
theorem pairs_trans:∀ (b a w i w' i':T),(w,i)∈pairsT a b→(w',i')∈pairsT w i→(w',i')∈pairsT a b:=by
 intro b
 induction b using T.ind with
 | h id kd tx ks ih =>
   intro a w i w' i' h1 h2
   rw [pairsT_eq] at h1
   rcases List.mem_cons.1 h1 with h1 | h1
   · cases h1; exact h2
   · obtain ⟨k,k1,k2,k3⟩:=pairsL_mem h1
     rw [pairsT_eq]
     exact List.mem_cons_of_mem _ (pairsL_of k1 k2 (ih k k1 _ w i w' i' k3 h2))
theorem pairs_self (w i:T):(w,i)∈pairsT w i:=by
 rw [pairsT_eq]; exact List.mem_cons_self
theorem pairs_ids {a b w i:T} (ha:a.ids.Nodup) (hb:b.ids.Nodup) (hab:a.id=b.id) (hp:(w,i)∈pairsT a b):w.id=i.id∧i.ids.Nodup∧w.ids.Nodup:=by
 obtain ⟨q1,q2,q3,_⟩:=kept_nest b a w i hb ha hab hp
 exact ⟨q1,q2,q3⟩
theorem cuts_loc {a b w i:T} (ha:a.ids.Nodup) (hb:b.ids.Nodup) (hab:a.id=b.id) (hp:(w,i)∈pairsT a b):cutsOf (keptB (pairsT a b)) (w,i)=cutsOf (locB (w,i)) (w,i):=by
 have hl:=(kept_local ha hb hab hp).2
 unfold cutsOf
 congr 1
 refine List.filter_congr fun k hk=>?_
 have:=hl k hk
 simp only [keptB,locB]
 by_cases h:k.id∈commonT (w,i)
 · rw [decide_eq_true (this.2 h),decide_eq_true h]
 · rw [decide_eq_false (fun z=>h (this.1 z)),decide_eq_false h]
theorem putsT_eq (kept:Int→Bool) (i:T):putsT kept i=putsL kept i.id 0 i.kids:=by
 obtain ⟨id,kind,text,kids⟩:=i
 rw [putsT]; rfl
theorem sputT_eq (w i:T):sputT w i=sputL w i.id (commonT (w,i)) 0 i.kids:=by
 obtain ⟨id,kind,text,kids⟩:=i
 rw [sputT]; rfl
theorem sput_eq {a b:T} (ha:a.ids.Nodup) (hb:b.ids.Nodup) (hab:a.id=b.id):∀ i w:T,(w,i)∈pairsT a b→sputT w i=putsT (keptB (pairsT a b)) i:=by
 intro i
 induction i using T.ind with
 | h id kd tx ks ih =>
   intro w hp
   have hl:=(kept_local ha hb hab hp).1
   rw [sputT_eq,putsT_eq]
   have key:∀ (ls:List T) (n:Nat),(∀ k∈ls,k∈ks)→sputL w (T.mk id kd tx ks).id (commonT (w,.mk id kd tx ks)) n ls=putsL (keptB (pairsT a b)) (T.mk id kd tx ks).id n ls:=by
    intro ls
    induction ls with
    | nil=>intro n _; simp [sputL,putsL]
    | cons k ls ihl =>
      intro n hk
      have hks:=hk k List.mem_cons_self
      have hk1:=hl k hks
      rw [sputL,putsL,ihl (n+1) fun k h=>hk k (List.mem_cons_of_mem _ h)]
      congr 1
      by_cases h:k.id∈commonT (w,.mk id kd tx ks)
      · have hb1:keptB (pairsT a b) k.id=true:=decide_eq_true (hk1.2 h)
        rw [if_pos h,hb1,if_pos rfl]
        refine ih k hks _ (pairs_trans b a w _ _ _ hp ?_)
        rw [pairsT_eq]
        exact List.mem_cons_of_mem _ (pairsL_of hks h (pairs_self _ _))
      · have hb1:keptB (pairsT a b) k.id=false:=decide_eq_false fun z=>h (hk1.1 z)
        rw [if_neg h,hb1,if_neg (by simp)]
   exact key ks 0 fun _ h=>h
def specT (a b:T):List Stp:=(pairsT a b).flatMap (fun p=>cutsOf (locB p) p)++((pairsT a b).flatMap wordsOf++sputT a b)
theorem spec_diff {a b:T} (ha:a.ids.Nodup) (hb:b.ids.Nodup) (hab:a.id=b.id):specT a b=diffT a b:=by
 unfold specT diffT
 rw [sput_eq ha hb hab b a (pairs_self a b)]
 congr 1
 have key:∀ P:List (T × T),(∀ p∈P,p∈pairsT a b)→P.flatMap (fun p=>cutsOf (locB p) p)=P.flatMap (cutsOf (keptB (pairsT a b))):=by
  intro P
  induction P with
  | nil=>intro _; rfl
  | cons p P ih =>
    intro h
    obtain ⟨w,i⟩:=p
    rw [List.flatMap_cons,List.flatMap_cons,ih fun p hp=>h p (List.mem_cons_of_mem _ hp),cuts_loc ha hb hab (h _ List.mem_cons_self)]
 exact key _ fun _ h=>h
end Go.Cod
namespace Go.Cod
open Go Go.Proofs
set_option linter.all false
set_option maxRecDepth 10000
theorem wrapJ1 (n:Nat) (h:n+1≤10000000):IntKind.i64.wrap ((n:Int)+1)=((n+1:Nat):Int):=by rw [wrap64 (by omega) (by omega)]; simp
theorem wrap1J (n:Nat) (h:n+1≤10000000):IntKind.i64.wrap (1+(n:Int))=((1+n:Nat):Int):=by rw [wrap64 (by omega) (by omega)]; simp
def kmO (rows:List (List V)):O:=⟨rows,11,false,true,false,.map⟩
def LMem (a b:List Int) (rows:List (List V)):Prop:=PairRows rows∧∀ (i j:Int) (v:V),findRow (pairV i j) rows=some v→∃ x y:Nat,i=x∧j=y∧v=.int .i64 (lcsL (a.drop x) (b.drop y):Nat)
theorem LMem.nil (a b:List Int):LMem a b []:=⟨fun e he=>(by cases he),fun i j v h=>by simp [findRow] at h⟩
theorem LMem.put {a b:List Int} {rows:List (List V)} (h:LMem a b rows) (x y:Nat):LMem a b (putRow (pairV x y) (.int .i64 (lcsL (a.drop x) (b.drop y):Nat)) rows):=by
 refine ⟨(putRow_pair h.1).1,fun i j v hv=>?_⟩
 rw [(putRow_pair h.1).2] at hv
 by_cases e:(x:Int)=i∧(y:Int)=j
 · rw [if_pos e] at hv
   cases hv
   exact ⟨x,y,e.1.symm,e.2.symm,rfl⟩
 · rw [if_neg e] at hv
   exact h.2 i j v hv
set_option maxHeartbeats 8000000 in
theorem longest_run (a b:List Int) (la:a.length≤1048576) (lb:b.length≤1048576):∀ (n i j:Nat),(a.length - i)+(b.length - j)≤n→i≤a.length→j≤b.length→∀ rows,LMem a b rows →
 Full Try.prog noY 88 [.agg [.sl (irows a),.sl (irows b),.map 0],.int .i64 i,.int .i64 j] [kmO rows] fun o st'=>∃ rows',LMem a b rows'∧o=.ret (.int .i64 (lcsL (a.drop i) (b.drop j):Nat))∧st'=[kmO rows']:=by
 intro n
 induction n using Nat.strongRecOn with
 | _ n ih =>
 intro i j hn hi hj rows hM
 refine full_of_draw good Try.func88 rfl (by kernel_rfl) (by decide) fun X hX=>?_
 conv=>whnf
 have hend:lcsL (a.drop a.length) (b.drop j)=0:=by rw [List.drop_length,nil_lcsL]
 have hend2:lcsL (a.drop i) (b.drop b.length)=0:=by rw [List.drop_length,lcsL_nil]
 by_cases hie:i=a.length
 · rw [irows_len,eqB_t (by omega)]
   subst hie
   conv=>whnf
   refine ⟨[],true,?_⟩
   conv=>whnf
   exact ⟨rows,hM,by rw [hend]; rfl,rfl⟩
 rw [irows_len,eqB_f (by omega)]
 conv=>whnf
 by_cases hje:j=b.length
 · rw [irows_len,eqB_t (by omega)]
   subst hje
   conv=>whnf
   refine ⟨[],true,?_⟩
   conv=>whnf
   exact ⟨rows,hM,by rw [hend2]; rfl,rfl⟩
 rw [irows_len,eqB_f (by omega)]
 conv=>whnf
 have ha:=List.drop_eq_getElem_cons (l:=a) (i:=i) (by omega)
 have hb:=List.drop_eq_getElem_cons (l:=b) (i:=j) (by omega)
 have hs:=lcsL_cons a[i] b[j] (a.drop (i+1)) (b.drop (j+1))
 rw [← ha,← hb] at hs
 have hga:=irows_get a i (by omega)
 have hgb:=irows_get b j (by omega)
 have c1:=ih (n - 1) (by omega) (i+1) (j+1) (by omega) (by omega) (by omega)
 have c2:=ih (n - 1) (by omega) (i+1) j (by omega) (by omega) (by omega)
 have c3:=ih (n - 1) (by omega) i (j+1) (by omega) (by omega) (by omega)
 generalize hp:a[i]=p at *
 generalize hq:b[j]=q at *
 cases hf:findRow (pairV i j) rows with
 | some v =>
   obtain ⟨x,y,e1,e2,rfl⟩:=hM.2 _ _ _ hf
   obtain rfl:i=x:=by omega
   obtain rfl:j=y:=by omega
   refine AtKey_intro _ hf ?_
   conv=>whnf
   refine ⟨[],true,?_⟩
   conv=>whnf
   exact ⟨rows,hM,rfl,rfl⟩
 | none =>
   have hput:=fun rows' (h:LMem a b rows')=>h.put i j
   refine AtKey_intro _ hf ?_
   conv=>whnf
   refine draw_go hX ?_
   conv=>whnf
   repeat' (first
    | (refine ⟨by omega,irows a,_,1,rfl,hga,rfl,rfl,?_⟩
       conv=>whnf)
    | (refine ⟨by omega,irows b,_,1,rfl,hgb,rfl,rfl,?_⟩
       conv=>whnf)
    | (refine And.intro ?_ ?_))
   by_cases hpq:p=q
   · rw [eqB_t hpq]
     rw [if_pos hpq] at hs
     conv=>whnf
     rw [wrapJ1 i (by omega),wrapJ1 j (by omega)]
     refine ⟨[0],false,?_⟩
     conv=>whnf
     refine (c1 rows hM).mono ?_
     rintro o st' ⟨rows',hM',rfl,rfl⟩
     have hw:=wrap1J (lcsL (a.drop (i+1)) (b.drop (j+1))) (by have:=lcsL_le (a.drop (i+1)) (b.drop (j+1)); rw [List.length_drop] at this; omega)
     rw [← hs] at hw
     conv=>whnf
     refine ⟨[],true,?_⟩
     conv=>whnf
     refine ⟨_,hput rows' hM',?_,?_⟩
     · show Out.ret (.int .i64 _)=_
       rw [hw]
     · show [_]=[_]
       rw [← hw]; rfl
   · rw [eqB_f hpq]
     rw [if_neg hpq] at hs
     conv=>whnf
     refine draw_go hX ?_
     conv=>whnf
     rw [wrapJ1 i (by omega)]
     refine ⟨[0],false,?_⟩
     conv=>whnf
     refine (c2 rows hM).mono ?_
     rintro o st' ⟨rows1,hM1,rfl,rfl⟩
     conv=>whnf
     rw [← wrapJ1 j (by omega)] at c3
     repeat' (first
      | (refine And.intro (by (conv=>whnf); rfl) ?_
         conv=>whnf)
      | (refine ⟨[0],false,?_⟩
         conv=>whnf
         refine (c3 rows1 hM1).mono ?_
         rintro o st' ⟨rows2,hM2,rfl,rfl⟩
         conv=>whnf))
     have hmx:(if ((lcsL (a.drop i) (b.drop (j+1)):Nat):Int) > (lcsL (a.drop (i+1)) (b.drop j):Nat) then ((lcsL (a.drop i) (b.drop (j+1)):Nat):Int) else (lcsL (a.drop (i+1)) (b.drop j):Nat))=((lcsL (a.drop i) (b.drop j):Nat):Int):=by
      rw [hs]; split <;> omega
     refine semMax rfl rfl ?_
     conv=>whnf
     refine ⟨[],true,?_⟩
     conv=>whnf
     refine ⟨_,hput rows2 hM2,?_,?_⟩
     · show Out.ret (.int .i64 _)=_
       rw [← hmx]
       try rfl
     · show [_]=[_]
       rw [← hmx]
       try rfl
theorem longest_ok (a b:List Int) (la:a.length≤1048576) (lb:b.length≤1048576) (i j:Nat) (hi:i≤a.length) (hj:j≤b.length) (rows:List (List V)) (h:LMem a b rows) :
 Full Try.prog noY 88 [.agg [.sl (irows a),.sl (irows b),.map 0],.int .i64 i,.int .i64 j] [kmO rows] fun o st'=>∃ rows',LMem a b rows'∧o=.ret (.int .i64 (lcsL (a.drop i) (b.drop j):Nat))∧st'=[kmO rows']:=longest_run a b la lb _ i j (Nat.le_refl _) hi hj rows h
end Go.Cod
