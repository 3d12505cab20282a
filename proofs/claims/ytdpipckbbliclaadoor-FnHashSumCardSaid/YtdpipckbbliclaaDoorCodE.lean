import Derived.Test.YtdpipckbbliclaaDoorChecked
import Derived.OpenShut
import Derived.JoinedOf
import Derived.Handed
import Derived.ProofKit
import Derived.WalkKit
import Derived.Shelf.Strings.BuilderK
import Derived.BigCall
import Derived.Lib.Hide
import Derived.Test.YtdpipckbbliclaaDoorCards
import Derived.Test.YtdpipckbbliclaaDoorTie
import Derived.LaidMore
import Derived.LaidOnce
import Derived.SevenTiedAt
import Derived.Test.YtdpipckbbliclaaDoorCodD
set_option linter.all false
namespace Go.Cod
open Go Go.Proofs
instance lam0:Lam:=⟨fun g=>match g with
 | 0=>some (tabCells .u32 [1779033703,3144134277,1013904242,2773480762,1359893119,2600822924,528734635,1541459225])
 | 1=>some (tabCells .u32 [1116352408,1899447441,3049323471,3921009573,961987163,1508970993,2453635748,2870763221,3624381080,310598401,607225278,1426881987,1925078388,2162078206,2614888103,3248222580,3835390401,4022224774,264347078,604807628,770255983,1249150122,1555081692,1996064986,2554220882,2821834349,2952996808,3210313671,3336571891,3584528711,113926993,338241895,666307205,773529912,1294757372,1396182291,1695183700,1986661051,2177026350,2456956037,2730485921,2820302411,3259730800,3345764771,3516065817,3600352804,4094571909,275423344,430227734,506948616,659060556,883997877,958139571,1322822218,1537002063,1747873779,1955562222,2024104815,2227730452,2361852424,2428436474,2756734187,3204031479,3329325298])
 | _=>none,fun g=>false,fun g=>Nat.beq g 12||Nat.beq g 10||Nat.beq g 11,fun g=>false,fun g=>false⟩
def tauL:List (Nat × TI):=[
 (1,⟨.other,1,8,.raw .nilFunc,[],[],false,none⟩),
 (2,⟨.int .i64,1,8,.int .i64 0,[],[],false,none⟩),
 (3,⟨.int .i64,1,8,.int .i64 0,[],[],false,none⟩),
 (4,⟨.bool,1,1,.bool false,[],[],false,none⟩),
 (5,⟨.int .u8,1,1,.int .u8 0,[],[],false,none⟩),
 (6,⟨.int .u8,1,1,.int .u8 0,[],[],false,none⟩),
 (7,⟨.agg,4,24,.agg [.int .i64 0,.int .i64 0,.bool false,.int .u8 0],[(0,1,false),(1,1,false),(2,1,false),(3,1,false)],[],false,none⟩),
 (8,⟨.agg,4,24,.agg [.int .i64 0,.int .i64 0,.bool false,.int .u8 0],[(0,1,false),(1,1,false),(2,1,false),(3,1,false)],[],false,none⟩),
 (9,⟨.str,1,16,.str [],[],[],false,none⟩),
 (10,⟨.str,1,16,.str [],[],[],false,none⟩),
 (11,⟨.str,1,16,.str [],[],[],false,none⟩),
 (12,⟨.int .u64,1,8,.int .u64 0,[],[],false,none⟩),
 (13,⟨.agg,2,24,.agg [.str [],.int .u64 0],[(0,1,false),(1,1,false)],[],false,none⟩),
 (14,⟨.agg,2,24,.agg [.str [],.int .u64 0],[(0,1,false),(1,1,false)],[],false,none⟩),
 (15,⟨.ptr,1,8,.raw (.pointer none),[],[],false,none⟩),
 (16,⟨.ptr,1,8,.raw (.pointer none),[],[],false,none⟩),
 (17,⟨.ptr,1,8,.raw (.pointer none),[],[],false,none⟩),
 (18,⟨.agg,1,8,.agg [.raw (.pointer none)],[(0,1,false)],[],false,none⟩),
 (19,⟨.agg,1,8,.agg [.raw (.pointer none)],[(0,1,false)],[],false,none⟩),
 (20,⟨.iface,1,16,.raw .nilIface,[],[],false,none⟩),
 (21,⟨.int .i32,1,4,.int .i32 0,[],[],false,none⟩),
 (22,⟨.slice 5,1,24,.nils,[],[],false,none⟩),
 (23,⟨.other,1,8,.raw .nilFunc,[],[],false,none⟩),
 (24,⟨.other,1,8,.raw .nilFunc,[],[],false,none⟩),
 (25,⟨.other,1,8,.raw .nilFunc,[],[],false,none⟩),
 (26,⟨.other,1,8,.raw .nilFunc,[],[],false,none⟩),
 (27, ⟨.ptr, 1, 8, .raw (.pointer none), [], [("loop.example/codicil/spec.of", 10), ("loop.example/codicil/spec.pick", 11)], false, none⟩),
 (28,⟨.other,1,8,.raw .nilFunc,[],[],false,none⟩),
 (29,⟨.other,1,8,.raw .nilFunc,[],[],false,none⟩),
 (30,⟨.other,1,8,.raw .nilFunc,[],[],false,none⟩),
 (31,⟨.slice 9,1,24,.nils,[],[],false,none⟩),
 (32,⟨.other,1,8,.raw .nilFunc,[],[],false,none⟩),
 (33,⟨.slice 3,1,24,.nils,[],[],false,none⟩),
 (34,⟨.int .u32,1,4,.int .u32 0,[],[],false,none⟩),
 (35,⟨.agg,8,32,.agg [.int .u32 0,.int .u32 0,.int .u32 0,.int .u32 0,.int .u32 0,.int .u32 0,.int .u32 0,.int .u32 0],[],[],false,some 8⟩),
 (36,⟨.agg,64,256,.agg [.int .u32 0,.int .u32 0,.int .u32 0,.int .u32 0,.int .u32 0,.int .u32 0,.int .u32 0,.int .u32 0,.int .u32 0,.int .u32 0,.int .u32 0,.int .u32 0,.int .u32 0,.int .u32 0,.int .u32 0,.int .u32 0,.int .u32 0,.int .u32 0,.int .u32 0,.int .u32 0,.int .u32 0,.int .u32 0,.int .u32 0,.int .u32 0,.int .u32 0,.int .u32 0,.int .u32 0,.int .u32 0,.int .u32 0,.int .u32 0,.int .u32 0,.int .u32 0,.int .u32 0,.int .u32 0,.int .u32 0,.int .u32 0,.int .u32 0,.int .u32 0,.int .u32 0,.int .u32 0,.int .u32 0,.int .u32 0,.int .u32 0,.int .u32 0,.int .u32 0,.int .u32 0,.int .u32 0,.int .u32 0,.int .u32 0,.int .u32 0,.int .u32 0,.int .u32 0,.int .u32 0,.int .u32 0,.int .u32 0,.int .u32 0,.int .u32 0,.int .u32 0,.int .u32 0,.int .u32 0,.int .u32 0,.int .u32 0,.int .u32 0,.int .u32 0],[],[],false,some 64⟩),
 (37,⟨.agg,72,288,.agg [.int .u32 0,.int .u32 0,.int .u32 0,.int .u32 0,.int .u32 0,.int .u32 0,.int .u32 0,.int .u32 0,.int .u32 0,.int .u32 0,.int .u32 0,.int .u32 0,.int .u32 0,.int .u32 0,.int .u32 0,.int .u32 0,.int .u32 0,.int .u32 0,.int .u32 0,.int .u32 0,.int .u32 0,.int .u32 0,.int .u32 0,.int .u32 0,.int .u32 0,.int .u32 0,.int .u32 0,.int .u32 0,.int .u32 0,.int .u32 0,.int .u32 0,.int .u32 0,.int .u32 0,.int .u32 0,.int .u32 0,.int .u32 0,.int .u32 0,.int .u32 0,.int .u32 0,.int .u32 0,.int .u32 0,.int .u32 0,.int .u32 0,.int .u32 0,.int .u32 0,.int .u32 0,.int .u32 0,.int .u32 0,.int .u32 0,.int .u32 0,.int .u32 0,.int .u32 0,.int .u32 0,.int .u32 0,.int .u32 0,.int .u32 0,.int .u32 0,.int .u32 0,.int .u32 0,.int .u32 0,.int .u32 0,.int .u32 0,.int .u32 0,.int .u32 0,.int .u32 0,.int .u32 0,.int .u32 0,.int .u32 0,.int .u32 0,.int .u32 0,.int .u32 0,.int .u32 0],[(0,8,true),(8,64,true)],[],false,none⟩),
 (38,⟨.agg,72,288,.agg [.int .u32 0,.int .u32 0,.int .u32 0,.int .u32 0,.int .u32 0,.int .u32 0,.int .u32 0,.int .u32 0,.int .u32 0,.int .u32 0,.int .u32 0,.int .u32 0,.int .u32 0,.int .u32 0,.int .u32 0,.int .u32 0,.int .u32 0,.int .u32 0,.int .u32 0,.int .u32 0,.int .u32 0,.int .u32 0,.int .u32 0,.int .u32 0,.int .u32 0,.int .u32 0,.int .u32 0,.int .u32 0,.int .u32 0,.int .u32 0,.int .u32 0,.int .u32 0,.int .u32 0,.int .u32 0,.int .u32 0,.int .u32 0,.int .u32 0,.int .u32 0,.int .u32 0,.int .u32 0,.int .u32 0,.int .u32 0,.int .u32 0,.int .u32 0,.int .u32 0,.int .u32 0,.int .u32 0,.int .u32 0,.int .u32 0,.int .u32 0,.int .u32 0,.int .u32 0,.int .u32 0,.int .u32 0,.int .u32 0,.int .u32 0,.int .u32 0,.int .u32 0,.int .u32 0,.int .u32 0,.int .u32 0,.int .u32 0,.int .u32 0,.int .u32 0,.int .u32 0,.int .u32 0,.int .u32 0,.int .u32 0,.int .u32 0,.int .u32 0,.int .u32 0,.int .u32 0],[(0,8,true),(8,64,true)],[],false,none⟩),
 (39,⟨.other,1,8,.raw .nilFunc,[],[],false,none⟩),
 (40,⟨.other,1,8,.raw .nilFunc,[],[],false,none⟩),
 (41,⟨.other,1,8,.raw .nilFunc,[],[],false,none⟩),
 (42,⟨.agg,2,32,.agg [.nils,.int .i64 0],[(0,1,false),(1,1,false)],[],false,none⟩),
 (43,⟨.agg,2,32,.agg [.nils,.int .i64 0],[(0,1,false),(1,1,false)],[],false,none⟩),
 (44, ⟨.ptr, 1, 8, .raw (.pointer none), [], [("loop.example/codicil/impl.addBlocks", 12), ("loop.example/codicil/impl.addRounds", 18), ("loop.example/codicil/impl.figures", 14), ("loop.example/codicil/impl.setWords", 17)], false, none⟩),
 (45,⟨.int .u64,1,8,.int .u64 0,[],[],false,none⟩),
 (46,⟨.ptr,1,8,.raw (.pointer none),[],[],false,none⟩),
 (47,⟨.agg,2,32,.agg [.raw (.pointer none),.nils],[(0,1,false),(1,1,false)],[],false,none⟩),
 (48,⟨.agg,2,32,.agg [.raw (.pointer none),.nils],[(0,1,false),(1,1,false)],[],false,none⟩),
 (49,⟨.iface,1,16,.raw .nilIface,[],[],false,none⟩),
 (50,⟨.iface,1,16,.raw .nilIface,[],[],false,none⟩),
 (51,⟨.other,1,8,.raw .nilFunc,[],[],false,none⟩),
 (52,⟨.slice 34,1,24,.nils,[],[],false,none⟩),
 (53,⟨.other,1,8,.raw .nilFunc,[],[],false,none⟩),
 (54,⟨.other,1,8,.raw .nilFunc,[],[],false,none⟩),
 (55,⟨.int .u64,1,8,.int .u64 0,[],[],false,none⟩),
 (56,⟨.other,1,8,.raw .nilFunc,[],[],false,none⟩),
 (57,⟨.ptr,1,8,.raw (.pointer none),[],[],false,none⟩),
 (58,⟨.other,1,8,.raw .nilFunc,[],[],false,none⟩),
 (59,⟨.other,1,8,.raw .nilFunc,[],[],false,none⟩),
 (61,⟨.other,1,8,.raw .nilFunc,[],[],false,none⟩),
 (62,⟨.agg,4,40,.agg [.raw (.pointer none),.raw (.pointer none),.raw (.pointer none),.str []],[(0,1,false),(1,1,false),(2,1,false),(3,1,false)],[],false,none⟩),
 (63,⟨.agg,4,40,.agg [.raw (.pointer none),.raw (.pointer none),.raw (.pointer none),.str []],[(0,1,false),(1,1,false),(2,1,false),(3,1,false)],[],false,none⟩),
 (67,⟨.other,1,8,.raw .nilFunc,[],[],false,none⟩),
 (68,⟨.int .u8,1,1,.int .u8 0,[],[],false,none⟩),
 (69,⟨.int .u8,1,1,.int .u8 0,[],[],false,none⟩),
 (70,⟨.other,1,8,.raw .nilFunc,[],[],false,none⟩),
 (71,⟨.int .i32,1,4,.int .i32 0,[],[],false,none⟩),
 (72,⟨.int .i32,1,4,.int .i32 0,[],[],false,none⟩),
 (73,⟨.agg,11,48,.agg [.int .u64 0,.int .u64 0,.int .u32 0,.int .u8 0,.int .u8 0,.int .u8 0,.int .u8 0,.raw .nilFunc,.raw (.pointer none),.int .i32 0,.int .i32 0],[(0,1,false),(1,1,false),(2,1,false),(3,1,false),(4,1,false),(5,1,false),(6,1,false),(7,1,false),(8,1,false),(9,1,false),(10,1,false)],[],false,none⟩),
 (74,⟨.agg,11,48,.agg [.int .u64 0,.int .u64 0,.int .u32 0,.int .u8 0,.int .u8 0,.int .u8 0,.int .u8 0,.raw .nilFunc,.raw (.pointer none),.int .i32 0,.int .i32 0],[(0,1,false),(1,1,false),(2,1,false),(3,1,false),(4,1,false),(5,1,false),(6,1,false),(7,1,false),(8,1,false),(9,1,false),(10,1,false)],[],false,none⟩)]
set_option maxRecDepth 100000 in
theorem good:TauGood Tryd.prog (tauOf tauL):=tauGood (by kernel_rfl) (by kernel_rfl) (by decide)
end Go.Cod
set_option linter.all false
namespace Go.Cod
open Go Go.Proofs
theorem globals_ok:∀ (g:Nat) x,Tryd.prog.globals[g]? = some x→x.type < Tryd.prog.types.size:=by
 intro g x h
 have h1:(Tryd.prog.globals.toList.all fun x=>decide (x.type < Tryd.prog.types.size))=true:=by kernel_rfl
 exact of_decide_eq_true (List.all_eq_true.1 h1 x (by simpa using Array.mem_of_getElem? h))
end Go.Cod
set_option linter.all false
namespace Go.Cod
open Go Go.Proofs Go.ChangeShapes Go.WideShapes Go.ChangeAt Go.RowKit
set_option maxRecDepth 10000
theorem kids:Kids Tryd.prog (· < Tryd.prog.types.size):=kids_rows (by kernel_rfl) (by kernel_rfl)
theorem full:∀ t e,t < Tryd.prog.types.size→Tryd.prog.underlying t=some (.slice e)→0 < Tryd.prog.cellsOf e:=slices_full_of Tryd.prog (by kernel_rfl)
theorem eqS_refl (a:List UInt8):eqS a a=true:=eqS_t rfl
end Go.Cod
set_option linter.all false
set_option linter.all false
namespace Go.Cod
open Go Go.Proofs
set_option maxRecDepth 10000
abbrev W32:=BitVec 32
def wV (x:W32):V:=.int .u32 (x.toNat:Int)
def wRows (ws:List W32):List (List V):=ws.map fun x=>[wV x]
theorem wrows_get {ws:List W32} {i:Nat} (h:i < ws.length):(wRows ws)[i]? = some [wV (ws.getD i 0)]:=by
 rw [wRows,List.getElem?_map,List.getD_eq_getElem?_getD,List.getElem?_eq_getElem h]
 rfl
theorem wrows_snoc (ws:List W32) (x:W32):wRows ws++[[wV x]]=wRows (ws++[x]):=by simp [wRows]
theorem ofI (x:W32):BitVec.ofInt IntKind.u32.bits (x.toNat:Int)=x:=by
 apply BitVec.eq_of_toNat_eq
 have:=x.isLt
 change (((x.toNat:Int) % ((2 ^ 32:Nat):Int)).toNat)=x.toNat
 omega
theorem wrapN (x:W32):IntKind.u32.wrap (x.toNat:Int)=(x.toNat:Int):=by
 rw [IntKind.wrap_u32]
 have:=x.isLt
 omega
theorem b_add (x y:W32):IntKind.u32.wrap ((x.toNat:Int)+(y.toNat:Int))=((x+y).toNat:Int):=by
 rw [IntKind.wrap_u32,BitVec.toNat_add]
 omega
theorem b_xor (x y:W32):IntKind.u32.wrap ((BitVec.ofInt IntKind.u32.bits (x.toNat:Int) ^^^ BitVec.ofInt IntKind.u32.bits (y.toNat:Int)).toNat:Int)=((x ^^^ y).toNat:Int):=by
 rw [ofI,ofI]; exact wrapN (x ^^^ y)
theorem b_and (x y:W32):IntKind.u32.wrap ((BitVec.ofInt IntKind.u32.bits (x.toNat:Int) &&& BitVec.ofInt IntKind.u32.bits (y.toNat:Int)).toNat:Int)=((x &&& y).toNat:Int):=by
 rw [ofI,ofI]; exact wrapN (x &&& y)
theorem b_or (x y:W32):IntKind.u32.wrap ((BitVec.ofInt IntKind.u32.bits (x.toNat:Int) ||| BitVec.ofInt IntKind.u32.bits (y.toNat:Int)).toNat:Int)=((x ||| y).toNat:Int):=by
 rw [ofI,ofI]; exact wrapN (x ||| y)
theorem b_not (x:W32):IntKind.u32.wrap ((BitVec.ofInt IntKind.u32.bits (if IntKind.u32.signed=true then -1 else IntKind.u32.max) ^^^ BitVec.ofInt IntKind.u32.bits (x.toNat:Int)).toNat:Int)=((~~~ x).toNat:Int):=by
 rw [ofI]
 show IntKind.u32.wrap ((BitVec.ofInt 32 4294967295 ^^^ x:BitVec 32).toNat:Int)=_
 rw [show BitVec.ofInt 32 4294967295=BitVec.allOnes 32 from by decide,BitVec.allOnes_xor]
 exact wrapN _
theorem b_shr (x:W32) (n:Nat):(x.toNat:Int).fdiv (2 ^ n)=((x >>> n).toNat:Int):=by
 rw [BitVec.toNat_ushiftRight,Nat.shiftRight_eq_div_pow,Int.fdiv_eq_ediv_of_nonneg _ (by exact Int.pow_nonneg (by decide))]
 rw [Int.natCast_ediv,Int.natCast_pow]
 rfl
theorem b_shl (x:W32) (n:Nat):IntKind.u32.wrap ((x.toNat:Int)*2 ^ n)=((x <<< n).toNat:Int):=by
 rw [IntKind.wrap_u32,BitVec.toNat_shiftLeft,Nat.shiftLeft_eq]
 rw [show ((x.toNat:Int)*2 ^ n)=((x.toNat*2 ^ n:Nat):Int) by rw [Int.natCast_mul,Int.natCast_pow]; rfl]
 omega
def w8 (b:UInt8):W32:=BitVec.ofNat 32 b.toNat
theorem b_u8 (b:UInt8):IntKind.u32.wrap (b.toNat:Int)=((w8 b).toNat:Int):=by
 rw [IntKind.wrap_u32,w8,BitVec.toNat_ofNat]
 omega
def rotr (x:W32) (n:Nat):W32:=x >>> n ||| x <<< (32 - n)
def wordAt (b:List UInt8) (i:Nat):W32:=w8 (b.getD (4*i) 0) <<< 24 ||| w8 (b.getD (4*i+1) 0) <<< 16 ||| w8 (b.getD (4*i+2) 0) <<< 8 ||| w8 (b.getD (4*i+3) 0)
def sgA (x:W32):W32:=rotr x 7 ^^^ rotr x 18 ^^^ x >>> 3
def sgB (y:W32):W32:=rotr y 17 ^^^ rotr y 19 ^^^ y >>> 10
def nextW (w:List W32) (i:Nat):W32:=w.getD (i - 16) 0+sgA (w.getD (i - 15) 0)+w.getD (i - 7) 0+sgB (w.getD (i - 2) 0)
def wordsN (b:List UInt8):Nat→List W32
 | 0=>[]
 | n+1=>wordsN b n++[if n < 16 then wordAt b n else nextW (wordsN b n) n]
theorem wordsN_len (b:List UInt8) (n:Nat):(wordsN b n).length=n:=by
 induction n with
 | zero=>rfl
 | succ n ih=>simp [wordsN,ih]
structure H8 where
 a:W32
 b:W32
 c:W32
 d:W32
 e:W32
 f:W32
 g:W32
 h:W32
def H8.l (s:H8):List W32:=[s.a,s.b,s.c,s.d,s.e,s.f,s.g,s.h]
def bigE (e:W32):W32:=rotr e 6 ^^^ rotr e 11 ^^^ rotr e 25
def bigA (a:W32):W32:=rotr a 2 ^^^ rotr a 13 ^^^ rotr a 22
def chW (e f g:W32):W32:=e &&& f ^^^ ~~~ e &&& g
def majW (a b c:W32):W32:=a &&& b ^^^ a &&& c ^^^ b &&& c
def firstW (k w:W32) (s:H8):W32:=s.h+bigE s.e+chW s.e s.f s.g+k+w
def step8 (k w:W32) (s:H8):H8:=⟨firstW k w s+bigA s.a+majW s.a s.b s.c,s.a,s.b,s.c,s.d+firstW k w s,s.e,s.f,s.g⟩
def kL:List W32:=[1116352408,1899447441,3049323471,3921009573,961987163,1508970993,2453635748,2870763221,3624381080,310598401,607225278,1426881987,1925078388,2162078206,2614888103,3248222580,3835390401,4022224774,264347078,604807628,770255983,1249150122,1555081692,1996064986,2554220882,2821834349,2952996808,3210313671,3336571891,3584528711,113926993,338241895,666307205,773529912,1294757372,1396182291,1695183700,1986661051,2177026350,2456956037,2730485921,2820302411,3259730800,3345764771,3516065817,3600352804,4094571909,275423344,430227734,506948616,659060556,883997877,958139571,1322822218,1537002063,1747873779,1955562222,2024104815,2227730452,2361852424,2428436474,2756734187,3204031479,3329325298]
def foldN {α:Type} (f:α→Nat→α) (s:α):Nat→α
 | 0=>s
 | n+1=>f (foldN f s n) n
theorem foldN_zero {α:Type} (f:α→Nat→α) (s:α):foldN f s 0=s:=rfl
theorem foldN_succ {α:Type} (f:α→Nat→α) (s:α) (n:Nat):foldN f s (n+1)=f (foldN f s n) n:=rfl
@[irreducible] def rounds (w:List W32) (s:H8) (n:Nat):H8:=foldN (fun t i=>step8 (kL.getD i 0) (w.getD i 0) t) s n
theorem rounds_zero (w:List W32) (s:H8):rounds w s 0=s:=by unfold rounds; exact foldN_zero _ _
theorem rounds_succ (w:List W32) (s:H8) (n:Nat):rounds w s (n+1)=step8 (kL.getD n 0) (w.getD n 0) (rounds w s n):=by unfold rounds; exact foldN_succ _ _ _
def H8.add (s t:H8):H8:=⟨s.a+t.a,s.b+t.b,s.c+t.c,s.d+t.d,s.e+t.e,s.f+t.f,s.g+t.g,s.h+t.h⟩
@[irreducible] def block8 (s:H8) (b:List UInt8):H8:=s.add (rounds (wordsN b 64) s 64)
theorem block8_def (s:H8) (b:List UInt8):block8 s b=s.add (rounds (wordsN b 64) s 64):=by unfold block8; rfl
def h0:H8:=⟨1779033703,3144134277,1013904242,2773480762,1359893119,2600822924,528734635,1541459225⟩
@[irreducible] def blocks8 (b:List UInt8) (s:H8) (n:Nat):H8:=foldN (fun t i=>block8 t ((b.drop (64*i)).take 64)) s n
theorem blocks8_zero (b:List UInt8) (s:H8):blocks8 b s 0=s:=by unfold blocks8; exact foldN_zero _ _
theorem blocks8_succ (n:Nat) (b:List UInt8) (s:H8):blocks8 b s (n+1)=block8 (blocks8 b s n) ((b.drop (64*n)).take 64):=by unfold blocks8; exact foldN_succ _ _ _
theorem blocks8_take (n:Nat) (b c:List UInt8) (s:H8) (h:b.take (64*n)=c.take (64*n)):blocks8 b s n=blocks8 c s n:=by
 induction n with
 | zero=>rw [blocks8_zero,blocks8_zero]
 | succ n ih =>
   rw [blocks8_succ,blocks8_succ]
   have h1:b.take (64*n)=c.take (64*n):=by
    have:=congrArg (List.take (64*n)) h
    rw [List.take_take,List.take_take,Nat.min_eq_left (by omega)] at this
    exact this
   have h2:(b.drop (64*n)).take 64=(c.drop (64*n)).take 64:=by
    have:=congrArg (List.drop (64*n)) h
    rw [List.drop_take,List.drop_take,show 64*(n+1) - 64*n=64 by omega] at this
    exact this
   rw [ih h1,h2]
theorem blocks8_add (m n:Nat) (b:List UInt8) (s:H8):blocks8 b s (m+n)=blocks8 (b.drop (64*m)) (blocks8 b s m) n:=by
 induction n with
 | zero=>rw [blocks8_zero]; rfl
 | succ n ih =>
   rw [← Nat.add_assoc,blocks8_succ,blocks8_succ,ih,List.drop_drop,show 64*m+64*n=64*(m+n) by omega]
def cntB (n:Nat):Nat→List UInt8
 | 0=>[]
 | i+1=>UInt8.ofNat (n*8 / 2 ^ (8*i))::cntB n i
def tailB (n:Nat):List UInt8:=128::(List.replicate (63 - (n+8) % 64) 0++cntB n 8)
def padB (s:List UInt8):List UInt8:=s++tailB s.length
theorem cntB_len (n k:Nat):(cntB n k).length=k:=by
 induction k with
 | zero=>rfl
 | succ k ih=>simp [cntB,ih]
theorem tailB_len (n:Nat):(tailB n).length=72 - (n+8) % 64:=by
 simp [tailB,cntB_len]
 omega
theorem padB_len (s:List UInt8):(padB s).length % 64=0:=by
 simp [padB,tailB_len]
 omega
def sumOf (s:List UInt8):H8:=blocks8 (padB s) h0 ((padB s).length / 64)
def figB (n:Nat):UInt8:=[48,49,50,51,52,53,54,55,56,57,97,98,99,100,101,102].getD n 0
def figN (x:W32):Nat→List UInt8
 | 0=>[]
 | k+1=>figN x k++[figB (x.toNat / 2 ^ (28 - 4*k) % 16)]
def figsW (x:W32):List UInt8:=figN x 8
def hashB (s:List UInt8):List UInt8:=(sumOf s).l.flatMap figsW
theorem hashB_len (s:List UInt8):(hashB s).length=64:=by
 simp [hashB,H8.l,figsW,figN]
end Go.Cod
set_option linter.all false
set_option linter.all false
namespace Go.Cod
open Go Go.Proofs
set_option maxRecDepth 10000
def uO (rows:List (List V)):O:=⟨rows,1,true,true,false,.cell⟩
def cells (bs:List UInt8):List (List V):=bs.map fun b=>[cellB b]
theorem cells_len (bs:List UInt8):(cells bs).length=bs.length:=List.length_map ..
theorem cells_get {bs:List UInt8} {i:Nat} (h:i < bs.length):(cells bs)[i]? = some [cellB (bs.getD i 0)]:=by
 rw [cells,List.getElem?_map,List.getD_eq_getElem?_getD,List.getElem?_eq_getElem h]
 rfl
theorem cells_snoc (bs cs:List UInt8):cells bs++cells cs=cells (bs++cs):=by simp [cells]
theorem u8_ofNat (n:Nat):V.int .u8 (IntKind.u8.wrap (n:Int))=cellB (UInt8.ofNat n):=by
 show _=V.int .u8 ((UInt8.ofNat n).toNat:Int)
 rw [IntKind.wrap_u8,UInt8.toNat_ofNat']
 simp
theorem turn_pure (x:W32) (n:Nat) (h:n≤32):Pure Tryd.prog 27 [wV x,.int .i64 n] (·=wV (rotr x n)):=by
 have hw:IntKind.i64.wrap (32 - (n:Int))=((32 - n:Nat):Int):=by rw [wrap64 (by omega) (by omega)]; omega
 have e:∀ m:Nat,m≤32→min ((m:Int).toNat) IntKind.u32.bits=m:=fun m hm=>by
  rw [Int.toNat_natCast]; exact Nat.min_eq_left hm
 refine pure_of_awp good Tryd.func27 rfl (by kernel_rfl) (by decide) ?_
 conv=>whnf
 refine ⟨by omega,?_⟩
 conv=>whnf
 rw [hw]
 refine ⟨by omega,?_⟩
 conv=>whnf
 show V.int .u32 _=V.int .u32 _
 rw [e n h,e (32 - n) (by omega),b_shr,b_shl,b_or]
 rfl
theorem fdiv_two (a k:Nat):(a:Int).fdiv (2 ^ k)=((a / 2 ^ k:Nat):Int):=by
 rw [Int.fdiv_eq_ediv_of_nonneg _ (Int.pow_nonneg (by decide)),Int.natCast_ediv,Int.natCast_pow]
 rfl
set_option maxHeartbeats 1000000 in
theorem l1Padded_full (s:List UInt8) (hs:s.length≤1048576):Full Tryd.prog noY 21 [.str s] [] fun o st'=>o=.ret (.own 0)∧st'=[uO (cells (padB s))]:=by
 obtain ⟨T,hT⟩:∃ T,T=s.length+1+(120 - (s.length+1) % 64) % 64:=⟨_,rfl⟩
 refine full_of_awp good Tryd.func21 rfl (by kernel_rfl) (by decide) ?_
 conv=>whnf
 refine ⟨by omega,?_⟩
 conv=>whnf
 refine ⟨fun m hm=>by rw [List.mem_singleton.1 hm]; rfl,?_⟩
 conv=>whnf
 refine ⟨by simp; omega,?_⟩
 conv=>whnf
 refine loop_drop (fun n fr st=>∃ (rows:List (List V)) (k:Nat),rows=cells (s++128::List.replicate k 0)∧n+rows.length=T∧rows.length=s.length+1+k∧Holds fr [(0,.str s),(3,.own 0)]∧st=[uO rows]) (T - (s.length+1)) (some [2])
  (by
    conv=>whnf
    refine ⟨cells s++[[cellB 128]],0,by simp [cells],by simp [cells]; omega,by simp [cells],⟨rfl,rfl,trivial⟩,rfl⟩) ?_
 rintro n fr st ⟨rows,k,h1,h2,h3,hh,rfl⟩
 obtain ⟨fr,rfl⟩:=hh.split
 clear hh
 have ht:(rows.length:Int).tmod 64=((rows.length % 64:Nat):Int):=by rw [Int.tmod_eq_emod_of_nonneg (by omega)]; omega
 conv=>whnf
 refine ⟨by decide,?_⟩
 conv=>whnf
 by_cases h56:rows.length % 64=56
 · rw [eqB_t (by show (rows.length:Int).tmod 64=56; omega)]
   conv=>whnf
   obtain ⟨T2,hT2⟩:∃ T2,T2=rows.length+8:=⟨_,rfl⟩
   have hlt:rows.length≤T:=by omega
   have hpad:rows++cells (cntB s.length 8)=cells (padB s):=by
    have:k=63 - (s.length+8) % 64:=by omega
    rw [h1,cells_snoc,padB,tailB,← this]
    simp
   have hw8:∀ (i:Int),0≤i→i≤7→IntKind.i64.wrap (8*i)=8*i:=fun i a b=>wrap64 (by omega) (by omega)
   refine loop_drop (fun n fr st=>∃ (rows':List (List V)),n≤8∧rows'++cells (cntB s.length n)=cells (padB s)∧n+rows'.length=T2∧Holds fr [(3,.own 0),(4,.int .i64 ((s.length*8:Nat):Int)),(5,.int .i64 ((n:Int) - 1))]∧st=[uO rows']) 8 none
    (by
      conv=>whnf
      refine ⟨rows,by omega,hpad,by omega,⟨rfl,?_,rfl,trivial⟩,rfl⟩
      show V.int .i64 (IntKind.i64.wrap ((s.length:Int)*8))=_
      rw [wrap64 (by omega) (by omega)]; rfl) ?_
   rintro n fr st ⟨rows',g0,g1,g2,hh,rfl⟩
   obtain ⟨fr,rfl⟩:=hh.split
   clear hh
   conv=>whnf
   by_cases hn:0 < n
   · rw [leB_t (by omega)]
     conv=>whnf
     rw [hw8 _ (by omega) (by omega)]
     refine ⟨by omega,?_⟩
     conv=>whnf
     refine ⟨fun m hm=>by rw [List.mem_singleton.1 hm]; rfl,?_⟩
     conv=>whnf
     refine ⟨by show (rows'.length+1)*1≤_; omega,?_⟩
     conv=>whnf
     refine ⟨n - 1,by omega,some [2],?_⟩
     conv=>whnf
     refine ⟨rows'++[[.int .u8 _]],by omega,?_,by simp; omega,⟨rfl,rfl,?_,trivial⟩,rfl⟩
     · obtain ⟨m,rfl⟩:∃ m,n=m+1:=⟨n - 1,by omega⟩
       rw [← g1,List.append_assoc]
       congr 1
       show [V.int .u8 (IntKind.u8.wrap (((s.length*8:Nat):Int).fdiv (2 ^ min (8*(((m+1:Nat):Int) - 1)).toNat IntKind.i64.bits)))]::cells (cntB s.length m)=_
       have em:min (8*(((m+1:Nat):Int) - 1)).toNat IntKind.i64.bits=8*m:=by
        show min _ 64=_
        omega
       rw [em,fdiv_two,u8_ofNat]
       rfl
     · show V.int .i64 (IntKind.i64.wrap ((n:Int) - 1 - 1))=_
       rw [wrap64 (by omega) (by omega)]
       congr 1; omega
   · rw [leB_f (by omega)]
     conv=>whnf
     refine ⟨[0],false,?_⟩
     conv=>whnf
     obtain rfl:n=0:=by omega
     refine ⟨rfl,?_⟩
     show [uO rows']=_
     rw [← g1]
     simp [cntB,cells]
 · rw [eqB_f (by show (rows.length:Int).tmod 64≠56; omega)]
   conv=>whnf
   refine ⟨fun m hm=>by rw [List.mem_singleton.1 hm]; rfl,?_⟩
   conv=>whnf
   refine ⟨by show (rows.length+1)*1≤_; omega,?_⟩
   conv=>whnf
   refine ⟨n - 1,by omega,some [2],?_⟩
   conv=>whnf
   refine ⟨rows++[[.int .u8 0]],k+1,?_,by simp; omega,by simp; omega,⟨rfl,rfl,trivial⟩,rfl⟩
   rw [h1,List.replicate_succ']
   show cells _++cells [0]=_
   rw [cells_snoc]
   simp
end Go.Cod
set_option linter.all false
set_option linter.all false
namespace Go.Cod
open Go Go.Proofs
set_option maxRecDepth 10000
set_option maxHeartbeats 2000000 in
theorem l1Words_full (b:List UInt8) (hl:b.length=64):Full Tryd.prog noY 25 [.sl (cells b)] [] fun o st'=>o=.ret (.own 0)∧st'=[uO (wRows (wordsN b 64))]:=by
 have hg:∀ k:Nat,k < 64→(cells b)[k]? = some [.int .u8 ((b.getD k 0).toNat:Int)]:=fun k hk=>cells_get (by omega)
 have hb:∀ i,wordsN b (i+1)=wordsN b i++[if i < 16 then wordAt b i else nextW (wordsN b i) i]:=fun _=>rfl
 have hwl:=wordsN_len b
 generalize hrows:cells b=rows at *
 have hwN:∀ (a:Int) (b:Nat),a=(b:Int)→b≤1000→IntKind.i64.wrap a=(b:Int):=fun a b h1 h2=>by rw [h1,wrap64 (by omega) (by omega)]
 refine full_of_awp good Tryd.func25 rfl (by kernel_rfl) (by decide) ?_
 conv=>whnf
 refine ⟨by decide,by decide,by decide,by decide,?_⟩
 conv=>whnf
 refine loop_drop (fun n fr st=>∃ (i:Nat) (ws:List (List V)),n+i=16∧ws=wRows (wordsN b i)∧ws.length=i∧Holds fr [(0,.sl rows),(3,.own 0),(4,.int .i64 i)]∧st=[uO ws]) 16 none
  (by
    conv=>whnf
    exact ⟨0,[],by omega,rfl,rfl,⟨rfl,rfl,rfl,trivial⟩,rfl⟩) ?_
 rintro n fr st ⟨i,ws,j1,j2,j3,hh,rfl⟩
 obtain ⟨fr,rfl⟩:=hh.split
 clear hh
 conv=>whnf
 by_cases hi:i < 16
 · rw [ltB_t (by omega)]
   have w0:IntKind.i64.wrap (4*(i:Int))=((4*i:Nat):Int):=hwN _ _ (by omega) (by omega)
   have w1:IntKind.i64.wrap (((4*i:Nat):Int)+1)=((4*i+1:Nat):Int):=hwN _ _ (by omega) (by omega)
   have w2:IntKind.i64.wrap (((4*i:Nat):Int)+2)=((4*i+2:Nat):Int):=hwN _ _ (by omega) (by omega)
   have w3:IntKind.i64.wrap (((4*i:Nat):Int)+3)=((4*i+3:Nat):Int):=hwN _ _ (by omega) (by omega)
   have g0:=hg (4*i) (by omega)
   have g1:=hg (4*i+1) (by omega)
   have g2:=hg (4*i+2) (by omega)
   have g3:=hg (4*i+3) (by omega)
   conv=>whnf
   rw [w0]
   refine ⟨by omega,rows,_,1,rfl,g0,rfl,rfl,?_⟩
   conv=>whnf
   refine ⟨rfl,?_⟩
   conv=>whnf
   refine ⟨by decide,?_⟩
   conv=>whnf
   rw [w0,w1]
   refine ⟨by omega,rows,_,1,rfl,g1,rfl,rfl,?_⟩
   conv=>whnf
   refine ⟨rfl,?_⟩
   conv=>whnf
   refine ⟨by decide,?_⟩
   conv=>whnf
   rw [w0,w2]
   refine ⟨by omega,rows,_,1,rfl,g2,rfl,rfl,?_⟩
   conv=>whnf
   refine ⟨rfl,?_⟩
   conv=>whnf
   refine ⟨by decide,?_⟩
   conv=>whnf
   rw [w0,w3]
   refine ⟨by omega,rows,_,1,rfl,g3,rfl,rfl,?_⟩
   conv=>whnf
   refine ⟨rfl,?_⟩
   conv=>whnf
   refine ⟨fun m hm=>by rw [List.mem_singleton.1 hm]; rfl,?_⟩
   conv=>whnf
   refine ⟨by show (ws.length+1)*4≤_; omega,?_⟩
   conv=>whnf
   refine ⟨n - 1,by omega,some [2],?_⟩
   conv=>whnf
   refine ⟨i+1,ws++[[.int .u32 _]],by omega,?_,by simp; omega,⟨rfl,rfl,?_,trivial⟩,rfl⟩
   · rw [j2,hb,if_pos hi,← wrows_snoc]
     congr 3
     show V.int .u32 _=V.int .u32 _
     simp only [b_u8,b_shl,b_or]
     rfl
   · show V.int .i64 (IntKind.i64.wrap ((i:Int)+1))=_
     rw [wrap64 (by omega) (by omega)]
     rfl
 · rw [ltB_f (by omega)]
   obtain rfl:i=16:=by omega
   conv=>whnf
   refine loop_drop (fun n fr st=>∃ (i:Nat) (ws:List (List V)),n+i=64∧16≤i∧ws=wRows (wordsN b i)∧ws.length=i∧Holds fr [(0,.sl rows),(3,.own 0),(5,.int .i64 i)]∧st=[uO ws]) 48 none
    (by
      conv=>whnf
      exact ⟨16,ws,by omega,by omega,j2,j3,⟨rfl,rfl,rfl,trivial⟩,rfl⟩) ?_
   clear j1 j2 j3 n ws
   rintro n fr st ⟨i,ws,j1,j0,j2,j3,hh,rfl⟩
   obtain ⟨fr,rfl⟩:=hh.split
   clear hh
   conv=>whnf
   by_cases hi:i < 64
   · rw [ltB_t (by omega)]
     have hgw:∀ k:Nat,k < i→ws[k]? = some [wV ((wordsN b i).getD k 0)]:=fun k hk=>by rw [j2]; exact wrows_get (by rw [hwl]; exact hk)
     have w0:IntKind.i64.wrap ((i:Int) - 15)=((i - 15:Nat):Int):=hwN _ _ (by omega) (by omega)
     have w1:IntKind.i64.wrap ((i:Int) - 2)=((i - 2:Nat):Int):=hwN _ _ (by omega) (by omega)
     have w2:IntKind.i64.wrap ((i:Int) - 16)=((i - 16:Nat):Int):=hwN _ _ (by omega) (by omega)
     have w3:IntKind.i64.wrap ((i:Int) - 7)=((i - 7:Nat):Int):=hwN _ _ (by omega) (by omega)
     have g0:=hgw (i - 15) (by omega)
     have g1:=hgw (i - 2) (by omega)
     have g2:=hgw (i - 16) (by omega)
     have g3:=hgw (i - 7) (by omega)
     conv=>whnf
     rw [w0]
     refine ⟨by omega,ws,_,1,rfl,g0,rfl,rfl,?_⟩
     conv=>whnf
     refine AtRow_intro _ g0 ?_
     conv=>whnf
     rw [w1]
     refine ⟨by omega,ws,_,1,rfl,g1,rfl,rfl,?_⟩
     conv=>whnf
     refine AtRow_intro _ g1 ?_
     conv=>whnf
     refine .inl ((turn_pure _ 7 (by decide)).mono ?_)
     rintro r rfl
     conv=>whnf
     refine .inl ((turn_pure _ 18 (by decide)).mono ?_)
     rintro r rfl
     conv=>whnf
     refine ⟨by decide,?_⟩
     conv=>whnf
     refine .inl ((turn_pure _ 17 (by decide)).mono ?_)
     rintro r rfl
     conv=>whnf
     refine .inl ((turn_pure _ 19 (by decide)).mono ?_)
     rintro r rfl
     conv=>whnf
     refine ⟨by decide,?_⟩
     conv=>whnf
     rw [w2]
     refine ⟨by omega,ws,_,1,rfl,g2,rfl,rfl,?_⟩
     conv=>whnf
     refine AtRow_intro _ g2 ?_
     conv=>whnf
     rw [w3]
     refine ⟨by omega,ws,_,1,rfl,g3,rfl,rfl,?_⟩
     conv=>whnf
     refine AtRow_intro _ g3 ?_
     conv=>whnf
     refine ⟨fun m hm=>by rw [List.mem_singleton.1 hm]; rfl,?_⟩
     conv=>whnf
     refine ⟨by show (ws.length+1)*4≤_; omega,?_⟩
     conv=>whnf
     refine ⟨n - 1,by omega,some [2],?_⟩
     conv=>whnf
     refine ⟨i+1,ws++[[.int .u32 _]],by omega,by omega,?_,by simp; omega,⟨rfl,rfl,?_,trivial⟩,rfl⟩
     · rw [j2,hb,if_neg (by omega),← wrows_snoc]
       congr 3
       show V.int .u32 _=V.int .u32 _
       simp only [b_shr,b_xor,b_add]
       rfl
     · show V.int .i64 (IntKind.i64.wrap ((i:Int)+1))=_
       rw [wrap64 (by omega) (by omega)]
       rfl
   · rw [ltB_f (by omega)]
     conv=>whnf
     refine ⟨[0],false,?_⟩
     conv=>whnf
     obtain rfl:i=64:=by omega
     refine ⟨rfl,?_⟩
     show [uO ws]=_
     rw [j2]
end Go.Cod
set_option linter.all false
set_option linter.all false
namespace Go.Cod
open Go Go.Proofs
set_option maxRecDepth 10000
theorem l1Consts_full:Full Tryd.prog noY 26 [] [] fun o st'=>o=.ret (.own 0)∧st'=[uO (wRows kL)]:=by
 refine full_of_awp good Tryd.func26 rfl (by kernel_rfl) (by decide) ?_
 conv=>whnf
 refine ⟨[0],false,?_⟩
 conv=>whnf
 exact ⟨rfl,rfl⟩
def shf (s:H8):Nat→List W32
 | 7=>s.l
 | 6=>[s.a,s.b,s.c,s.d,s.e,s.f,s.g,s.g]
 | 5=>[s.a,s.b,s.c,s.d,s.e,s.f,s.f,s.g]
 | 4=>[s.a,s.b,s.c,s.d,s.e,s.e,s.f,s.g]
 | 3=>[s.a,s.b,s.c,s.d,s.d,s.e,s.f,s.g]
 | 2=>[s.a,s.b,s.c,s.c,s.d,s.e,s.f,s.g]
 | 1=>[s.a,s.b,s.b,s.c,s.d,s.e,s.f,s.g]
 | _=>[s.a,s.a,s.b,s.c,s.d,s.e,s.f,s.g]
theorem shf_set (s:H8) (n:Nat) (h0:0 < n) (h:n≤7):(wRows (shf s n)).set n [wV ((shf s n).getD (n - 1) 0)]=wRows (shf s (n - 1)):=by
 match n,h0,h with
 | 1,_,_=>rfl
 | 2,_,_=>rfl
 | 3,_,_=>rfl
 | 4,_,_=>rfl
 | 5,_,_=>rfl
 | 6,_,_=>rfl
 | 7,_,_=>rfl
theorem shf_len (s:H8) (n:Nat) (h:n≤7):(shf s n).length=8:=by
 match n,h with
 | 0,_=>rfl
 | 1,_=>rfl
 | 2,_=>rfl
 | 3,_=>rfl
 | 4,_=>rfl
 | 5,_=>rfl
 | 6,_=>rfl
 | 7,_=>rfl
def addN (s t:H8) (n:Nat):List W32:=((s.add t).l).take n
def outV:List (List V)→V
 | []=>.nils
 | _::_=>.own 4
def outO:List (List V)→List O
 | []=>[]
 | r::rs=>[uO (r::rs)]
set_option maxHeartbeats 4000000 in
theorem l1Block_full (s:H8) (b:List UInt8) (hl:b.length=64):Full Tryd.prog noY 22 [.own 0,.sl (cells b)] [uO (wRows s.l)] fun o st'=>o=.ret (.own 1)∧st'=[uO (wRows s.l),uO (wRows (block8 s b).l)]:=by
 have f1:=l1Words_full b hl
 have hwl:=wordsN_len b 64
 rw [block8_def]
 generalize wordsN b 64=w at *
 generalize cells b=rows at *
 have hl8:s.l.length=8:=rfl
 have hk:kL.length=64:=rfl
 have f2:=l1Consts_full
 refine full_of_awp good Tryd.func22 rfl (by kernel_rfl) (by decide) ?_
 conv=>whnf
 refine .inr (.inl ⟨[],false,?_⟩)
 conv=>whnf
 refine f1.mono ?_
 rintro o st' ⟨rfl,rfl⟩
 conv=>whnf
 refine .inr (.inl ⟨[],false,?_⟩)
 conv=>whnf
 refine f2.mono ?_
 rintro o st' ⟨rfl,rfl⟩
 conv=>whnf
 refine ⟨fun m hm=>by obtain ⟨x,_,rfl⟩:=List.mem_map.1 hm; rfl,?_⟩
 conv=>whnf
 refine ⟨by show 8*4≤_; omega,.inr ⟨(by intro e; cases e),?_⟩⟩
 conv=>whnf
 refine loop_drop (fun n fr st=>∃ (i:Nat),n+i=64∧Holds fr [(0,.own 0),(5,.own 1),(6,.own 2),(7,.own 3),(8,.int .i64 i)]∧st=[uO (wRows s.l),uO (wRows w),uO (wRows kL),uO (wRows (rounds w s i).l)]) 64 none
  (by
    conv=>whnf
    exact ⟨0,by omega,⟨rfl,rfl,rfl,rfl,rfl,trivial⟩,by rw [rounds_zero]; rfl⟩) ?_
 rintro n fr st ⟨i,j1,hh,rfl⟩
 obtain ⟨fr,rfl⟩:=hh.split
 clear hh
 by_cases hi:i < 64
 · have hr8:=rounds_succ w s i
   generalize hS:rounds w s i=S at *
   have hgs:∀ k:Nat,k < 8→(wRows S.l)[k]? = some [wV (S.l.getD k 0)]:=fun k hk=>wrows_get hk
   have g0:=hgs 0 (by omega)
   have g1:=hgs 1 (by omega)
   have g2:=hgs 2 (by omega)
   have g4:=hgs 4 (by omega)
   have g5:=hgs 5 (by omega)
   have g6:=hgs 6 (by omega)
   have g7:=hgs 7 (by omega)
   have gk:(wRows kL)[i]? = some [wV (kL.getD i 0)]:=wrows_get (by omega)
   have gw:(wRows w)[i]? = some [wV (w.getD i 0)]:=wrows_get (by omega)
   generalize kL.getD i 0=kk at *
   generalize w.getD i 0=ww at *
   generalize wRows kL=ks at *
   generalize wRows w=ws at *
   generalize wRows s.l=hs at *
   generalize hss:wRows S.l=ss at *
   conv=>whnf
   rw [ltB_t (by omega)]
   conv=>whnf
   refine ⟨by omega,ss,_,1,rfl,g4,rfl,rfl,?_⟩
   conv=>whnf
   refine AtRow_intro _ g4 ?_
   conv=>whnf
   refine ⟨_,.inl (turn_pure S.e 6 (by decide)),?_⟩
   conv=>whnf
   refine ⟨by omega,ss,_,1,rfl,g4,rfl,rfl,?_⟩
   conv=>whnf
   refine AtRow_intro _ g4 ?_
   conv=>whnf
   refine ⟨_,.inl (turn_pure S.e 11 (by decide)),?_⟩
   conv=>whnf
   refine ⟨by omega,ss,_,1,rfl,g4,rfl,rfl,?_⟩
   conv=>whnf
   refine AtRow_intro _ g4 ?_
   conv=>whnf
   refine ⟨_,.inl (turn_pure S.e 25 (by decide)),?_⟩
   conv=>whnf
   refine ⟨by omega,ss,_,1,rfl,g4,rfl,rfl,?_⟩
   conv=>whnf
   refine AtRow_intro _ g4 ?_
   conv=>whnf
   refine ⟨by omega,ss,_,1,rfl,g5,rfl,rfl,?_⟩
   conv=>whnf
   refine AtRow_intro _ g5 ?_
   conv=>whnf
   refine ⟨by omega,ss,_,1,rfl,g4,rfl,rfl,?_⟩
   conv=>whnf
   refine AtRow_intro _ g4 ?_
   conv=>whnf
   refine ⟨by omega,ss,_,1,rfl,g6,rfl,rfl,?_⟩
   conv=>whnf
   refine AtRow_intro _ g6 ?_
   conv=>whnf
   refine ⟨by omega,ss,_,1,rfl,g7,rfl,rfl,?_⟩
   conv=>whnf
   refine AtRow_intro _ g7 ?_
   conv=>whnf
   refine ⟨by omega,ks,_,1,rfl,gk,rfl,rfl,?_⟩
   conv=>whnf
   refine AtRow_intro _ gk ?_
   conv=>whnf
   refine ⟨by omega,ws,_,1,rfl,gw,rfl,rfl,?_⟩
   conv=>whnf
   refine AtRow_intro _ gw ?_
   conv=>whnf
   refine ⟨by omega,ss,_,1,rfl,g0,rfl,rfl,?_⟩
   conv=>whnf
   refine AtRow_intro _ g0 ?_
   conv=>whnf
   refine ⟨_,.inl (turn_pure S.a 2 (by decide)),?_⟩
   conv=>whnf
   refine ⟨by omega,ss,_,1,rfl,g0,rfl,rfl,?_⟩
   conv=>whnf
   refine AtRow_intro _ g0 ?_
   conv=>whnf
   refine ⟨_,.inl (turn_pure S.a 13 (by decide)),?_⟩
   conv=>whnf
   refine ⟨by omega,ss,_,1,rfl,g0,rfl,rfl,?_⟩
   conv=>whnf
   refine AtRow_intro _ g0 ?_
   conv=>whnf
   refine ⟨_,.inl (turn_pure S.a 22 (by decide)),?_⟩
   conv=>whnf
   refine ⟨by omega,ss,_,1,rfl,g0,rfl,rfl,?_⟩
   conv=>whnf
   refine AtRow_intro _ g0 ?_
   conv=>whnf
   refine ⟨by omega,ss,_,1,rfl,g1,rfl,rfl,?_⟩
   conv=>whnf
   refine AtRow_intro _ g1 ?_
   conv=>whnf
   refine ⟨by omega,ss,_,1,rfl,g0,rfl,rfl,?_⟩
   conv=>whnf
   refine AtRow_intro _ g0 ?_
   conv=>whnf
   refine ⟨by omega,ss,_,1,rfl,g2,rfl,rfl,?_⟩
   conv=>whnf
   refine AtRow_intro _ g2 ?_
   conv=>whnf
   refine ⟨by omega,ss,_,1,rfl,g1,rfl,rfl,?_⟩
   conv=>whnf
   refine AtRow_intro _ g1 ?_
   conv=>whnf
   refine ⟨by omega,ss,_,1,rfl,g2,rfl,rfl,?_⟩
   conv=>whnf
   refine AtRow_intro _ g2 ?_
   conv=>whnf
   refine loop_drop (fun n fr st=>n≤7∧Holds fr [(0,.own 0),(5,.own 1),(6,.own 2),(7,.own 3),(8,.int .i64 i),(11,wV (firstW kk ww S)),(12,wV (bigA S.a)),(13,wV (majW S.a S.b S.c)),(14,.int .i64 n)]∧st=[uO hs,uO ws,uO ks,uO (wRows (shf S n))]) 7 none
    (by
      conv=>whnf
      refine ⟨by omega,⟨rfl,rfl,rfl,rfl,rfl,?_,?_,?_,rfl,trivial⟩,by rw [← hss]; rfl⟩
      · show V.int .u32 _=V.int .u32 _
        simp only [b_and,b_not,b_xor,b_add]
        rfl
      · show V.int .u32 _=V.int .u32 _
        simp only [b_xor]
        rfl
      · show V.int .u32 _=V.int .u32 _
        simp only [b_and,b_xor]
        rfl) ?_
   rintro n2 fr st ⟨q0,hh,rfl⟩
   obtain ⟨fr,rfl⟩:=hh.split
   clear hh
   conv=>whnf
   have hgs':∀ k:Nat,k < 8→(wRows (shf S n2))[k]? = some [wV ((shf S n2).getD k 0)]:=fun k hk=>wrows_get (by rw [shf_len S n2 q0]; exact hk)
   have hset:=shf_set S n2
   by_cases hn:0 < n2
   · rw [ltB_t (by omega)]
     have wn:IntKind.i64.wrap ((n2:Int) - 1)=((n2 - 1:Nat):Int):=by rw [wrap64 (by omega) (by omega)]; omega
     have y1:=hgs' (n2 - 1) (by omega)
     have y2:=hgs' n2 (by omega)
     replace hset:=hset hn q0
     generalize wRows (shf S n2)=ss' at *
     conv=>whnf
     rw [wn]
     refine ⟨by omega,ss',_,1,rfl,y1,rfl,rfl,?_⟩
     conv=>whnf
     refine AtRow_intro _ y1 ?_
     conv=>whnf
     refine ⟨by omega,ss',_,1,rfl,y2,rfl,rfl,?_⟩
     conv=>whnf
     refine AtRow_intro _ y2 ?_
     conv=>whnf
     refine ⟨n2 - 1,by omega,none,by omega,⟨rfl,rfl,rfl,rfl,rfl,rfl,rfl,rfl,congrArg (V.int .i64) wn,trivial⟩,?_⟩
     show [uO hs,uO ws,uO ks,uO (ss'.set n2 [wV ((shf S n2).getD (n2 - 1) 0)])]=_
     rw [hset]
   · rw [ltB_f (by omega)]
     obtain rfl:n2=0:=by omega
     have y4:(wRows (shf S 0))[4]? = some [wV S.d]:=rfl
     have y0:∀ v,((wRows (shf S 0)).set 4 v)[0]? = some [wV S.a]:=fun v=>rfl
     have hfin:((wRows (shf S 0)).set 4 [wV (S.d+firstW kk ww S)]).set 0 [wV (firstW kk ww S+bigA S.a+majW S.a S.b S.c)]=wRows (step8 kk ww S).l:=rfl
     generalize wRows (shf S 0)=ss' at *
     conv=>whnf
     refine ⟨by omega,ss',_,1,rfl,y4,rfl,rfl,?_⟩
     conv=>whnf
     refine AtRow_intro _ y4 ?_
     conv=>whnf
     refine ⟨by omega,ss',_,1,rfl,y4,rfl,rfl,?_⟩
     conv=>whnf
     refine AtRow_intro _ y4 ?_
     conv=>whnf
     refine ⟨by omega,_,_,1,rfl,y0 _,rfl,rfl,?_⟩
     conv=>whnf
     refine AtRow_intro _ (y0 _) ?_
     conv=>whnf
     refine ⟨n - 1,by omega,none,i+1,by omega,⟨rfl,rfl,rfl,rfl,?_,trivial⟩,?_⟩
     · show V.int .i64 (IntKind.i64.wrap ((i:Int)+1))=_
       rw [wrap64 (by omega) (by omega)]
       rfl
     · show [uO hs,uO ws,uO ks,uO ((ss'.set 4 [V.int .u32 (IntKind.u32.wrap ((S.d.toNat:Int)+((firstW kk ww S).toNat:Int)))]).set 0 [V.int .u32 (IntKind.u32.wrap (IntKind.u32.wrap (((firstW kk ww S).toNat:Int)+((bigA S.a).toNat:Int))+((majW S.a S.b S.c).toNat:Int)))])]=_
       rw [b_add,b_add,b_add,hr8,← hfin]
       rfl
 · conv=>whnf
   rw [ltB_f (by omega)]
   conv=>whnf
   obtain rfl:i=64:=by omega
   generalize wRows kL=ks at *
   generalize wRows w=ws at *
   refine loop_drop (fun n fr st=>∃ (i:Nat) (os:List (List V)),n+i=8∧os=wRows (addN s (rounds w s 64) i)∧os.length=i∧Holds fr [(0,.own 0),(7,.own 3),(15,outV os),(16,.int .i64 i)]∧st=[uO (wRows s.l),uO ws,uO ks,uO (wRows (rounds w s 64).l)]++outO os) 8 none
    (by
      conv=>whnf
      exact ⟨0,[],by omega,rfl,rfl,⟨rfl,rfl,rfl,rfl,trivial⟩,rfl⟩) ?_
   rintro n3 fr st ⟨i3,os,o1,o2,o3,hh,rfl⟩
   obtain ⟨fr,rfl⟩:=hh.split
   clear hh
   by_cases h8:i3 < 8
   · have yh:(wRows s.l)[i3]? = some [wV (s.l.getD i3 0)]:=wrows_get h8
     have ys:(wRows (rounds w s 64).l)[i3]? = some [wV ((rounds w s 64).l.getD i3 0)]:=wrows_get h8
     have hadd:wRows (addN s (rounds w s 64) i3)++[[wV (s.l.getD i3 0+(rounds w s 64).l.getD i3 0)]]=wRows (addN s (rounds w s 64) (i3+1)):=by
      generalize rounds w s 64=t
      match i3,h8 with
      | 0,_=>rfl
      | 1,_=>rfl
      | 2,_=>rfl
      | 3,_=>rfl
      | 4,_=>rfl
      | 5,_=>rfl
      | 6,_=>rfl
      | 7,_=>rfl
     generalize wRows (addN s (rounds w s 64) i3)=os1 at *
     generalize wRows (rounds w s 64).l=ss at *
     generalize wRows s.l=hs at *
     generalize s.l.getD i3 0=xh at *
     generalize (rounds w s 64).l.getD i3 0=xs at *
     have wi:IntKind.i64.wrap ((i3:Int)+1)=((i3+1:Nat):Int):=by rw [wrap64 (by omega) (by omega)]; rfl
     cases os with
     | nil =>
       conv=>whnf
       rw [ltB_t (by omega)]
       conv=>whnf
       refine ⟨by omega,hs,_,1,rfl,yh,rfl,rfl,?_⟩
       conv=>whnf
       refine AtRow_intro _ yh ?_
       conv=>whnf
       refine ⟨by omega,ss,_,1,rfl,ys,rfl,rfl,?_⟩
       conv=>whnf
       refine AtRow_intro _ ys ?_
       conv=>whnf
       refine ⟨fun m hm=>by rw [List.mem_singleton.1 hm]; rfl,?_⟩
       conv=>whnf
       refine ⟨by show 1*4≤_; omega,.inr ⟨(by intro e; cases e),?_⟩⟩
       conv=>whnf
       refine ⟨n3 - 1,by omega,some [0,1,2,3,5],?_⟩
       conv=>whnf
       refine ⟨i3+1,[]++[[.int .u32 _]],by omega,by rw [← hadd,← o2,wV,← b_add],by simp at o3 ⊢; omega,⟨rfl,rfl,rfl,congrArg (V.int .i64) wi,trivial⟩,rfl⟩
     | cons r0 os =>
       conv=>whnf
       rw [ltB_t (by omega)]
       conv=>whnf
       refine ⟨by omega,hs,_,1,rfl,yh,rfl,rfl,?_⟩
       conv=>whnf
       refine AtRow_intro _ yh ?_
       conv=>whnf
       refine ⟨by omega,ss,_,1,rfl,ys,rfl,rfl,?_⟩
       conv=>whnf
       refine AtRow_intro _ ys ?_
       conv=>whnf
       refine ⟨fun m hm=>by rw [List.mem_singleton.1 hm]; rfl,?_⟩
       conv=>whnf
       refine ⟨by show ((r0::os).length+1)*4≤_; omega,?_⟩
       conv=>whnf
       refine ⟨n3 - 1,by omega,some [0,1,2,3,6],?_⟩
       conv=>whnf
       refine ⟨i3+1,(r0::os)++[[.int .u32 _]],by omega,by rw [← hadd,← o2,wV,← b_add],by simp at o3 ⊢; omega,⟨rfl,rfl,rfl,congrArg (V.int .i64) wi,trivial⟩,rfl⟩
   · cases os with
     | nil=>simp at o3; omega
     | cons r0 os =>
       conv=>whnf
       rw [ltB_f (by omega)]
       conv=>whnf
       refine ⟨[4],false,?_⟩
       conv=>whnf
       obtain rfl:i3=8:=by omega
       refine ⟨rfl,?_⟩
       show [uO (wRows s.l),uO (r0::os)]=_
       rw [o2]
       rfl
end Go.Cod
set_option linter.all false
set_option linter.all false
namespace Go.Cod
open Go Go.Proofs
set_option maxRecDepth 10000
def bO (e:Bool) (rows:List (List V)):O:=⟨rows,1,true,e,false,.cell⟩
def outB:List UInt8→V
 | []=>.nils
 | _::_=>.own 2
def outBO:List UInt8→List O
 | []=>[]
 | r::rs=>[uO (cells (r::rs))]
def bytW (x:W32):List UInt8:=[UInt8.ofNat (x.toNat / 2 ^ 24),UInt8.ofNat (x.toNat / 2 ^ 16),UInt8.ofNat (x.toNat / 2 ^ 8),UInt8.ofNat x.toNat]
theorem cells_sub (p:List UInt8) (i:Nat):((cells p).take (i+64)).drop i=cells ((p.drop i).take 64):=by
 rw [cells,cells,List.drop_take,Nat.add_sub_cancel_left,List.map_take,List.map_drop]
theorem u8_shr (x:W32) (k:Nat):V.int .u8 (IntKind.u8.wrap ((x.toNat:Int).fdiv (2 ^ k)))=cellB (UInt8.ofNat (x.toNat / 2 ^ k)):=by
 rw [fdiv_two,u8_ofNat]
theorem take_flat {α:Type} (f:α→List UInt8) (l:List α) (i:Nat) (h:i < l.length):(l.take (i+1)).flatMap f=(l.take i).flatMap f++f l[i]:=by
 rw [List.take_succ_eq_append_getElem h,List.flatMap_append]
 simp
set_option maxHeartbeats 4000000 in
theorem l1Sum_pure (s:List UInt8) (hs:s.length≤1048576):Pure Tryd.prog 16 [.str s] (·=.str ((sumOf s).l.flatMap bytW)):=by
 have f1:=l1Padded_full s hs
 refine pure_of_awp good Tryd.func16 rfl (by kernel_rfl) (by decide) ?_
 conv=>whnf
 refine .inr (.inl ⟨[],false,?_⟩)
 conv=>whnf
 refine f1.mono ?_
 rintro o st' ⟨rfl,rfl⟩
 have hpm:=padB_len s
 have hpl:(padB s).length≤1048776:=by
  have:=tailB_len s.length
  rw [padB,List.length_append]
  omega
 have hrl:=cells_len (padB s)
 have hcl:=cells_sub (padB s)
 unfold sumOf
 generalize padB s=pb at *
 conv=>whnf
 refine loop_drop (fun n fr st=>∃ (i j:Nat) (e:Bool),i=64*j∧j+n=pb.length / 64∧Holds fr [(3,.own 0),(4,.own 1),(5,.int .i64 i)]∧st=[uO (wRows (blocks8 pb h0 j).l),bO e (cells pb)]) (pb.length / 64) none
  (by
    conv=>whnf
    exact ⟨0,0,true,rfl,by omega,⟨rfl,rfl,rfl,trivial⟩,by rw [blocks8_zero]; rfl⟩) ?_
 rintro n fr st ⟨i,j,e,j0,j1,hq,rfl⟩
 obtain ⟨fr,rfl⟩:=hq.split
 clear hq
 conv=>whnf
 by_cases hi:0 < n
 · rw [ltB_t (by show (i:Int) < ((cells pb).length:Int); omega)]
   have wi:IntKind.i64.wrap ((i:Int)+64)=((i+64:Nat):Int):=by rw [wrap64 (by omega) (by omega)]; rfl
   have hsub:((pb.drop i).take 64).length=64:=by rw [List.length_take,List.length_drop]; omega
   have f2:=l1Block_full (blocks8 pb h0 j) ((pb.drop i).take 64) hsub
   have hnx:=blocks8_succ j pb h0
   rw [← j0] at hnx
   rw [← hcl] at f2
   rw [← hnx] at f2
   generalize wRows (blocks8 pb h0 j).l=hh at *
   have hr1:∀ r∈cells pb,r.length=1:=fun r hr=>by obtain ⟨x,_,rfl⟩:=List.mem_map.1 hr; rfl
   generalize cells pb=rows at *
   conv=>whnf
   refine ⟨hr1,?_⟩
   conv=>whnf
   rw [wi]
   refine ⟨by omega,by show i+64≤rows.length; omega,?_⟩
   conv=>whnf
   refine ⟨by omega,by show i≤i+64; omega,?_⟩
   conv=>whnf
   refine ⟨[0],false,?_⟩
   conv=>whnf
   refine f2.mono ?_
   rintro o st' ⟨rfl,rfl⟩
   conv=>whnf
   refine ⟨n - 1,by omega,some [2,1],?_⟩
   conv=>whnf
   exact ⟨i+64,j+1,false,by omega,by omega,⟨rfl,rfl,congrArg (V.int .i64) wi,trivial⟩,rfl⟩
 · rw [ltB_f (by show ((cells pb).length:Int)≤(i:Int); omega)]
   obtain rfl:j=pb.length / 64:=by omega
   generalize blocks8 pb h0 (pb.length / 64)=S at *
   generalize cells pb=rows at *
   have hgl:∀ k,k < 8→∃ x:W32,(wRows S.l)[k]? = some [wV x]∧(S.l.take (k+1)).flatMap bytW=(S.l.take k).flatMap bytW++bytW x:=fun k hk=>⟨S.l.getD k 0,wrows_get hk,by
    have:=take_flat bytW S.l k hk
    rw [this,List.getD_eq_getElem?_getD,List.getElem?_eq_getElem (show k < S.l.length from hk)]
    rfl⟩
   have hall:S.l.take 8=S.l:=rfl
   have hz:(S.l.take 0).flatMap bytW=[]:=rfl
   generalize hhh:wRows S.l=hh at *
   generalize hL:S.l=L at *
   conv=>whnf
   refine loop_drop (fun n fr st=>∃ (i:Nat) (bs:List UInt8),i+n=8∧bs=(L.take i).flatMap bytW∧bs.length=4*i∧Holds fr [(3,.own 0),(6,outB bs),(7,.int .i64 i)]∧st=[uO hh,bO e rows]++outBO bs) 8 none
    (by
      conv=>whnf
      exact ⟨0,[],by omega,rfl,rfl,⟨rfl,rfl,rfl,trivial⟩,rfl⟩) ?_
   rintro n2 fr st ⟨i2,bs,q1,qb,q2,hq,rfl⟩
   obtain ⟨fr,rfl⟩:=hq.split
   clear hq
   by_cases h8:i2 < 8
   · obtain ⟨x,y,hx⟩:=hgl i2 h8
     have wi:IntKind.i64.wrap ((i2:Int)+1)=((i2+1:Nat):Int):=by rw [wrap64 (by omega) (by omega)]; rfl
     have e1:=u8_shr x 24
     have e2:=u8_shr x 16
     have e3:=u8_shr x 8
     have e4:V.int .u8 (IntKind.u8.wrap (x.toNat:Int))=cellB (UInt8.ofNat x.toNat):=u8_ofNat _
     cases bs with
     | nil =>
       conv=>whnf
       rw [ltB_t (by omega)]
       conv=>whnf
       refine ⟨by omega,hh,_,1,rfl,y,rfl,rfl,?_⟩
       conv=>whnf
       refine AtRow_intro _ y ?_
       conv=>whnf
       refine ⟨by decide,?_⟩
       conv=>whnf
       refine ⟨rfl,?_⟩
       conv=>whnf
       refine ⟨by omega,hh,_,1,rfl,y,rfl,rfl,?_⟩
       conv=>whnf
       refine AtRow_intro _ y ?_
       conv=>whnf
       refine ⟨by decide,?_⟩
       conv=>whnf
       refine ⟨rfl,?_⟩
       conv=>whnf
       refine ⟨by omega,hh,_,1,rfl,y,rfl,rfl,?_⟩
       conv=>whnf
       refine AtRow_intro _ y ?_
       conv=>whnf
       refine ⟨by decide,?_⟩
       conv=>whnf
       refine ⟨rfl,?_⟩
       conv=>whnf
       refine ⟨by omega,hh,_,1,rfl,y,rfl,rfl,?_⟩
       conv=>whnf
       refine AtRow_intro _ y ?_
       conv=>whnf
       refine ⟨rfl,?_⟩
       conv=>whnf
       refine ⟨fun m hm=>by
        change m∈[[_],[_],[_],[_]] at hm
        simp only [List.mem_cons,List.not_mem_nil,or_false] at hm
        rcases hm with rfl | rfl | rfl | rfl <;> rfl,?_⟩
       conv=>whnf
       refine ⟨by show 4*1≤_; omega,.inr ⟨(by intro e; cases e),?_⟩⟩
       conv=>whnf
       refine ⟨n2 - 1,by omega,some [0,1,3],?_⟩
       conv=>whnf
       refine ⟨i2+1,[]++bytW x,by omega,by rw [hx,← qb],by simp [bytW] at q2 ⊢; omega,⟨rfl,rfl,congrArg (V.int .i64) wi,trivial⟩,?_⟩
       show [uO hh,bO e rows,uO ([[.int .u8 (IntKind.u8.wrap ((x.toNat:Int).fdiv (2 ^ 24)))],[.int .u8 (IntKind.u8.wrap ((x.toNat:Int).fdiv (2 ^ 16)))],[.int .u8 (IntKind.u8.wrap ((x.toNat:Int).fdiv (2 ^ 8)))],[.int .u8 (IntKind.u8.wrap (x.toNat:Int))]])]=_
       rw [e1,e2,e3,e4]
       rfl
     | cons b bs =>
       conv=>whnf
       rw [ltB_t (by omega)]
       conv=>whnf
       refine ⟨by omega,hh,_,1,rfl,y,rfl,rfl,?_⟩
       conv=>whnf
       refine AtRow_intro _ y ?_
       conv=>whnf
       refine ⟨by decide,?_⟩
       conv=>whnf
       refine ⟨rfl,?_⟩
       conv=>whnf
       refine ⟨by omega,hh,_,1,rfl,y,rfl,rfl,?_⟩
       conv=>whnf
       refine AtRow_intro _ y ?_
       conv=>whnf
       refine ⟨by decide,?_⟩
       conv=>whnf
       refine ⟨rfl,?_⟩
       conv=>whnf
       refine ⟨by omega,hh,_,1,rfl,y,rfl,rfl,?_⟩
       conv=>whnf
       refine AtRow_intro _ y ?_
       conv=>whnf
       refine ⟨by decide,?_⟩
       conv=>whnf
       refine ⟨rfl,?_⟩
       conv=>whnf
       refine ⟨by omega,hh,_,1,rfl,y,rfl,rfl,?_⟩
       conv=>whnf
       refine AtRow_intro _ y ?_
       conv=>whnf
       refine ⟨rfl,?_⟩
       conv=>whnf
       refine ⟨fun m hm=>by
        change m∈[[_],[_],[_],[_]] at hm
        simp only [List.mem_cons,List.not_mem_nil,or_false] at hm
        rcases hm with rfl | rfl | rfl | rfl <;> rfl,?_⟩
       conv=>whnf
       refine ⟨by show ((cells (b::bs)).length+4)*1≤_; rw [cells,List.length_map]; omega,?_⟩
       conv=>whnf
       refine ⟨n2 - 1,by omega,some [0,1,4],?_⟩
       conv=>whnf
       refine ⟨i2+1,(b::bs)++bytW x,by omega,by rw [hx,← qb],by simp [bytW] at q2 ⊢; omega,⟨rfl,rfl,congrArg (V.int .i64) wi,trivial⟩,?_⟩
       show [uO hh,bO e rows,uO (cells (b::bs)++[[.int .u8 (IntKind.u8.wrap ((x.toNat:Int).fdiv (2 ^ 24)))],[.int .u8 (IntKind.u8.wrap ((x.toNat:Int).fdiv (2 ^ 16)))],[.int .u8 (IntKind.u8.wrap ((x.toNat:Int).fdiv (2 ^ 8)))],[.int .u8 (IntKind.u8.wrap (x.toNat:Int))]])]=_
       rw [e1,e2,e3,e4]
       simp [outBO,cells,bytW]
   · cases bs with
     | nil=>simp at q2; omega
     | cons b bs =>
       conv=>whnf
       rw [ltB_f (by omega)]
       conv=>whnf
       refine ⟨b::bs,rfl,?_⟩
       conv=>whnf
       obtain rfl:i2=8:=by omega
       rw [qb,hall]
def hexL:List UInt8:=[48,49,50,51,52,53,54,55,56,57,97,98,99,100,101,102]
theorem hexL_get (k:Nat) (h:k < 16):hexL[k]? = some (figB k):=by
 rw [figB,List.getD_eq_getElem?_getD]
 show hexL[k]? = some (hexL[k]?.getD 0)
 rw [List.getElem?_eq_getElem (show k < hexL.length from h)]
 rfl
def hex2 (b:UInt8):List UInt8:=[figB (b.toNat / 16),figB (b.toNat % 16)]
theorem hex_word (x:W32):(bytW x).flatMap hex2=figsW x:=by
 simp only [bytW,List.flatMap_cons,List.flatMap_nil,hex2,figsW,figN,UInt8.toNat_ofNat',List.nil_append,List.cons_append,List.append_assoc,List.append_nil]
 have:=x.isLt
 congr 1
 · congr 1; omega
 congr 1
 · congr 1; omega
 congr 1
 · congr 1; omega
 congr 1
 · congr 1; omega
 congr 1
 · congr 1; omega
 congr 1
 · congr 1; omega
 congr 1
 · congr 1; omega
 congr 1
 · congr 1; omega
def outH:List UInt8→V
 | []=>.nils
 | _::_=>.own 0
def outHO:List UInt8→List O
 | []=>[]
 | r::rs=>[uO (cells (r::rs))]
set_option maxHeartbeats 4000000 in
theorem l1Hex_pure (s:List UInt8) (hs:s.length=32):Pure Tryd.prog 15 [.str s] (·=.str (s.flatMap hex2)):=by
 refine pure_of_awp good Tryd.func15 rfl (by kernel_rfl) (by decide) ?_
 conv=>whnf
 refine loop_drop (fun n fr st=>∃ (i:Nat) (bs:List UInt8),n+i=32∧bs=(s.take i).flatMap hex2∧bs.length=2*i∧Holds fr [(0,.str s),(3,outH bs),(4,.int .i64 i)]∧st=outHO bs) 32 none
  (by
    conv=>whnf
    exact ⟨0,[],by omega,rfl,rfl,⟨rfl,rfl,rfl,trivial⟩,rfl⟩) ?_
 rintro n fr st ⟨i,bs,j1,jb,j2,hq,rfl⟩
 obtain ⟨fr,rfl⟩:=hq.split
 clear hq
 by_cases hi:i < 32
 · have hg:s[i]? = some s[i]:=List.getElem?_eq_getElem (by omega)
   have wi:IntKind.i64.wrap ((i:Int)+1)=((i+1:Nat):Int):=by rw [wrap64 (by omega) (by omega)]; rfl
   have hx:=take_flat hex2 s i (by omega)
   generalize s[i]=b at *
   have hb:b.toNat < 256:=b.toNat_lt
   have q1:IntKind.u8.wrap ((b.toNat:Int).tdiv 16)=((b.toNat / 16:Nat):Int):=by
    rw [Int.tdiv_eq_ediv_of_nonneg (by omega),IntKind.wrap_u8]; omega
   have q2:(b.toNat:Int).tmod 16=((b.toNat % 16:Nat):Int):=by rw [Int.tmod_eq_emod_of_nonneg (by omega)]; omega
   have p1:=hexL_get (b.toNat / 16) (by omega)
   have p2:=hexL_get (b.toNat % 16) (by omega)
   have hh2:hex2 b=[figB (b.toNat / 16),figB (b.toNat % 16)]:=rfl
   generalize figB (b.toNat / 16)=c1 at *
   generalize figB (b.toNat % 16)=c2 at *
   cases bs with
   | nil =>
     conv=>whnf
     rw [ltB_t (by omega)]
     conv=>whnf
     refine ⟨by omega,b,hg,?_⟩
     conv=>whnf
     refine ⟨by decide,?_⟩
     conv=>whnf
     rw [q1]
     refine ⟨by omega,c1,p1,?_⟩
     conv=>whnf
     refine ⟨by omega,b,hg,?_⟩
     conv=>whnf
     refine ⟨by decide,?_⟩
     conv=>whnf
     rw [q2]
     refine ⟨by omega,c2,p2,?_⟩
     conv=>whnf
     refine ⟨fun m hm=>by
      change m∈[[_],[_]] at hm
      simp only [List.mem_cons,List.not_mem_nil,or_false] at hm
      rcases hm with rfl | rfl <;> rfl,?_⟩
     conv=>whnf
     refine ⟨by show 2*1≤_; omega,.inr ⟨(by intro e; cases e),?_⟩⟩
     conv=>whnf
     refine ⟨n - 1,by omega,some [1],?_⟩
     conv=>whnf
     refine ⟨i+1,[]++[c1,c2],by omega,by rw [hx,← jb,hh2],by simp at j2 ⊢; omega,⟨rfl,rfl,congrArg (V.int .i64) wi,trivial⟩,?_⟩
     show [uO ([[cellB c1],[cellB c2]])]=_
     rfl
   | cons b0 bs =>
     conv=>whnf
     rw [ltB_t (by omega)]
     conv=>whnf
     refine ⟨by omega,b,hg,?_⟩
     conv=>whnf
     refine ⟨by decide,?_⟩
     conv=>whnf
     rw [q1]
     refine ⟨by omega,c1,p1,?_⟩
     conv=>whnf
     refine ⟨by omega,b,hg,?_⟩
     conv=>whnf
     refine ⟨by decide,?_⟩
     conv=>whnf
     rw [q2]
     refine ⟨by omega,c2,p2,?_⟩
     conv=>whnf
     refine ⟨fun m hm=>by
      change m∈[[_],[_]] at hm
      simp only [List.mem_cons,List.not_mem_nil,or_false] at hm
      rcases hm with rfl | rfl <;> rfl,?_⟩
     conv=>whnf
     refine ⟨by show ((cells (b0::bs)).length+2)*1≤_; rw [cells,List.length_map]; omega,?_⟩
     conv=>whnf
     refine ⟨n - 1,by omega,some [2],?_⟩
     conv=>whnf
     refine ⟨i+1,(b0::bs)++[c1,c2],by omega,by rw [hx,← jb,hh2],by simp at j2 ⊢; omega,⟨rfl,rfl,congrArg (V.int .i64) wi,trivial⟩,?_⟩
     show [uO (cells (b0::bs)++[[cellB c1],[cellB c2]])]=_
     simp [outHO,cells]
 · cases bs with
   | nil=>simp at j2; omega
   | cons b0 bs =>
     conv=>whnf
     rw [ltB_f (by omega)]
     conv=>whnf
     refine ⟨b0::bs,rfl,?_⟩
     conv=>whnf
     obtain rfl:i=32:=by omega
     rw [jb,List.take_of_length_le (by omega)]
theorem hash_len32 (s:List UInt8):((sumOf s).l.flatMap bytW).length=32:=by
 simp [H8.l,bytW]
theorem hashSum_pure (s:List UInt8) (hs:s.length≤1048576):Pure Tryd.prog 7 [.str s] (·=.str (hashB s)):=by
 have hf:((sumOf s).l.flatMap bytW).flatMap hex2=hashB s:=by
  rw [List.flatMap_assoc,hashB]
  congr 1
  funext x
  exact hex_word x
 refine pure_of_awp good Tryd.func7 rfl (by kernel_rfl) (by decide) ?_
 conv=>whnf
 refine .inl ((l1Sum_pure s hs).mono ?_)
 rintro r rfl
 conv=>whnf
 refine .inl ((l1Hex_pure _ (hash_len32 s)).mono ?_)
 rintro r rfl
 conv=>whnf
 rw [hf]
end Go.Cod
set_option linter.all false
set_option linter.all false
namespace Go.Cod
open Go Go.Proofs
set_option maxRecDepth 10000
theorem uturn:∀ n:Fin 32,0 < n.1→IntKind.u64.wrap ((BitVec.ofInt IntKind.u64.bits (IntKind.u64.wrap (-(n.1:Int))) &&& BitVec.ofInt IntKind.u64.bits 31).toNat:Int)=((32 - n.1:Nat):Int):=by decide
theorem rot_pure (x:W32) (k:Int) (n:Nat) (hk:k=-(n:Int)) (h0:0 < n) (h:n < 32):Pure Tryd.prog 23 [wV x,.int .i64 k] (·=wV (rotr x n)):=by
 subst hk
 have hu:=uturn ⟨n,h⟩ h0
 simp only at hu
 have hs:IntKind.u64.wrap (32 - ((32 - n:Nat):Int))=(n:Int):=by rw [IntKind.wrap_u64]; omega
 have e:∀ m:Nat,m≤32→min ((m:Int).toNat) IntKind.u32.bits=m:=fun m hm=>by
  rw [Int.toNat_natCast]; exact Nat.min_eq_left hm
 refine pure_of_awp good Tryd.func23 rfl (by kernel_rfl) (by decide) ?_
 conv=>whnf
 rw [hu]
 refine ⟨by omega,?_⟩
 conv=>whnf
 rw [hs]
 refine ⟨by omega,?_⟩
 conv=>whnf
 show V.int .u32 _=V.int .u32 _
 rw [e n (by omega),e (32 - n) (by omega),b_shr,b_shl,b_or,BitVec.or_comm]
 rfl
theorem tail_set (n k i:Nat) (h:i < 8):(cells (128::(List.replicate k 0++(List.replicate (8 - i) 0++cntB n i)))).set (k+8 - i) [cellB (UInt8.ofNat (n*8 / 2 ^ (8*i)))]=cells (128::(List.replicate k 0++(List.replicate (8 - (i+1)) 0++cntB n (i+1)))):=by
 obtain ⟨m,hm⟩:∃ m,8 - i=m+1:=⟨7 - i,by omega⟩
 have e1:8 - (i+1)=m:=by omega
 have e2:k+8 - i=(128::(List.replicate k 0++List.replicate m 0):List UInt8).length:=by simp; omega
 have e3:(128::(List.replicate k 0++(List.replicate (8 - i) 0++cntB n i)):List UInt8)=(128::(List.replicate k 0++List.replicate m 0))++0::cntB n i:=by
  rw [hm,List.replicate_succ']
  simp only [List.append_assoc,List.cons_append,List.nil_append]
 have e4:(128::(List.replicate k 0++(List.replicate (8 - (i+1)) 0++cntB n (i+1))):List UInt8)=(128::(List.replicate k 0++List.replicate m 0))++UInt8.ofNat (n*8 / 2 ^ (8*i))::cntB n i:=by
  rw [e1,cntB]
  simp only [List.append_assoc,List.cons_append]
 rw [e3,e4,e2]
 generalize (128::(List.replicate k 0++List.replicate m 0):List UInt8)=p
 rw [cells,cells,List.map_append,List.map_append,List.map_cons,List.map_cons,show p.length=(p.map fun b=>[cellB b]).length by simp,List.set_append_right _ _ (Nat.le_refl _),Nat.sub_self]
 rfl
set_option maxHeartbeats 1000000 in
theorem hashTail_pure (n:Nat) (hn:n≤1048576):Pure Tryd.prog 13 [.int .i64 n] (·=.str (tailB n)):=by
 obtain ⟨k,hk⟩:∃ k,k=63 - (n+8) % 64:=⟨_,rfl⟩
 have w1:IntKind.i64.wrap ((n:Int)+8)=((n+8:Nat):Int):=by rw [wrap64 (by omega) (by omega)]; rfl
 have w2:(((n+8:Nat):Int)).tmod 64=(((n+8) % 64:Nat):Int):=by rw [Int.tmod_eq_emod_of_nonneg (by omega)]; omega
 have w3:IntKind.i64.wrap (63 - (((n+8) % 64:Nat):Int))=(k:Int):=by rw [wrap64 (by omega) (by omega)]; omega
 have w4:IntKind.i64.wrap (1+(k:Int))=((1+k:Nat):Int):=by rw [wrap64 (by omega) (by omega)]; omega
 have w5:IntKind.i64.wrap (((1+k:Nat):Int)+8)=((1+k+8:Nat):Int):=by rw [wrap64 (by omega) (by omega)]; omega
 have w6:IntKind.u64.wrap (IntKind.u64.wrap (n:Int)*8)=((n*8:Nat):Int):=by rw [IntKind.wrap_u64,IntKind.wrap_u64]; omega
 refine pure_of_awp good Tryd.func13 rfl (by kernel_rfl) (by decide) ?_
 conv=>whnf
 refine ⟨by decide,?_⟩
 conv=>whnf
 rw [w1,w2,w3,w4,w5]
 refine ⟨by omega,by omega,?_,?_,?_⟩
 · show (1+k+8)*1≤_; omega
 · omega
 have hz:List.replicate (1+k+8) [V.int .u8 0]=cells (List.replicate (1+k+8) 0):=by
  rw [cells,List.map_replicate]
  rfl
 have hrow:(List.replicate (1+k+8) [V.int .u8 0])[0]? = some [V.int .u8 0]:=by
  rw [List.getElem?_replicate,if_pos (by omega)]
 have hset0:(List.replicate (1+k+8) [V.int .u8 0]).set 0 [.int .u8 128]=cells (128::(List.replicate k 0++(List.replicate (8 - 0) 0++cntB n 0))):=by
  rw [hz,show 1+k+8=(k+8)+1 by omega,List.replicate_succ,← List.replicate_append_replicate]
  simp [cells,cntB,cellB]
 have hm1:((1+k+8:Nat):Int).toNat=1+k+8:=Int.toNat_natCast _
 conv=>whnf
 rw [hm1]
 refine ⟨by omega,_,_,1,rfl,hrow,rfl,rfl,?_⟩
 conv=>whnf
 refine AtRow_intro _ hrow ?_
 conv=>whnf
 refine loop_drop (fun m fr st=>∃ i:Nat,i+m=8∧Holds fr [(4,.own 0),(5,.int .u64 ((n*8:Nat):Int)),(20,.int .i64 i)]∧st=[uO (cells (128::(List.replicate k 0++(List.replicate (8 - i) 0++cntB n i))))]) 8 none
  (by
    conv=>whnf
    refine ⟨0,rfl,⟨rfl,congrArg (V.int .u64) w6,rfl,trivial⟩,?_⟩
    rw [← hset0]
    rfl) ?_
 rintro m fr st ⟨i,j1,hq,rfl⟩
 obtain ⟨fr,rfl⟩:=hq.split
 clear hq
 conv=>whnf
 by_cases hi:i < 8
 · rw [ltB_t (by omega)]
   have hl:(cells (128::(List.replicate k 0++(List.replicate (8 - i) 0++cntB n i)))).length=k+9:=by
    rw [cells_len]
    simp [cntB_len]
    omega
   have hts:=tail_set n k i hi
   have hg:∃ c,(cells (128::(List.replicate k 0++(List.replicate (8 - i) 0++cntB n i))))[k+8 - i]? = some [cellB c]:=⟨_,cells_get (by rw [← cells_len,hl]; omega)⟩
   generalize cells (128::(List.replicate k 0++(List.replicate (8 - i) 0++cntB n i)))=rows at *
   obtain ⟨c,hg⟩:=hg
   have v1:IntKind.i64.wrap ((rows.length:Int) - 1)=((k+8:Nat):Int):=by rw [hl,wrap64 (by omega) (by omega)]; omega
   have v2:IntKind.i64.wrap (((k+8:Nat):Int) - (i:Int))=((k+8 - i:Nat):Int):=by rw [wrap64 (by omega) (by omega)]; omega
   have v3:IntKind.i64.wrap (8*(i:Int))=((8*i:Nat):Int):=by rw [wrap64 (by omega) (by omega)]; omega
   have v4:min ((8*i:Nat):Int).toNat IntKind.u64.bits=8*i:=by
    rw [Int.toNat_natCast]
    show min _ 64=_
    omega
   have v5:((k+8 - i:Nat):Int).toNat=k+8 - i:=Int.toNat_natCast _
   conv=>whnf
   rw [v3]
   refine ⟨by omega,?_⟩
   conv=>whnf
   rw [v1,v2]
   refine ⟨by omega,rows,_,1,rfl,hg,rfl,rfl,?_⟩
   conv=>whnf
   refine AtRow_intro _ hg ?_
   conv=>whnf
   refine ⟨m - 1,by omega,none,i+1,by omega,⟨rfl,rfl,?_,trivial⟩,?_⟩
   · show V.int .i64 (IntKind.i64.wrap ((i:Int)+1))=_
     rw [wrap64 (by omega) (by omega)]
     rfl
   · show [uO (rows.set (k+8 - i:Nat) [V.int .u8 (IntKind.u8.wrap (((n*8:Nat):Int).fdiv (2 ^ min ((8*i:Nat):Int).toNat IntKind.u64.bits)))])]=_
     rw [v4,fdiv_two,u8_ofNat,hts]
 · rw [ltB_f (by omega)]
   obtain rfl:i=8:=by omega
   conv=>whnf
   refine ⟨tailB n,?_,?_⟩
   · rw [tailB,← hk]; try rfl
   conv=>whnf
end Go.Cod
set_option linter.all false
set_option linter.all false
namespace Go.Cod
open Go Go.Proofs
set_option maxRecDepth 10000
def wCells (ws:List W32):List V:=ws.map wV
theorem wcells_len (ws:List W32):(wCells ws).length=ws.length:=List.length_map ..
def wkRow (s:H8) (c:List V):List V:=wV s.a::wV s.b::wV s.c::wV s.d::wV s.e::wV s.f::wV s.g::wV s.h::c
def wkO (s:H8) (c:List V):O:=⟨[wkRow s c],72,true,true,true,.cell⟩
theorem wk_get (s:H8) (c:List V) (k:Nat):(wkRow s c)[8+k]? = c[k]? := by
 rw [Nat.add_comm]; rfl
theorem wk_set (s:H8) (c:List V) (k:Nat) (v:V):(wkRow s c).set (8+k) v=wkRow s (c.set k v):=by
 rw [Nat.add_comm]; rfl
theorem wcells_clean (ws:List W32):V.clean.cleanL 0 (wCells ws)=true:=by
 induction ws with
 | nil=>rfl
 | cons w ws ih =>
   show (true&&V.clean.cleanL 0 (wCells ws))=true
   rw [ih]; rfl
theorem wk_clean (sel:List Nat) (s:H8) (ws:List W32):renV.go sel (wkRow s (wCells ws))=wkRow s (wCells ws) :=
 renL_clean sel _ (by
  show (true&&(true&&(true&&(true&&(true&&(true&&(true&&(true&&V.clean.cleanL 0 (wCells ws)))))))))=true
  rw [wcells_clean]; rfl)
theorem wk_last (sel:List Nat) (s:H8) (ws:List W32):[(⟨List.map (renV.go sel) [wkRow s (wCells ws)],72,true,true,true,.cell⟩:O)]=[wkO s (wCells ws)]:=by
 rw [List.map_cons,wk_clean]
 rfl
theorem wcells_int (ws:List W32):intRow (wCells ws):=fun x hx=>by
 obtain ⟨w,_,rfl⟩:=List.mem_map.1 hx
 rfl
theorem wk_int (s:H8) (ws:List W32):intRow (wkRow s (wCells ws)):=fun x hx=>by
 simp only [wkRow,List.mem_cons] at hx
 rcases hx with rfl | rfl | rfl | rfl | rfl | rfl | rfl | rfl | hx
 all_goals first | rfl | exact wcells_int ws x hx
set_option maxHeartbeats 4000000 in
theorem setWords_full (s:H8) (ws:List W32) (b:List UInt8) (hw:ws.length=64) (hb:b.length=64) :
  Full Tryd.prog noY 17 [.ptr 0 0 0,.str b] [wkO s (wCells ws)] fun o st'=>o=.ret (.tup [])∧st'=[wkO s (wCells (wordsN b 64))]:=by
 obtain ⟨wz,hwz⟩:∃ wz,wz=wordsN b 64:=⟨_,rfl⟩
 rw [← hwz]
 have hwN:∀ (a:Int) (b:Nat),a=(b:Int)→b≤1000→IntKind.i64.wrap a=(b:Int):=fun a b h1 h2=>by rw [h1,wrap64 (by omega) (by omega)]
 refine full_of_awp good Tryd.func17 rfl (by kernel_rfl) (by decide) ?_
 conv=>whnf
 refine ⟨by omega,by decide,?_⟩
 conv=>whnf
 refine loop_drop (fun n fr st=>∃ (i:Nat) (c:List V),n+i=16∧c.length=64∧c.take i=wCells (wordsN b i)∧Holds fr [(0,.ptr 0 0 0),(1,.str b),(4,.win 0 8 16 64),(17,.int .i64 16),(18,.int .i64 i)]∧st=[wkO s c]) 16 none
  (by
    conv=>whnf
    exact ⟨0,wCells ws,by omega,by rw [wcells_len]; exact hw,rfl,⟨rfl,rfl,rfl,rfl,rfl,trivial⟩,rfl⟩) ?_
 rintro n fr st ⟨i,c,j1,j2,j3,hh,rfl⟩
 obtain ⟨fr,rfl⟩:=hh.split
 clear hh
 conv=>whnf
 by_cases hi:i < 16
 · rw [ltB_t (by omega)]
   have w0:IntKind.i64.wrap (4*(i:Int))=((4*i:Nat):Int):=hwN _ _ (by omega) (by omega)
   have w1:IntKind.i64.wrap (((4*i:Nat):Int)+1)=((4*i+1:Nat):Int):=hwN _ _ (by omega) (by omega)
   have w2:IntKind.i64.wrap (((4*i:Nat):Int)+2)=((4*i+2:Nat):Int):=hwN _ _ (by omega) (by omega)
   have w3:IntKind.i64.wrap (((4*i:Nat):Int)+3)=((4*i+3:Nat):Int):=hwN _ _ (by omega) (by omega)
   have hg:∀ k:Nat,k < 64→b[k]? = some (b.getD k 0):=fun k hk=>by rw [List.getD_eq_getElem?_getD,List.getElem?_eq_getElem (by omega)]; rfl
   have g0:=hg (4*i) (by omega)
   have g1:=hg (4*i+1) (by omega)
   have g2:=hg (4*i+2) (by omega)
   have g3:=hg (4*i+3) (by omega)
   have hi':((i:Int)).toNat=i:=Int.toNat_natCast i
   have hrl:(wkRow s c).length=72:=by show c.length+1+1+1+1+1+1+1+1=72; omega
   conv=>whnf
   rw [w0]
   refine ⟨by omega,_,g0,?_⟩
   conv=>whnf
   refine ⟨rfl,?_⟩
   conv=>whnf
   refine ⟨by decide,?_⟩
   conv=>whnf
   rw [w1]
   refine ⟨by omega,_,g1,?_⟩
   conv=>whnf
   refine ⟨rfl,?_⟩
   conv=>whnf
   refine ⟨by decide,?_⟩
   conv=>whnf
   rw [w2]
   refine ⟨by omega,_,g2,?_⟩
   conv=>whnf
   refine ⟨rfl,?_⟩
   conv=>whnf
   refine ⟨by decide,?_⟩
   conv=>whnf
   rw [w3]
   refine ⟨by omega,_,g3,?_⟩
   conv=>whnf
   refine ⟨rfl,?_⟩
   conv=>whnf
   refine ⟨by omega,by omega,?_⟩
   conv=>whnf
   refine ⟨_,_,wkRow s (c.set i (wV (wordAt b i))),rfl,rfl,by rw [hrl,hi']; omega,?_,?_⟩
   · rw [hi',wk_set]
     refine congrArg (fun v=>wkRow s (c.set i v)) ?_
     conv=>rhs; whnf
     refine congrArg (V.int .u32) ?_
     simp only [b_u8,b_shl,b_or]
     rfl
   conv=>whnf
   refine ⟨n - 1,by omega,none,?_⟩
   conv=>whnf
   refine ⟨i+1,c.set i (wV (wordAt b i)),by omega,by rw [List.length_set]; exact j2,?_,⟨rfl,rfl,rfl,rfl,?_,trivial⟩,rfl⟩
   · rw [List.take_set,List.take_succ_eq_append_getElem (by omega:i < c.length),List.set_append_right _ _ (by rw [List.length_take]; omega),j3,wcells_len,wordsN_len,Nat.sub_self,wordsN,if_pos hi,wCells,wCells,List.map_append]
     rfl
   · show V.int .i64 (IntKind.i64.wrap ((i:Int)+1))=_
     rw [wrap64 (by omega) (by omega)]
     rfl
 · rw [ltB_f (by omega)]
   obtain rfl:i=16:=by omega
   conv=>whnf
   refine loop_drop (fun n fr st=>∃ (i:Nat) (c:List V),n+i=64∧16≤i∧c.length=64∧c.take i=wCells (wordsN b i)∧Holds fr [(0,.ptr 0 0 0),(7,.int .i64 i)]∧st=[wkO s c]) 48 none
    (by
      conv=>whnf
      exact ⟨16,c,by omega,by omega,j2,j3,⟨rfl,rfl,trivial⟩,rfl⟩) ?_
   clear j1 j2 j3 n c
   rintro n fr st ⟨i,c,j1,j0,j2,j3,hh,rfl⟩
   obtain ⟨fr,rfl⟩:=hh.split
   clear hh
   conv=>whnf
   by_cases hi:i < 64
   · rw [ltB_t (by omega)]
     have v0:IntKind.i64.wrap ((i:Int) - 15)=((i - 15:Nat):Int):=hwN _ _ (by omega) (by omega)
     have v1:IntKind.i64.wrap ((i:Int) - 2)=((i - 2:Nat):Int):=hwN _ _ (by omega) (by omega)
     have v2:IntKind.i64.wrap ((i:Int) - 16)=((i - 16:Nat):Int):=hwN _ _ (by omega) (by omega)
     have v3:IntKind.i64.wrap ((i:Int) - 7)=((i - 7:Nat):Int):=hwN _ _ (by omega) (by omega)
     have hn':∀ k:Nat,((k:Int)).toNat=k:=fun k=>Int.toNat_natCast k
     have hwl:=wordsN_len b i
     have hc:∀ k:Nat,k < i→(wkRow s c)[8+((k:Int)).toNat]? = some (wV ((wordsN b i).getD k 0)):=fun k hk=>by
      rw [hn',wk_get]
      have:(c.take i)[k]? = c[k]? := List.getElem?_take_of_lt hk
      rw [← this,j3,wCells,List.getElem?_map,List.getD_eq_getElem?_getD,List.getElem?_eq_getElem (by omega)]
      rfl
     have hrl:(wkRow s c).length=72:=by show c.length+1+1+1+1+1+1+1+1=72; omega
     have c0:=hc (i - 15) (by omega)
     have c1:=hc (i - 2) (by omega)
     have c2:=hc (i - 16) (by omega)
     have c3:=hc (i - 7) (by omega)
     conv=>whnf
     rw [v0]
     refine ⟨by omega,by omega,?_⟩
     conv=>whnf
     refine ⟨_,_,_,rfl,rfl,rfl,rfl,c0,?_⟩
     conv=>whnf
     rw [v1]
     refine ⟨by omega,by omega,?_⟩
     conv=>whnf
     refine ⟨_,_,_,rfl,rfl,rfl,rfl,c1,?_⟩
     conv=>whnf
     refine .inl ((rot_pure _ (-7) 7 rfl (by decide) (by decide)).mono ?_)
     rintro r rfl
     conv=>whnf
     refine .inl ((rot_pure _ (-18) 18 rfl (by decide) (by decide)).mono ?_)
     rintro r rfl
     conv=>whnf
     refine ⟨by decide,?_⟩
     conv=>whnf
     refine .inl ((rot_pure _ (-17) 17 rfl (by decide) (by decide)).mono ?_)
     rintro r rfl
     conv=>whnf
     refine .inl ((rot_pure _ (-19) 19 rfl (by decide) (by decide)).mono ?_)
     rintro r rfl
     conv=>whnf
     refine ⟨by decide,?_⟩
     conv=>whnf
     rw [v2]
     refine ⟨by omega,by omega,?_⟩
     conv=>whnf
     refine ⟨_,_,_,rfl,rfl,rfl,rfl,c2,?_⟩
     conv=>whnf
     rw [v3]
     refine ⟨by omega,by omega,?_⟩
     conv=>whnf
     refine ⟨_,_,_,rfl,rfl,rfl,rfl,c3,?_⟩
     conv=>whnf
     refine ⟨by omega,by omega,?_⟩
     conv=>whnf
     refine ⟨_,_,wkRow s (c.set i (wV (nextW (wordsN b i) i))),rfl,rfl,by rw [hrl,hn']; omega,?_,?_⟩
     · rw [hn',wk_set]
       refine congrArg (fun v=>wkRow s (c.set i v)) ?_
       conv=>rhs; whnf
       refine congrArg (V.int .u32) ?_
       simp only [b_shr,b_xor,b_add]
       rfl
     conv=>whnf
     refine ⟨n - 1,by omega,none,?_⟩
     conv=>whnf
     refine ⟨i+1,c.set i (wV (nextW (wordsN b i) i)),by omega,by omega,by rw [List.length_set]; exact j2,?_,⟨rfl,?_,trivial⟩,rfl⟩
     · rw [List.take_set,List.take_succ_eq_append_getElem (by omega:i < c.length),List.set_append_right _ _ (by rw [List.length_take]; omega),j3,wcells_len,wordsN_len,Nat.sub_self,wordsN,if_neg (by omega),wCells,wCells,List.map_append]
       rfl
     · show V.int .i64 (IntKind.i64.wrap ((i:Int)+1))=_
       rw [wrap64 (by omega) (by omega)]
       rfl
   · rw [ltB_f (by omega)]
     obtain rfl:i=64:=by omega
     have j4:c=wCells wz:=by
      rw [hwz,← j3,← j2,List.take_length]
     clear j3 hwz
     subst j4
     conv=>whnf
     refine ⟨[],false,?_⟩
     conv=>whnf
     exact ⟨rfl,wk_last [0] s wz⟩
end Go.Cod
set_option linter.all false
set_option linter.all false
namespace Go.Cod
open Go Go.Proofs
set_option maxRecDepth 100000
def bxO (s:H8):O:=⟨[s.l.map wV],8,true,true,true,.cell⟩
def addP (s t:H8) (i:Nat):H8:=⟨if 0 < i then s.a+t.a else s.a,if 1 < i then s.b+t.b else s.b,if 2 < i then s.c+t.c else s.c,if 3 < i then s.d+t.d else s.d,if 4 < i then s.e+t.e else s.e,if 5 < i then s.f+t.f else s.f,if 6 < i then s.g+t.g else s.g,if 7 < i then s.h+t.h else s.h⟩
theorem addP_get (s t:H8) (c:List V) (i:Nat) (h:i < 8):(wkRow (addP s t i) c)[i]? = some (wV (s.l.getD i 0)):=by
 match i,h with
 | 0,_=>rfl
 | 1,_=>rfl
 | 2,_=>rfl
 | 3,_=>rfl
 | 4,_=>rfl
 | 5,_=>rfl
 | 6,_=>rfl
 | 7,_=>rfl
theorem addP_set (s t:H8) (c:List V) (i:Nat) (h:i < 8):(wkRow (addP s t i) c).set i (wV (s.l.getD i 0+t.l.getD i 0))=wkRow (addP s t (i+1)) c:=by
 match i,h with
 | 0,_=>rfl
 | 1,_=>rfl
 | 2,_=>rfl
 | 3,_=>rfl
 | 4,_=>rfl
 | 5,_=>rfl
 | 6,_=>rfl
 | 7,_=>rfl
theorem hl_get (t:H8) (i:Nat) (h:i < 8):(t.l.map wV)[i]? = some (wV (t.l.getD i 0)):=by
 match i,h with
 | 0,_=>rfl
 | 1,_=>rfl
 | 2,_=>rfl
 | 3,_=>rfl
 | 4,_=>rfl
 | 5,_=>rfl
 | 6,_=>rfl
 | 7,_=>rfl
theorem wcells_get {ws:List W32} {i:Nat} (h:i < ws.length):(wCells ws)[i]? = some (wV (ws.getD i 0)):=by
 rw [wCells,List.getElem?_map,List.getD_eq_getElem?_getD,List.getElem?_eq_getElem h]
 rfl
set_option maxHeartbeats 8000000 in
theorem addRounds_full (s:H8) (w:List W32) (hw:w.length=64) :
  Full Tryd.prog noY 18 [.ptr 0 0 0] [wkO s (wCells w)] fun o st'=>o=.ret (.tup [])∧st'=[wkO (s.add (rounds w s 64)) (wCells w)]:=by
 have hkl:kL.length=64:=rfl
 have hK:(wCells kL).length=64:=rfl
 have hKg:∀ i,i < 64→(wCells kL)[i]? = some (wV (kL.getD i 0)):=fun i hi=>wcells_get (by omega)
 have hwg:∀ i,i < 64→(wCells w)[i]? = some (wV (w.getD i 0)):=fun i hi=>wcells_get (by omega)
 have hwk:=wk_clean
 have hwcl:=wcells_len w
 obtain ⟨KS,hKS⟩:∃ KS,KS=wCells kL:=⟨_,rfl⟩
 refine full_of_awp good Tryd.func18 rfl (by kernel_rfl) (by decide) ?_
 conv=>whnf
 refine loop_drop (fun n fr st=>∃ (i:Nat),n+i=64∧Holds fr [(0,.ptr 0 0 0),(2,.ptr 1 0 0),(16,.agg KS),(17,.int .i64 i)]∧st=[wkO s (wCells w),bxO (rounds w s i)]) 64 none
  (by
    conv=>whnf
    exact ⟨0,by omega,⟨rfl,rfl,by rw [hKS]; rfl,rfl,trivial⟩,by rw [rounds_zero]; rfl⟩) ?_
 rw [← hKS] at hKg
 clear hKS
 rintro n fr st ⟨i,j1,hh,rfl⟩
 obtain ⟨fr,rfl⟩:=hh.split
 clear hh
 by_cases hi:i < 64
 · have hr8:=rounds_succ w s i
   generalize rounds w s i=S at *
   have gk:=hKg i hi
   have gw:(wkRow s (wCells w))[8+((i:Int)).toNat]? = some (wV (w.getD i 0)):=by rw [Int.toNat_natCast,wk_get]; exact hwg i hi
   generalize kL.getD i 0=kk at *
   generalize w.getD i 0=ww at *
   generalize wCells w=wc at *
   conv=>whnf
   rw [ltB_t (by omega)]
   conv=>whnf
   refine ⟨by omega,by omega,_,gk,?_⟩
   conv=>whnf
   refine ⟨_,.inl (rot_pure S.e (-6) 6 rfl (by decide) (by decide)),?_⟩
   conv=>whnf
   refine ⟨_,.inl (rot_pure S.e (-11) 11 rfl (by decide) (by decide)),?_⟩
   conv=>whnf
   refine ⟨_,.inl (rot_pure S.e (-25) 25 rfl (by decide) (by decide)),?_⟩
   conv=>whnf
   refine ⟨by omega,by omega,?_⟩
   conv=>whnf
   refine ⟨_,_,_,rfl,rfl,rfl,rfl,gw,?_⟩
   conv=>whnf
   refine ⟨_,.inl (rot_pure S.a (-2) 2 rfl (by decide) (by decide)),?_⟩
   conv=>whnf
   refine ⟨_,.inl (rot_pure S.a (-13) 13 rfl (by decide) (by decide)),?_⟩
   conv=>whnf
   refine ⟨_,.inl (rot_pure S.a (-22) 22 rfl (by decide) (by decide)),?_⟩
   conv=>whnf
   refine ⟨n - 1,by omega,none,?_⟩
   conv=>whnf
   refine ⟨i+1,by omega,⟨rfl,rfl,rfl,?_,trivial⟩,?_⟩
   · show V.int .i64 (IntKind.i64.wrap ((i:Int)+1))=_
     rw [wrap64 (by omega) (by omega)]
     rfl
   · rw [hr8]
     show [(⟨[wkRow s wc],72,true,true,true,.cell⟩:O),⟨[[V.int .u32 _,wV S.a,wV S.b,wV S.c,V.int .u32 _,wV S.e,wV S.f,wV S.g]],8,true,true,true,.cell⟩]=_
     simp only [b_and,b_not,b_xor,b_add]
     rfl
 · obtain rfl:i=64:=by omega
   have haz:addP s (rounds w s 64) 0=s:=rfl
   have haf:addP s (rounds w s 64) 8=s.add (rounds w s 64):=rfl
   have hag:=fun i h=>addP_get s (rounds w s 64) (wCells w) i h
   have has:=fun i h=>addP_set s (rounds w s 64) (wCells w) i h
   rw [← haf]
   generalize rounds w s 64=t at *
   have htg:=hl_get t
   obtain ⟨wc,hwc⟩:∃ wc,wc=wCells w:=⟨_,rfl⟩
   conv=>whnf
   rw [ltB_f (by omega)]
   conv=>whnf
   refine loop_drop (fun n fr st=>∃ (i:Nat),n+i=8∧Holds fr [(0,.ptr 0 0 0),(110,.agg (t.l.map wV)),(111,.int .i64 i)]∧st=[wkO (addP s t i) (wCells w),bxO t]) 8 none
    (by
      conv=>whnf
      exact ⟨0,by omega,⟨rfl,rfl,rfl,trivial⟩,by rw [haz]; rfl⟩) ?_
   rintro n fr st ⟨i,k1,hh,rfl⟩
   obtain ⟨fr,rfl⟩:=hh.split
   clear hh
   by_cases h8:i < 8
   · have g1:=htg i h8
     have g2:(wkRow (addP s t i) (wCells w))[0+((i:Int)).toNat]? = some (wV (s.l.getD i 0)):=by rw [Int.toNat_natCast,Nat.zero_add]; exact hag i h8
     have g3:=has i h8
     have g4:(wkRow (addP s t i) (wCells w)).length=72:=by show (wCells w).length+1+1+1+1+1+1+1+1=72; omega
     generalize s.l.getD i 0=sx at *
     generalize t.l.getD i 0=tx at *
     generalize hR:addP s t (i+1)=R2 at *
     have hi':((i:Int)).toNat=i:=Int.toNat_natCast i
     conv=>whnf
     rw [ltB_t (by omega)]
     conv=>whnf
     refine ⟨by omega,by omega,_,g1,?_⟩
     conv=>whnf
     refine ⟨by omega,by omega,?_⟩
     conv=>whnf
     refine ⟨_,_,_,rfl,rfl,rfl,rfl,g2,?_⟩
     conv=>whnf
     refine ⟨by omega,by omega,?_⟩
     conv=>whnf
     refine ⟨_,_,wkRow R2 (wCells w),rfl,rfl,by rw [g4,hi']; omega,?_,?_⟩
     · rw [← g3,hi',Nat.zero_add]
       refine congrArg (fun v=>(wkRow (addP s t i) (wCells w)).set i v) ?_
       conv=>rhs; whnf
       refine congrArg (V.int .u32) ?_
       rw [b_add]
     conv=>whnf
     refine ⟨n - 1,by omega,none,?_⟩
     conv=>whnf
     refine ⟨i+1,by omega,⟨rfl,rfl,?_,trivial⟩,by rw [hR]; rfl⟩
     show V.int .i64 (IntKind.i64.wrap ((i:Int)+1))=_
     rw [wrap64 (by omega) (by omega)]
     rfl
   · rw [show i=8 by omega]
     conv=>whnf
     rw [ltB_f (by omega)]
     conv=>whnf
     refine ⟨[],false,?_⟩
     conv=>whnf
     exact ⟨rfl,wk_last [0] (addP s t 8) w⟩
end Go.Cod
set_option linter.all false
set_option linter.all false
namespace Go.Cod
open Go Go.Proofs
set_option maxRecDepth 100000
set_option maxHeartbeats 4000000 in
theorem addBlocks_full (s:H8) (ws:List W32) (hw:ws.length=64) (t:List UInt8) (m:Nat) (ht:t.length=64*m) (hm:m≤100000) :
  Full Tryd.prog noY 12 [.ptr 0 0 0,.str t] [wkO s (wCells ws)] fun o st'=>∃ ws':List W32,ws'.length=64∧o=.ret (.tup [])∧st'=[wkO (blocks8 t s m) (wCells ws')]:=by
 refine full_of_awp good Tryd.func12 rfl (by kernel_rfl) (by decide) ?_
 conv=>whnf
 refine loop_drop (fun n fr st=>∃ (i:Nat) (x:List UInt8) (w:List W32),i+n=m∧x=t.drop (64*i)∧w.length=64∧Holds fr [(0,.ptr 0 0 0),(1,.str x)]∧st=[wkO (blocks8 t s i) (wCells w)]) m none
  (by
    conv=>whnf
    exact ⟨0,t,ws,by omega,rfl,hw,⟨rfl,rfl,trivial⟩,by rw [blocks8_zero]⟩) ?_
 rintro n fr st ⟨i,x,w,j1,j2,j3,hh,rfl⟩
 obtain ⟨fr,rfl⟩:=hh.split
 clear hh
 have hxl:x.length=64*n:=by rw [j2,List.length_drop]; omega
 conv=>whnf
 by_cases hn:0 < n
 · rw [ltB_t (by show (0:Int) < (x.length:Int); omega)]
   have hb:(x.take 64).length=64:=by rw [List.length_take]; omega
   have f1:=setWords_full (blocks8 t s i) w (x.take 64) j3 hb
   have f2:=addRounds_full (blocks8 t s i) (wordsN (x.take 64) 64) (wordsN_len _ _)
   have hnx:=blocks8_succ i t s
   rw [block8_def,← j2] at hnx
   rw [← hnx] at f2
   have hwl:=wordsN_len (x.take 64) 64
   generalize wordsN (x.take 64) 64=w2 at *
   clear hnx
   generalize hS2:blocks8 t s (i+1)=S2 at *
   generalize blocks8 t s i=S1 at *
   conv=>whnf
   refine ⟨by omega,by show 64≤x.length; omega,?_⟩
   conv=>whnf
   refine ⟨[0],false,acall_ints (vs':=[.ptr 0 0 0,.str (x.take 64)]) (wk_int S1 w) rfl rfl rfl (f1.mono ?_)⟩
   rintro o st' ⟨rfl,rfl⟩
   refine ⟨_,_,rfl,rfl,wk_int S1 w2,rfl,?_⟩
   conv=>whnf
   refine ⟨[0],false,acall_ints (vs':=[.ptr 0 0 0]) (wk_int S1 w2) rfl rfl rfl (f2.mono ?_)⟩
   rintro o st' ⟨rfl,rfl⟩
   refine ⟨_,_,rfl,rfl,wk_int S2 w2,rfl,?_⟩
   conv=>whnf
   refine ⟨by omega,by show 64≤x.length; omega,?_⟩
   conv=>whnf
   refine ⟨n - 1,by omega,none,?_⟩
   conv=>whnf
   refine ⟨i+1,(x.take x.length).drop 64,w2,by omega,?_,hwl,⟨rfl,rfl,trivial⟩,by rw [hS2]; rfl⟩
   rw [List.take_length,j2,List.drop_drop]
   congr 1
 · rw [ltB_f (by show (x.length:Int)≤0; omega)]
   obtain rfl:i=m:=by omega
   generalize blocks8 t s i=S1 at *
   conv=>whnf
   refine ⟨[],false,?_⟩
   conv=>whnf
   exact ⟨w,j3,rfl,wk_last [0] S1 w⟩
end Go.Cod
set_option linter.all false
set_option linter.all false
namespace Go.Cod
open Go Go.Proofs Go.Shelf Go.RowKit
def layRen:Go.Shelf.Ren:=⟨fun | 167=>19 | 169=>20 | 240=>24 | 276=>28 | n=>n,fun | 3=>3 | 4=>4 | 5=>5 | 9=>9 | 20=>20 | 37=>22 | 70=>46 | 72=>48 | 75=>50 | 80=>41 | 127=>57 | 164=>60 | n=>n,fun n=>n⟩
theorem lay_Lays_n167:Lays.n167 Tryd.prog layRen:={
 mixed:=by kernel_rfl,
 f167:=Tryd.func19.trans (congrArg some (by kernel_rfl)),
 f240:=Tryd.func24.trans (congrArg some (by kernel_rfl)),
 f276:=Tryd.func28.trans (congrArg some (by kernel_rfl)),
 t0:=Tryd.underlying0,
 a0:=Tryd.isAgg0,
 z0:=Tryd.sizeOf0,
 v0:=Tryd.zeroValue0,
 t4:=Tryd.underlying4,
 a4:=Tryd.isAgg4,
 z4:=Tryd.sizeOf4,
 v4:=Tryd.zeroValue4,
 t5:=Tryd.underlying5,
 a5:=Tryd.isAgg5,
 z5:=Tryd.sizeOf5,
 v5:=Tryd.zeroValue5,
 t9:=Tryd.underlying9,
 a9:=Tryd.isAgg9,
 z9:=Tryd.sizeOf9,
 v9:=Tryd.zeroValue9,
 t20:=Tryd.underlying20,
 a20:=Tryd.isAgg20,
 z20:=Tryd.sizeOf20,
 v20:=Tryd.zeroValue20,
 t37:=Tryd.underlying22,
 a37:=Tryd.isAgg22,
 z37:=Tryd.sizeOf22,
 v37:=Tryd.zeroValue22,
 t70:=Tryd.underlying46,
 a70:=Tryd.isAgg46,
 z70:=Tryd.sizeOf46,
 v70:=Tryd.zeroValue46,
 t72:=Tryd.underlying48,
 a72:=Tryd.isAgg48,
 z72:=Tryd.sizeOf48,
 v72:=Tryd.zeroValue48,
 t75:=Tryd.underlying50,
 a75:=Tryd.isAgg50,
 z75:=Tryd.sizeOf50,
 v75:=Tryd.zeroValue50,
 t164:=Tryd.underlying60,
 a164:=Tryd.isAgg60,
 z164:=Tryd.sizeOf60,
 v164:=Tryd.zeroValue60 }
theorem lay_Lays_n169:Lays.n169 Tryd.prog layRen:={
 mixed:=by kernel_rfl,
 f169:=Tryd.func20.trans (congrArg some (by kernel_rfl)),
 t0:=Tryd.underlying0,
 a0:=Tryd.isAgg0,
 z0:=Tryd.sizeOf0,
 v0:=Tryd.zeroValue0,
 t3:=Tryd.underlying3,
 a3:=Tryd.isAgg3,
 z3:=Tryd.sizeOf3,
 v3:=Tryd.zeroValue3,
 t9:=Tryd.underlying9,
 a9:=Tryd.isAgg9,
 z9:=Tryd.sizeOf9,
 v9:=Tryd.zeroValue9,
 t37:=Tryd.underlying22,
 a37:=Tryd.isAgg22,
 z37:=Tryd.sizeOf22,
 v37:=Tryd.zeroValue22,
 t70:=Tryd.underlying46,
 a70:=Tryd.isAgg46,
 z70:=Tryd.sizeOf46,
 v70:=Tryd.zeroValue46,
 t72:=Tryd.underlying48,
 a72:=Tryd.isAgg48,
 z72:=Tryd.sizeOf48,
 v72:=Tryd.zeroValue48,
 t127:=Tryd.underlying57,
 a127:=Tryd.isAgg57,
 z127:=Tryd.sizeOf57,
 v127:=Tryd.zeroValue57 }
theorem layX:Builder.Extra Tryd.prog layRen:={
 sizeBuilder:=by kernel_rfl,
 liesBuilder:=by kernel_rfl,
 t5:=Tryd.underlying5,
 a5:=Tryd.isAgg5,
 z5:=Tryd.sizeOf5,
 v5:=Tryd.zeroValue5,
 infoByte:=by kernel_rfl,
 cellsByte:=by kernel_rfl,
 sizeByte:=by kernel_rfl,
 neB5:=by decide }
def Bld (B b:Nat) (l:List UInt8) (w:World):Prop:=Lib.IsBuilderF 48 5 B b (Lib.byteCells l) w
theorem bld_byte (B b:Nat) (l:List UInt8) (c:UInt8) (w:World) (h:Bld B b l w) (hlen:l.length+1≤140737488355328) (hB:B≤w.heap.size) :
  Calls Tryd.prog 19 #[.pointer (some ⟨b,0,none⟩),.int .u8 c.toNat] w fun e w'=>e=.returned .nilIface∧Bld B b (l++[c]) w'∧Below B w w':=by
 refine (Any.Builder_WriteByte_k lay_Lays_n167 layX B b (Lib.byteCells l) c.toNat w h (by rw [Lib.byteCells_length]; exact hlen) hB).mono ?_
 rintro e w' ⟨rfl,h1,h2,_⟩
 refine ⟨rfl,?_,h2⟩
 unfold Bld
 rw [Lib.byteCells_append]
 exact Or.inr h1
theorem bld_string (B b:Nat) (l:List UInt8) (w:World) (h:Bld B b l w) (hB:B≤w.heap.size) :
  Calls Tryd.prog 20 #[.pointer (some ⟨b,0,none⟩)] w fun e w'=>e=.returned (.string ⟨l.toArray⟩)∧Below B w w':=by
 refine (Any.Builder_String_any_k lay_Lays_n169 layX B b l w h hB).mono ?_
 rintro e w' ⟨rfl,_,h2,_⟩
 exact ⟨rfl,h2⟩
theorem bld_fresh (w:World):Bld w.heap.size w.heap.size [] (w.alloc (.cells #[.pointer none,.slice none 0 0] 48)):=Lib.IsBuilderF.of (Lib.fresh_isBuilder _ _ w)
end Go.Cod
set_option linter.all false
set_option linter.all false
namespace Go.Cod
open Go Go.Proofs Go.Shelf Go.RowKit
theorem bits_fig (x:W32) (m:Nat):bits BinOp.and IntKind.u32 ((x.toNat:Int) / 2 ^ m) 15=((x.toNat / 2 ^ m % 16:Nat):Int):=by
 have h1:=b_shr x m
 rw [Int.fdiv_eq_ediv_of_nonneg _ (Int.pow_nonneg (by decide))] at h1
 rw [h1]
 have h2:=b_and (x >>> m) 15
 have h3:((x >>> m &&& 15).toNat:Int)=((x.toNat / 2 ^ m % 16:Nat):Int):=by
  rw [BitVec.toNat_and,BitVec.toNat_ushiftRight,Nat.shiftRight_eq_div_pow]
  exact congrArg Nat.cast (Nat.and_two_pow_sub_one_eq_mod _ 4)
 rw [← h3,← h2]
 rfl
theorem fig_get0 (n:Nat) (h16:n < 16) (h:n < (⟨#[48,49,50,51,52,53,54,55,56,57,97,98,99,100,101,102]⟩:ByteArray).size):(⟨#[48,49,50,51,52,53,54,55,56,57,97,98,99,100,101,102]⟩:ByteArray)[n]=figB n:=by
 match n,h16,h with
 | 0,_,_=>rfl
 | 1,_,_=>rfl
 | 2,_,_=>rfl
 | 3,_,_=>rfl
 | 4,_,_=>rfl
 | 5,_,_=>rfl
 | 6,_,_=>rfl
 | 7,_,_=>rfl
 | 8,_,_=>rfl
 | 9,_,_=>rfl
 | 10,_,_=>rfl
 | 11,_,_=>rfl
 | 12,_,_=>rfl
 | 13,_,_=>rfl
 | 14,_,_=>rfl
 | 15,_,_=>rfl
 | n+16,h,_=>exact absurd h (by omega)
theorem fig_get (n:Nat) (h:n < (⟨#[48,49,50,51,52,53,54,55,56,57,97,98,99,100,101,102]⟩:ByteArray).size):(⟨#[48,49,50,51,52,53,54,55,56,57,97,98,99,100,101,102]⟩:ByteArray)[n]=figB n:=fig_get0 n h h
theorem int_fig (a m:Nat):((a:Int) / 2 ^ m % 16).toNat=a / 2 ^ m % 16:=by
 rw [show ((2:Int) ^ m)=((2 ^ m:Nat):Int) by rw [Int.natCast_pow]; rfl,← Int.natCast_ediv]
 omega
theorem index8 (A:Array Value) (k:Nat) (v:Value) (w:World) (h:A[k]? = some v) (hk:k < 8):(Instr.index 35 (.agg A) (.int .i64 k)).run Tryd.prog w=.ok v w:=by
 have h2:(k:Int) < 8:=by omega
 simp [Instr.index,asIntOf,run_underlying Tryd.underlying35,h2,part,Tryd.isAgg34,Tryd.sizeOf34,h]
 omega
set_option maxHeartbeats 800000 in
set_option maxRecDepth 1000000 in
theorem figures_walk (w:World) (b:Nat) (L:List W32) (hL:L.length=8) (x0 x1 x2 x3 x4 x5 x6 x7:W32) (hb:b < w.heap.size)
  (hx:∀ k (h:k < L.length),(#[.int .u32 x0.toNat,.int .u32 x1.toNat,.int .u32 x2.toNat,.int .u32 x3.toNat,.int .u32 x4.toNat,.int .u32 x5.toNat,.int .u32 x6.toNat,.int .u32 x7.toNat]:Array Value)[k]? = some (.int .u32 (L[k].toNat:Int)))
  (h0:w.cell? ⟨b,0,none⟩=some (.int .u32 x0.toNat)) (h1:w.cell? ⟨b,1,none⟩=some (.int .u32 x1.toNat)) (h2:w.cell? ⟨b,2,none⟩=some (.int .u32 x2.toNat)) (h3:w.cell? ⟨b,3,none⟩=some (.int .u32 x3.toNat))
  (h4:w.cell? ⟨b,4,none⟩=some (.int .u32 x4.toNat)) (h5:w.cell? ⟨b,5,none⟩=some (.int .u32 x5.toNat)) (h6:w.cell? ⟨b,6,none⟩=some (.int .u32 x6.toNat)) (h7:w.cell? ⟨b,7,none⟩=some (.int .u32 x7.toNat)) :
  Calls Tryd.prog 14 #[.pointer (some ⟨b,0,none⟩)] w fun e w'=>e=.returned (.string ⟨(L.flatMap figsW).toArray⟩)∧Below w.heap.size w w':=by
 have hbA:Below w.heap.size w (w.alloc (.cells #[.pointer none,.slice none 0 0] 48)):=(Below.refl _ w).alloc (Nat.le_refl _) _
 have hbld:=bld_fresh w
 have cc:∀ n,(w.alloc (.cells #[.pointer none,.slice none 0 0] 48)).cell? ⟨b,n,none⟩=w.cell? ⟨b,n,none⟩:=fun n=>cell_of_heap (hbA.block b hb)
 have g0:=(cc _).trans h0
 have g1:=(cc _).trans h1
 have g2:=(cc _).trans h2
 have g3:=(cc _).trans h3
 have g4:=(cc _).trans h4
 have g5:=(cc _).trans h5
 have g6:=(cc _).trans h6
 have g7:=(cc _).trans h7
 clear cc
 go_enter Tryd.func14,Tryd.ntmps14
 go_wp2
 go_loopw [11] (fun iv wr=>∃ k:Nat,k≤8∧iv=.int .i64 k∧Bld w.heap.size w.heap.size ((L.take k).flatMap figsW) wr∧Below w.heap.size w wr) (fun iv _=>8 - (intOf iv).toNat)
 case atStart=>exact ⟨0,Nat.zero_le _,rfl,hbld,hbA⟩
 case round =>
  obtain ⟨k,hk,rfl,hI,hbR⟩:=hrel
  by_cases hp:k < 8
  · have hix:=hx k (by omega)
    have htk:=take_flat figsW L k (by omega)
    generalize L[k]=x at *
    have hks:(k:Int) < 8:=by omega
    clear h0 h1 h2 h3 h4 h5 h6 h7 g0 g1 g2 g3 g4 g5 g6 g7
    go_wp2
    rw [index8 _ k _ wr hix hp]
    simp only [Result.andThen]
    rw [Oper.upon_value]
    go_wp2
    go_loopw [6] (fun iv wj=>∃ (j:Nat) (z:Int),j≤8∧z=28 - 4*(j:Int)∧iv=.int .i64 z∧Bld w.heap.size w.heap.size ((L.take k).flatMap figsW++figN x j) wj∧Below w.heap.size w wj) (fun iv _=>(intOf iv+4).toNat)
    case atStart=>exact ⟨0,28,by omega,rfl,rfl,by rw [figN,List.append_nil]; exact hI,hbR⟩
    case round =>
     obtain ⟨j,z,hj,hz,rfl,hI2,hb2⟩:=hrel
     by_cases hq:j < 8
     · have hz0:0≤z:=by omega
       have hbt:=bits_fig x (28 - 4*j)
       have hlt:x.toNat / 2 ^ (28 - 4*j) % 16 < 16:=Nat.mod_lt _ (by decide)
       have hq2:((L.take k).flatMap figsW++figN x j).length+1≤140737488355328:=by
        have h1:∀ l:List W32,(l.flatMap figsW).length=8*l.length:=by
         intro l
         induction l with
         | nil=>rfl
         | cons y l ih=>rw [List.flatMap_cons,List.length_append,ih,List.length_cons]; simp [figsW,figN]; omega
        have h2:∀ m,(figN x m).length=m:=by
         intro m
         induction m with
         | zero=>rfl
         | succ m ih=>simp [figN,ih]
        rw [List.length_append,h1,h2,List.length_take]
        omega
       go_wp2_with (go_at_call 19; refine (bld_byte w.heap.size w.heap.size _ _ _ hI2 hq2 hb2.size).mono ?_; rintro e w5 ⟨rfl,hI5,b5⟩; refine Hid.out ?_)
       refine Lib.hid ?_
       go_wp2
       go_roundw
       case rel =>
        refine ⟨j+1,z - 4,by omega,by omega,by go_num,?_,hb2.trans b5⟩
        rw [fig_get,int_fig] at hI5
        rw [figN,← List.append_assoc]
        exact hI5
       case measure=>simp [intOf]; omega
     · have hz0:z < 0:=by omega
       go_wp2
       go_roundw
       case rel =>
        refine ⟨k+1,by omega,by go_num,?_,hb2⟩
        rw [htk]
        obtain rfl:j=8:=by omega
        exact hI2
       case measure=>simp [intOf]; omega
  · have hks:¬ (k:Int) < 8:=by omega
    go_wp2_with (go_at_call 20; refine (bld_string w.heap.size w.heap.size _ _ hI hbR.size).mono ?_; rintro e w5 ⟨rfl,b5⟩; refine Hid.out ?_)
    refine Lib.hid ?_
    go_wp2
    go_ret
    refine ⟨?_,hbR.trans b5⟩
    rw [List.take_of_length_le (by omega)]
    rfl
end Go.Cod
set_option linter.all false
set_option linter.all false
namespace Go.Cod
open Go Go.Proofs Go.RowKit
set_option maxRecDepth 100000
theorem figures_full (s:H8) (ws:List W32):Full Tryd.prog noY 14 [.ptr 0 0 0] [wkO s (wCells ws)] fun o st'=>∃ r:List UInt8,r=s.l.flatMap figsW∧o=.ret (.str r)∧st'=[wkO s (wCells ws)]:=by
 refine full_of_below ⟨_,Tryd.func14,by kernel_rfl,by kernel_rfl⟩ fun Pr γ w cargs hr hst=>⟨.str (s.l.flatMap figsW),.string ⟨(s.l.flatMap figsW).toArray⟩,⟨_,rfl,rfl,rfl⟩,fun _=>.str _,?_⟩
 match cargs,hr with
 | [c],hr =>
   have h0:=hr.2 0 _ c rfl rfl
   cases h0 with
   | ptr hg =>
   rename_i g
   have H:=hst.obj 0 _ g rfl hg rfl
   obtain ⟨cur,f,⟨r1,_⟩,r2,r3⟩:=H.row
   have hc:=H.cells (i:=0) (e:=wkRow s (wCells ws)) rfl
   have hk:∀ (j:Nat) (x:W32),(wkRow s (wCells ws))[j]? = some (wV x)→w.cell? ⟨g.blk,j,none⟩=some (.int .u32 x.toNat):=fun j x hx=>by
    obtain ⟨u,hu,hr⟩:=hc j _ hx
    cases hr
    rw [Nat.zero_mul,Nat.zero_add] at hu
    exact hu
   rw [Nat.zero_mul,Nat.zero_add]
   refine figures_walk w g.blk s.l rfl s.a s.b s.c s.d s.e s.f s.g s.h (Array.getElem?_eq_some_iff.1 r1).1 ?_ (hk 0 _ rfl) (hk 1 _ rfl) (hk 2 _ rfl) (hk 3 _ rfl) (hk 4 _ rfl) (hk 5 _ rfl) (hk 6 _ rfl) (hk 7 _ rfl)
   intro k hk
   have hk:k < 8:=hk
   match k,hk with
   | 0,_=>rfl
   | 1,_=>rfl
   | 2,_=>rfl
   | 3,_=>rfl
   | 4,_=>rfl
   | 5,_=>rfl
   | 6,_=>rfl
   | 7,_=>rfl
theorem sum_split (s:List UInt8) (p:Nat) (hp:p=64*(s.length / 64)) (m2:Nat) (h2:(s.drop p++tailB s.length).length=64*m2):blocks8 (s.drop p++tailB s.length) (blocks8 (s.take p) h0 (s.length / 64)) m2=sumOf s:=by
 have hl:(padB s).length=64*(s.length / 64+m2):=by
  rw [padB,List.length_append]
  rw [List.length_append,List.length_drop] at h2
  omega
 have e1:(padB s).length / 64=s.length / 64+m2:=by omega
 unfold sumOf
 rw [e1,blocks8_add]
 have e2:(padB s).drop (64*(s.length / 64))=s.drop p++tailB s.length:=by
  rw [padB,List.drop_append_of_le_length (by omega),hp]
 have e3:blocks8 (padB s) h0 (s.length / 64)=blocks8 (s.take p) h0 (s.length / 64):=by
  refine blocks8_take _ _ _ _ ?_
  rw [padB,List.take_append_of_le_length (by omega),hp,List.take_take,Nat.min_self]
 rw [e2,e3]
set_option maxHeartbeats 4000000 in
theorem hashSum_impl (s:List UInt8) (hs:s.length≤1048576):Pure Tryd.prog 6 [.str s] (·=.str (hashB s)):=by
 obtain ⟨p,hp⟩:∃ p,p=64*(s.length / 64):=⟨_,rfl⟩
 have v1:((s.length:Int)).tmod 64=((s.length % 64:Nat):Int):=by rw [Int.tmod_eq_emod_of_nonneg (by omega)]; omega
 have v2:IntKind.i64.wrap ((s.length:Int) - ((s.length % 64:Nat):Int))=(p:Int):=by rw [wrap64 (by omega) (by omega)]; omega
 obtain ⟨z,hz⟩:∃ z:List W32,z=List.replicate 64 0:=⟨_,rfl⟩
 have hzl:z.length=64:=by rw [hz]; rfl
 refine pure_of_awp good Tryd.func6 rfl (by kernel_rfl) (by decide) ?_
 conv=>whnf
 refine ⟨by decide,?_⟩
 conv=>whnf
 rw [v1,v2]
 refine ⟨by omega,by show p≤s.length; omega,?_⟩
 conv=>whnf
 have f1:=addBlocks_full h0 z hzl (s.take p) (s.length / 64) (by rw [List.length_take]; omega) (by omega)
 have hzi:=wk_int h0 z
 have hrow:wkRow h0 (wCells z)=wkRow h0 (wCells (List.replicate 64 0)):=by rw [hz]
 rw [hrow] at hzi
 have hb0:wkO h0 (wCells z)=boxI (wkRow h0 (wCells (List.replicate 64 0))) 72:=by rw [hz]; rfl
 rw [hb0] at f1
 clear hrow hb0 hz
 refine ⟨[0],false,acall_ints (row:=wkRow h0 (wCells (List.replicate 64 0))) (wid:=72) (vs':=[.ptr 0 0 0,.str (s.take p)]) hzi rfl rfl rfl (f1.mono ?_)⟩
 rintro o st' ⟨w1,hw1,rfl,rfl⟩
 refine ⟨_,_,rfl,rfl,wk_int _ w1,rfl,?_⟩
 generalize hS1:blocks8 (s.take p) h0 (s.length / 64)=S1 at *
 conv=>whnf
 refine ⟨by omega,by show p≤s.length; omega,rfl,?_⟩
 have htl:=tailB_len s.length
 have ht:=hashTail_pure s.length hs
 have hsp:=sum_split s p hp
 rw [hS1] at hsp
 have hsl:hashB s=(sumOf s).l.flatMap figsW:=rfl
 rw [hsl]
 clear hsl
 generalize sumOf s=S2 at *
 generalize tailB s.length=tl at *
 have hdl:(List.drop p (List.take s.length s))=s.drop p:=by rw [List.take_length]
 have hdl2:(s.drop p).length=s.length - p:=List.length_drop
 conv=>whnf
 refine ⟨_,.inl ht,?_⟩
 conv=>whnf
 refine ⟨by show (List.drop p (List.take s.length s)).length+tl.length≤_; rw [hdl]; omega,?_⟩
 conv=>whnf
 obtain ⟨m2,hm2,hm3⟩:∃ m2,(s.drop p++tl).length=64*m2∧m2≤2:=⟨(s.length - p+tl.length) / 64,by rw [List.length_append,hdl2]; omega,by omega⟩
 have hsp2:=hsp m2 hm2
 rw [← hdl] at hsp2 hm2
 have f2:=addBlocks_full S1 w1 hw1 (List.drop p (List.take s.length s)++tl) m2 hm2 (by omega)
 rw [hsp2] at f2
 refine ⟨[0],false,acall_ints (vs':=[.ptr 0 0 0,.str (List.drop p (List.take s.length s)++tl)]) (wk_int S1 w1) rfl rfl rfl (f2.mono ?_)⟩
 rintro o st' ⟨w2,hw2,rfl,rfl⟩
 refine ⟨_,_,rfl,rfl,wk_int _ w2,rfl,?_⟩
 clear f2 hsp2 hsp f1
 conv=>whnf
 refine ⟨[0],false,acall_ints (vs':=[.ptr 0 0 0]) (wk_int S2 w2) rfl rfl rfl ((figures_full S2 w2).mono ?_)⟩
 rintro o st' ⟨r,hr,rfl,rfl⟩
 rw [← hr]
 refine ⟨_,_,rfl,rfl,wk_int _ w2,rfl,?_⟩
 conv=>whnf
end Go.Cod
set_option linter.all false
namespace Go.Cod
open Go Go.Proofs
set_option maxRecDepth 10000
def brows (bs:List UInt8):List (List V):=bs.map fun b=>[cellB b]
theorem brows_len (bs:List UInt8):(brows bs).length=bs.length:=by simp [brows]
theorem brows_get (bs:List UInt8) (i:Nat) (h:i < bs.length):(brows bs)[i]? = some [cellB bs[i]]:=by simp [brows,h]
def rdO (bs:List UInt8) (p:Int):O:=⟨[[.sl (brows bs),.int .i64 p]],2,true,true,true,.cell⟩
theorem tmod_in {a n:Int} (h0:0≤a) (hn:1≤n):0≤a.tmod n∧a.tmod n < n:=by
 rw [Int.tmod_eq_emod_of_nonneg h0]
 exact ⟨Int.emod_nonneg _ (by omega),Int.emod_lt_of_pos _ (by omega)⟩
theorem xor_in {a b:Int} (ha:0≤a∧a < 4611686018427387904) (hb:0≤b∧b < 4611686018427387904):∃ m:Int,0≤m∧IntKind.i64.wrap (BitVec.ofInt IntKind.i64.bits a ^^^ BitVec.ofInt IntKind.i64.bits b).toNat=m:=by
 refine ⟨_,?_,rfl⟩
 have e:(BitVec.ofInt IntKind.i64.bits a ^^^ BitVec.ofInt IntKind.i64.bits b).toNat < 2 ^ 62:=by
  show (BitVec.ofInt 64 a ^^^ BitVec.ofInt 64 b).toNat < 2 ^ 62
  rw [BitVec.toNat_xor,BitVec.toNat_ofInt,BitVec.toNat_ofInt]
  refine Nat.xor_lt_two_pow ?_ ?_ <;> omega
 rw [wrap64 (by omega) (by have:(2:Nat)^62=4611686018427387904:=rfl; omega)]
 omega
theorem pick_full (bs:List UInt8) (p n:Int) (hb:bs.length≤2000) (h0:0≤p) (h1:p≤1073741824) :
  Full Tryd.prog noY 11 [.ptr 0 0 0,.int .i64 n] [rdO bs p] fun o st'=>∃ m:Int,0≤m∧(1≤n→m < n)∧o=.ret (.int .i64 m)∧st'=[rdO bs (p+1)]:=by
 have hl:=brows_len bs
 have w1:IntKind.i64.wrap (p+1)=p+1:=wrap64 (by omega) (by omega)
 have w2:IntKind.i64.wrap (p+1 - 1)=p:=by rw [wrap64 (by omega) (by omega)]; omega
 have g0:∀ i:Nat,i < bs.length→(brows bs)[i]? = some [cellB bs[i]!]:=fun i hi=>by rw [brows_get bs i hi,getElem!_pos bs i hi]
 generalize hrows:brows bs=rows at *
 refine full_of_awp good Tryd.func11 rfl (by kernel_rfl) (by decide) ?_
 unfold rdO
 rw [hrows]
 conv=>whnf
 rw [w1]
 conv=>whnf
 by_cases a1:n < 1
 · rw [ltB_t (by omega)]
   conv=>whnf
   refine ⟨[],false,?_⟩
   conv=>whnf
   exact ⟨0,by omega,fun h=>by omega,rfl,rfl⟩
 rw [ltB_f (by omega)]
 conv=>whnf
 by_cases a2:(rows.length:Int)=0
 · rw [eqB_t a2]
   conv=>whnf
   refine ⟨[],false,?_⟩
   conv=>whnf
   exact ⟨0,by omega,fun h=>by omega,rfl,rfl⟩
 rw [eqB_f a2]
 conv=>whnf
 rw [w2]
 conv=>whnf
 by_cases a3:p < (rows.length:Int)
 · rw [ltB_t a3]
   conv=>whnf
   refine ⟨h0,rows,_,1,rfl,g0 p.toNat (by omega),rfl,rfl,?_⟩
   conv=>whnf
   refine ⟨by omega,?_⟩
   conv=>whnf
   refine ⟨[],false,?_⟩
   conv=>whnf
   have hc:IntKind.i64.wrap ((bs[p.toNat]!).toNat:Int)=((bs[p.toNat]!).toNat:Int):=wrap64 (by omega) (by have:=(bs[p.toNat]!).toNat_lt; omega)
   refine ⟨_,?_,?_,rfl,rfl⟩
   · rw [hc]; exact (tmod_in (by omega) (by omega)).1
   · intro _; rw [hc]; exact (tmod_in (by omega) (by omega)).2
 rw [ltB_f (by omega)]
 conv=>whnf
 have hL:1≤(rows.length:Int):=by omega
 refine ⟨by omega,?_⟩
 conv=>whnf
 have i1:=tmod_in (a:=p) (n:=rows.length) h0 hL
 refine ⟨i1.1,rows,_,1,rfl,g0 (p.tmod rows.length).toNat (by omega),rfl,rfl,?_⟩
 conv=>whnf
 refine ⟨rfl,?_⟩
 conv=>whnf
 have w3:IntKind.i64.wrap (IntKind.i64.wrap (p*7)+3)=p*7+3:=by rw [wrap64 (a:=p*7) (by omega) (by omega),wrap64 (by omega) (by omega)]
 rw [w3]
 refine ⟨by omega,?_⟩
 conv=>whnf
 have i2:=tmod_in (a:=p*7+3) (n:=rows.length) (by omega) hL
 refine ⟨i2.1,rows,_,1,rfl,g0 ((p*7+3).tmod rows.length).toNat (by omega),rfl,rfl,?_⟩
 conv=>whnf
 refine ⟨rfl,?_⟩
 conv=>whnf
 refine ⟨by omega,?_⟩
 have c1:=(bs[(p.tmod rows.length).toNat]!).toNat_lt
 have c2:=(bs[((p*7+3).tmod rows.length).toNat]!).toNat_lt
 generalize bs[(p.tmod rows.length).toNat]! = d1 at *
 generalize bs[((p*7+3).tmod rows.length).toNat]! = d2 at *
 have q1:0≤p.tdiv rows.length∧p.tdiv rows.length≤p:=by
  rw [Int.tdiv_eq_ediv_of_nonneg h0]
  exact ⟨Int.ediv_nonneg h0 (by omega),Int.ediv_le_self _ h0⟩
 generalize p.tdiv rows.length=q at *
 obtain ⟨x,⟨hx0,hx1⟩,hx⟩:∃ x:Int,(0≤x∧x < 4611686018427387904)∧IntKind.i64.wrap (IntKind.i64.wrap (IntKind.i64.wrap (IntKind.i64.wrap (IntKind.i64.wrap (d1.toNat:Int)*131)+IntKind.i64.wrap (IntKind.i64.wrap (d2.toNat:Int)*1117))+IntKind.i64.wrap (p*29))+IntKind.i64.wrap (IntKind.i64.wrap q*53))=x:=by
  rw [wrap64 (a:=(d1.toNat:Int)) (by omega) (by omega),wrap64 (a:=(d2.toNat:Int)) (by omega) (by omega),wrap64 (a:=(d1.toNat:Int)*131) (by omega) (by omega),wrap64 (a:=(d2.toNat:Int)*1117) (by omega) (by omega),wrap64 (a:=(d1.toNat:Int)*131+_) (by omega) (by omega),
   wrap64 (a:=p*29) (by omega) (by omega),wrap64 (a:=q) (by omega) (by omega),wrap64 (a:=q*53) (by omega) (by omega),wrap64 (a:=(d1.toNat:Int)*131+_+_) (by omega) (by omega)]
  rw [wrap64 (by omega) (by omega)]
  exact ⟨_,by omega,rfl⟩
 conv=>whnf
 rw [hx]
 refine ⟨by decide,?_⟩
 conv=>whnf
 obtain ⟨y,hy0,hy⟩:=xor_in (a:=x) (b:=IntKind.i64.wrap (x.tdiv 64)) ⟨hx0,hx1⟩ (by
  rw [Int.tdiv_eq_ediv_of_nonneg hx0,wrap64 (by omega) (by omega)]; omega)
 rw [hy]
 refine ⟨by omega,?_⟩
 conv=>whnf
 refine ⟨[],false,?_⟩
 conv=>whnf
 exact ⟨_,(tmod_in hy0 (by omega)).1,fun _=>(tmod_in hy0 (by omega)).2,rfl,rfl⟩
end Go.Cod
set_option linter.all false
namespace Go.Cod
open Go Go.Proofs
set_option maxRecDepth 10000
theorem l1Many_pure (s:List UInt8) (n:Int) (h0:0≤n) (hn64:n≤1048576) (hL:s.length*n.toNat≤1048576) (hs:s.length≤1048576):Pure Tryd.prog 9 [.str s,.int .i64 n] fun r=>∃ t:List UInt8,t.length=s.length*n.toNat∧r=.str t:=by
 generalize hLL:s.length*n.toNat=L at *
 refine pure_of_awp good Tryd.func9 rfl (by kernel_rfl) (by decide) ?_
 conv=>whnf
 refine loop_intro (fun m fr st=>st=[]∧∃ (a b:List UInt8),a.length+b.length*m=L∧b.length≤2097152∧(m:Int)≤n∧Holds fr [(0,.str b),(1,.int .i64 m),(5,.str a)]) n.toNat
  ⟨rfl,[],s,by simp [hLL],by omega,by omega,rfl,by rw [Int.toNat_of_nonneg h0]; rfl,rfl,trivial⟩ ?_
 rintro m fr st ⟨rfl,a,b,h1,h2,h3,hh⟩
 obtain ⟨fr,rfl⟩:=hh.split
 clear hh
 conv=>whnf
 by_cases hlt:0 < m
 · rw [ltB_t (by omega)]
   conv=>whnf
   refine ⟨by decide,?_⟩
   conv=>whnf
   have hbm:b.length≤b.length*m:=Nat.le_mul_of_pos_right _ hlt
   have e1:(m:Int).tmod 2=((m % 2:Nat):Int):=by rw [Int.tmod_eq_emod_of_nonneg (by omega)]; omega
   have e4:IntKind.i64.wrap ((m:Int).tdiv 2)=((m / 2:Nat):Int):=by
    rw [Int.tdiv_eq_ediv_of_nonneg (by omega),wrap64 (by omega) (by omega)]; omega
   have hm:m=2*(m / 2)+m % 2:=by omega
   have hmul:b.length*m=2*(b.length*(m / 2))+b.length*(m % 2):=by
    conv=>lhs; rw [hm,Nat.mul_add,Nat.mul_left_comm]
   rw [e1]
   by_cases ho:m % 2=1
   · rw [eqB_t (by omega)]
     conv=>whnf
     rw [ho,Nat.mul_one] at hmul
     refine ⟨by omega,?_⟩
     conv=>whnf
     refine ⟨by omega,?_⟩
     conv=>whnf
     refine ⟨by decide,?_⟩
     conv=>whnf
     refine ⟨m / 2,by omega,rfl,a++b,b++b,?_,by simp; omega,by omega,rfl,by rw [← e4]; rfl,rfl,trivial⟩
     rw [List.length_append,List.length_append,Nat.add_mul]; omega
   · rw [eqB_f (by omega)]
     conv=>whnf
     rw [show m % 2=0 by omega,Nat.mul_zero] at hmul
     refine ⟨by omega,?_⟩
     conv=>whnf
     refine ⟨by decide,?_⟩
     conv=>whnf
     refine ⟨m / 2,by omega,rfl,a,b++b,?_,by simp; omega,by omega,rfl,by rw [← e4]; rfl,rfl,trivial⟩
     rw [List.length_append,Nat.add_mul]; omega
 · rw [ltB_f (by omega)]
   conv=>whnf
   have:m=0:=by omega
   subst this
   exact ⟨a,by omega,rfl⟩
def drows (ss:List (List UInt8)):List (List V):=ss.map fun s=>[.str s]
theorem drows_len (ss:List (List UInt8)):(drows ss).length=ss.length:=by simp [drows]
theorem of_full (bs:List UInt8) (p:Int) (ss:List (List UInt8)) (hb:bs.length≤2000) (h0:0≤p) (h1:p≤1073741824) (hn:1≤ss.length) (hn':ss.length≤1048576) :
  Full Tryd.prog noY 10 [.ptr 0 0 0,.sl (drows ss)] [rdO bs p] fun o st'=>∃ s∈ss,o=.ret (.str s)∧st'=[rdO bs (p+1)]:=by
 have hl:=drows_len ss
 have hp:=pick_full bs p ss.length hb h0 h1
 have hg:∀ m:Int,0≤m→m < ss.length→∃ s∈ss,(drows ss)[m.toNat]? = some [.str s]:=fun m a b=>by
  have:m.toNat < ss.length:=by omega
  exact ⟨ss[m.toNat],List.getElem_mem _,by simp [drows,this]⟩
 generalize drows ss=rows at *
 refine full_of_awp good Tryd.func10 rfl (by kernel_rfl) (by decide) ?_
 conv=>whnf
 rw [hl]
 refine ⟨[0],false,?_⟩
 conv=>whnf
 refine hp.mono ?_
 rintro o st' ⟨m,m0,m1,rfl,rfl⟩
 conv=>whnf
 obtain ⟨s,hs,hgs⟩:=hg m m0 (m1 (by omega))
 refine ⟨m0,rows,_,1,rfl,hgs,rfl,rfl,?_⟩
 conv=>whnf
 refine ⟨[],false,?_⟩
 conv=>whnf
 exact ⟨s,hs,rfl,rfl⟩
end Go.Cod
set_option linter.all false
set_option linter.all false
namespace Go.Cod
open Go Go.Proofs
set_option maxRecDepth 10000
theorem l1Open_full (bs:List UInt8) (hb:bs.length≤1048576):Full Tryd.prog noY 8 [.sl (brows bs)] [] fun o st'=>o=.ret (.ptr 0 0 0)∧∃ bs':List UInt8,bs'.length≤2000∧st'=[rdO bs' 0]:=by
 have hl:=brows_len bs
 have h1:∀ r∈brows bs,r.length=1:=fun r h=>by
  obtain ⟨b,_,rfl⟩:=List.mem_map.1 h; rfl
 have h2:((brows bs).take 2000).drop 0=brows (bs.take 2000):=by rw [brows,brows,List.map_take]; rfl
 refine full_of_awp good Tryd.func8 rfl (by kernel_rfl) (by decide) ?_
 generalize hR:brows bs=R at *
 conv=>whnf
 by_cases a:2000 < R.length
 · rw [ltB_t (by omega)]
   conv=>whnf
   refine ⟨h1,by omega,by show 2000≤_; omega,?_⟩
   conv=>whnf
   refine ⟨[0],false,?_⟩
   conv=>whnf
   refine ⟨rfl,bs.take 2000,by rw [List.length_take]; omega,?_⟩
   show [(⟨[[.sl ((R.take 2000).drop 0),.int .i64 0]],2,true,true,true,.cell⟩:O)]=_
   rw [h2]; rfl
 · rw [ltB_f (by omega)]
   conv=>whnf
   refine ⟨[0],false,?_⟩
   conv=>whnf
   refine ⟨rfl,bs,by omega,?_⟩
   rw [rdO,hR]; rfl
end Go.Cod
set_option linter.all false
set_option linter.all false
namespace Go.Cod
open Go Go.Proofs
set_option maxRecDepth 10000
set_option maxHeartbeats 1000000 in
theorem drawHash_pure (bs:List UInt8) (hb:bs.length≤1048576):Pure Tryd.prog 5 [.sl (brows bs)] fun r=>∃ t:List UInt8,t.length≤1048576∧r=.str t:=by
 have ho:=l1Open_full bs hb
 have hrow:∀ (a m:Int),0≤m→m < 8→0≤a→a < 5→∃ v:Int,0≤v∧v≤65∧([[.int .i64 a],[.int .i64 18],[.int .i64 19],[.int .i64 55],[.int .i64 56],[.int .i64 63],[.int .i64 64],[.int .i64 65]]:List (List V))[m.toNat]? = some [.int .i64 v]:=by
  intro a m h0 h1 h2 h3
  obtain ⟨k,rfl⟩:=Int.eq_ofNat_of_zero_le h0
  rw [Int.toNat_natCast]
  have hk:k < 8:=by omega
  match k,hk with
  | 0,_=>exact ⟨a,by omega,by omega,rfl⟩
  | 1,_=>exact ⟨18,by omega,by omega,rfl⟩
  | 2,_=>exact ⟨19,by omega,by omega,rfl⟩
  | 3,_=>exact ⟨55,by omega,by omega,rfl⟩
  | 4,_=>exact ⟨56,by omega,by omega,rfl⟩
  | 5,_=>exact ⟨63,by omega,by omega,rfl⟩
  | 6,_=>exact ⟨64,by omega,by omega,rfl⟩
  | 7,_=>exact ⟨65,by omega,by omega,rfl⟩
 have hrl:∀ a:Int,∀ r∈([[.int .i64 a],[.int .i64 18],[.int .i64 19],[.int .i64 55],[.int .i64 56],[.int .i64 63],[.int .i64 64],[.int .i64 65]]:List (List V)),r.length=1:=fun a r hr=>by
  simp only [List.mem_cons,List.not_mem_nil,or_false] at hr
  rcases hr with rfl | rfl | rfl | rfl | rfl | rfl | rfl | rfl <;> rfl
 generalize brows bs=R at *
 refine pure_of_awp good Tryd.func5 rfl (by kernel_rfl) (by decide) ?_
 conv=>whnf
 refine .inr (.inl ⟨[],false,?_⟩)
 conv=>whnf
 refine ho.mono ?_
 rintro o st' ⟨rfl,bs',hb',rfl⟩
 have hof:=fun (q:Int) (a:0≤q) (b:q≤1073741824)=>of_full bs' q [[97],[0],[97,98,99],[255]] hb' a b (by decide) (by decide)
 have hp:=fun (q n:Int) (a:0≤q) (b:q≤1073741824)=>pick_full bs' q n hb' a b
 conv=>whnf
 refine ⟨[0],false,?_⟩
 conv=>whnf
 refine (hof 0 (by omega) (by omega)).mono ?_
 rintro o st' ⟨s,hs,rfl,rfl⟩
 have hsl:s.length≤3:=by
  simp only [List.mem_cons,List.not_mem_nil,or_false] at hs
  rcases hs with rfl | rfl | rfl | rfl <;> decide
 conv=>whnf
 refine ⟨[0],false,?_⟩
 conv=>whnf
 refine (hp (0+1) 5 (by omega) (by omega)).mono ?_
 rintro o st' ⟨a,a0,a1,rfl,rfl⟩
 have a1:=a1 (by omega)
 conv=>whnf
 refine ⟨[0],false,?_⟩
 conv=>whnf
 refine (hp (0+1+1) 8 (by omega) (by omega)).mono ?_
 rintro o st' ⟨m,m0,m1,rfl,rfl⟩
 have m1:=m1 (by omega)
 obtain ⟨v,v0,v1,hv⟩:=hrow a m m0 m1 a0 a1
 conv=>whnf
 refine ⟨m0,_,_,1,rfl,hv,rfl,rfl,?_⟩
 conv=>whnf
 refine AtRow_intro _ hv ?_
 conv=>whnf
 have hL:s.length*v.toNat≤1048576:=by
  have h1:v.toNat≤65:=by omega
  have:=Nat.mul_le_mul hsl h1
  omega
 refine .inl ((l1Many_pure s v v0 (by omega) hL (by omega)).mono ?_)
 rintro r ⟨t,ht,rfl⟩
 conv=>whnf
 exact ⟨t,by omega,rfl⟩
end Go.Cod
set_option linter.all false
namespace Go.Cod
open Go Go.Proofs Go.ChangeShapes Go.WideShapes Go.ChangeAt Go.RowKit
set_option maxRecDepth 10000
theorem ownK:ownKnob Tryd.prog.godebug=none:=by kernel_rfl
def byteOf:List V→UInt8
 | [.int _ i]=>UInt8.ofNat i.toNat
 | _=>0
theorem argBytes {H:Type} {enc:TypeId × Value→H} {W:World}:ReadsA enc Tryd.prog W 22 fun x=>∃ bs:List UInt8,x=.sl (brows bs):=by
 intro base v d p hv h
 obtain ⟨x,⟨es,hx,_,hr⟩,hrep⟩:=readsA_slice (S:=fun vs=>∃ es,vs=[.sl es]∧es.length≤maxLen∧∀ r∈es,(∃ i,r=[.int .u8 i]∧IntKind.u8.min≤i∧i≤IntKind.u8.max)∧r.length=Tryd.prog.cellsOf 5∧(∀ v∈r,v.leaf=true)∧V.clean.cleanL 0 r=true)
  Tryd.underlying22 (fun n=>reads_slice Tryd.underlying22 (by decide +kernel) fun m _=>reads_int Tryd.underlying5) base v d p hv h
 cases hx
 refine ⟨_,⟨es.map byteOf,?_⟩,hrep⟩
 congr 1
 rw [brows,List.map_map]
 refine (List.map_id es).symm.trans (List.map_congr_left fun r hr'=>?_)
 obtain ⟨⟨i,rfl,h1,h2⟩,_⟩:=hr r hr'
 have h1:0≤i:=h1
 have h2:i≤255:=h2
 simp only [id_eq,Function.comp,byteOf,cellB]
 congr 2
 simp only [UInt8.toNat_ofNat']
 omega
end Go.Cod
set_option linter.all false
namespace Go.Cod
open Go Go.Proofs Go.ChangeShapes Go.WideShapes Go.ChangeAt Go.RowKit
set_option maxRecDepth 100000
theorem hash_abc:hashB [97,98,99]=[98,97,55,56,49,54,98,102,56,102,48,49,99,102,101,97,52,49,52,49,52,48,100,101,53,100,97,101,50,50,50,51,98,48,48,51,54,49,97,51,57,54,49,55,55,97,57,99,98,52,49,48,102,102,54,49,102,50,48,48,49,53,97,100]:=by decide +kernel
theorem law_hashSumF (bs:List UInt8):Pure Tryd.prog 3 [.sl (brows bs)] (·=.bool true):=by
 have hd:=drawHash_pure bs
 have hl:=brows_len bs
 have f1:=hashSum_pure
 have f2:=hashSum_impl
 have f3:=hashB_len
 have f4:=hashSum_impl [97,98,99] (by decide)
 rw [hash_abc] at f4
 generalize brows bs=R at *
 generalize hashB=H at *
 refine pure_of_awp good Tryd.func3 rfl (by kernel_rfl) (by decide) ?_
 conv=>whnf
 by_cases h:bs.length≤1048576
 · rw [ltB_f (by omega)]
   conv=>whnf
   refine .inl ((hd h).mono ?_)
   rintro x ⟨t,ht,rfl⟩
   have f1:=f1 t ht
   have f2:=f2 t ht
   have f3:=f3 t
   generalize H t=r at *
   conv=>whnf
   refine .inl (f2.mono ?_)
   rintro x rfl
   conv=>whnf
   refine .inl (f1.mono ?_)
   rintro x rfl
   conv=>whnf
   rw [eqS_refl]
   conv=>whnf
   refine .inl (f2.mono ?_)
   rintro x rfl
   conv=>whnf
   rw [eqB_t (by omega)]
   conv=>whnf
   refine .inl (f4.mono ?_)
   rintro x rfl
   conv=>whnf
   rw [eqS_t rfl]
 · rw [ltB_t (by omega)]
   conv=>whnf
theorem lawFnHashSum (bs:List UInt8):Pure Tryd.prog 3 [.sl (brows bs)] (·=.bool true):=law_hashSumF bs
theorem conFnHashSum (H:Type) (enc:TypeId × Value→H) (W:World) (base:Nat) (args:Array Value) (ds gs:List (DataW H)) (before:List MemPlace)
  (hval:∀ (j:Nat) t v,Tryd.f3.params[j]? = some t→args[j]? = some v→Value.okWide Tryd.prog W .any base t v)
  (hW:DataW.Whole enc Tryd.prog Tryd.f3.params.toList YtdpipckbbliclaaDoor.Rows.fnHashSumSpec.vars false W args.toList ds gs before) (hL:laidMetH Tryd.prog YtdpipckbbliclaaDoor.Rows.fnHashSumRow.laid W) {fresh handsOn again:Bool} :
  Calls Tryd.prog 3 args W fun e W'=>∃ v,e=.returned v∧YtdpipckbbliclaaDoor.Rows.fnHashSumSpec.post enc Tryd.prog Tryd.f3 false fresh handsOn again W args v W':=by
 have hm:laidMet Tryd.prog YtdpipckbbliclaaDoor.Rows.fnHashSumRow.laid W:=by
  rw [← MakeChecks.laidMetH_plain _ _ _ (by kernel_rfl)]; exact hL
 have t0:=Go.Lib.tabIs_of_head (zs:=[1779033703,3144134277,1013904242,2773480762,1359893119,2600822924,528734635,1541459225]) (k:=.u32) (g:=0) (t:=35) (e:=34) (n:=8) (by kernel_rfl) (by kernel_rfl) Tryd.underlying35 Tryd.underlying34 (by kernel_rfl) (by kernel_rfl) hm
 replace hm:=laidMet.tail hm
 have t1:=Go.Lib.tabIs_of_head (zs:=[1116352408,1899447441,3049323471,3921009573,961987163,1508970993,2453635748,2870763221,3624381080,310598401,607225278,1426881987,1925078388,2162078206,2614888103,3248222580,3835390401,4022224774,264347078,604807628,770255983,1249150122,1555081692,1996064986,2554220882,2821834349,2952996808,3210313671,3336571891,3584528711,113926993,338241895,666307205,773529912,1294757372,1396182291,1695183700,1986661051,2177026350,2456956037,2730485921,2820302411,3259730800,3345764771,3516065817,3600352804,4094571909,275423344,430227734,506948616,659060556,883997877,958139571,1322822218,1537002063,1747873779,1955562222,2024104815,2227730452,2361852424,2428436474,2756734187,3204031479,3329325298]) (k:=.u32) (g:=1) (t:=36) (e:=34) (n:=64) (by kernel_rfl) (by kernel_rfl) Tryd.underlying36 Tryd.underlying34 (by kernel_rfl) (by kernel_rfl) hm
 replace hm:=laidMet.tail hm
 letI A:Adr:=⟨fun g=>match g with | _=>default⟩
 have hlaid:Laid (oldP W) W:=by
  intro g cs h
  match g,h with
  | 0,h=>cases h; exact rep_tab (by kernel_rfl) t0
  | 1,h=>cases h; exact rep_tab (by kernel_rfl) t1
  | g+2,h=>cases h
 refine law_callsV kids full globals_ok (tb:=4) rfl Tryd.underlying4 (by decide +kernel) hW (fun ds gs h h'=>by match ds,gs,h,h' with | [_],[_,_],_,_=>exact ⟨rfl,rfl,rfl⟩) hval
  (Ss:=[fun x=>∃ bs:List UInt8,x=.sl (brows bs)]) hlaid ?_ ?_
 · rw [Tryd.params3]
   exact ⟨argBytes,trivial⟩
 · intro xs h
   obtain ⟨_,rfl,⟨t0,rfl⟩⟩:=hold1 h
   exact lawFnHashSum t0
theorem doorFnHashSum (os:Os) (args:Array Value):laidMetH Tryd.prog YtdpipckbbliclaaDoor.Rows.fnHashSumRow.laid ((World.doorLaid Tryd.prog 400 os).forCall (fun _ _=>0) ⟨#[],args,[]⟩).memory :=
 laidMetH_of_parts3 (fuel:=8) (laidMet_of_run' 8 (by kernel_rfl) (by kernel_rfl)) (by kernel_rfl) (by kernel_rfl)
set_option maxRecDepth 100000 in
theorem rowFnHashSum:YtdpipckbbliclaaDoor.Rows.FnHashSumSaid :=
 OpenClaim.holds_of_wide 3 Tryd.f3 rfl rfl rfl rfl rfl rfl rfl ⟨rfl,rfl,rfl,rfl,rfl⟩ rfl rfl rfl rfl rfl (by kernel_rfl) Tryd.func3 (by kernel_rfl)
  (of_decide_eq_true (by kernel_rfl)) (by unfold Func.isWrapper; first | (rw [if_pos (by decide +kernel)]; kernel_rfl) | (rw [if_neg (by decide +kernel)]; exact ⟨rfl,rfl⟩))
  (fun os started H enc _=>returnsInHanded_of_change_and (C:=Tryd.checked) (X:=fun w _=>laidMetH Tryd.prog YtdpipckbbliclaaDoor.Rows.fnHashSumRow.laid w) (fun _ _ _ hh h=>h.of_heap hh) ownK started (by kernel_rfl) Tryd.func3
    (ChangeSpec.witness_shaped (enc:=enc) (C:=Tryd.checked) (os:=os) (X:=fun w _=>laidMetH Tryd.prog YtdpipckbbliclaaDoor.Rows.fnHashSumRow.laid w) false (World.doorLaid Tryd.prog 400 os) #[.slice none 0 0] 8 rfl (World.shaped_of_RefB (by kernel_rfl) (by kernel_rfl)) (by kernel_rfl) (by kernel_rfl) (by kernel_rfl) (doorFnHashSum os _))
    (fun W base args ds gs before hval hW _ _ hL _=>conFnHashSum H enc W base args ds gs before hval hW hL))
set_option maxRecDepth 100000 in
theorem overFnHashSum:YtdpipckbbliclaaDoor.Rows.FnHashSumCardSaid :=
 Claim7.holds_tied_plain_at .later [] [.data, .data] true (true, "423b5e86f815ac7ed0bb358ba79c7fe105c4f4b4657328f3c845210fbaa5f4dc") false
  rowFnHashSum (fun _ h=>by cases h) (by kernel_rfl) (fun _ h=>by cases h) YtdpipckbbliclaaDoor.fnHashSum_row_tie rfl ⟨rfl,rfl⟩ (by kernel_rfl) rfl
  (fun f fn hf hfn=>by
    obtain rfl : f = 3 := Option.some.inj ((show Tryd.prog.funcNamed "loop.example/codicil/laws.FnHashSum" = some 3 by kernel_rfl).symm.trans hf) |>.symm
    obtain rfl:fn=Tryd.f3:=(Option.some.inj (Tryd.func3.symm.trans hfn)).symm
    exact ⟨by kernel_rfl,fun j t ht=>by
     rw [Tryd.params3] at ht
     have hm:t∈([22]:List Nat):=by simpa using Array.mem_of_getElem? ht
     have hall:(([22]:List Nat).all fun u=>!Tryd.prog.wantsStandIn u)=true:=by kernel_rfl
     exact (show Tryd.prog.wantsStandIn t=false by simpa using List.all_eq_true.1 hall t hm)⟩)
  (by kernel_rfl)
end Go.Cod
