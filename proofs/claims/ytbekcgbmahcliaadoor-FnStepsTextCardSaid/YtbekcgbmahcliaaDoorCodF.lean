import Derived.Shelf.Strings.BuilderK
import Derived.WalkKit
import Derived.BigCall
import Derived.Shelf.Strconv.Itoa3
import Derived.Room.Shelf.Join48
import Derived.Lib.ItoaLen
import Derived.Lib.Hide
import Derived.ProofKit
import Derived.Test.YtbekcgbmahcliaaDoorCards
import Derived.Test.YtbekcgbmahcliaaDoorTie
import Derived.LaidMore
import Derived.LaidOnce
import Derived.SevenTiedAt
import Derived.Test.YtbekcgbmahcliaaDoorCodE
set_option linter.all false
namespace Go.Cod
open Go Go.Proofs
set_option maxRecDepth 10000
set_option maxHeartbeats 4000000 in
theorem l4Do_even (t:T) (s:Stp) (ht:t.Small) (hz:t.size≤10000) (hn:t.Even) (hs:s.node.Small) (hsz:s.node.size≤1048577) (htx:s.text.length≤1048576) :
  Pure Tryd.prog 29 [.agg t.cells,.agg s.cells] (·=doR t (doT t s)):=by
 have f1:=l2Find_pure t ht s.id
 have f2:=l4Bare_pure s
 have f3:=specTreeOk_pure s.node hs (by rw [T.ids_size]; exact hsz)
 have f4:∀ x:T,fT t s.id=some x→s.at_.toNat≤x.kids.length→Pure Tryd.prog 47 [.agg t.cells,.int .i64 s.id,.int .i64 s.at_.toNat,.agg s.node.cells] (·=.agg (t.mapAt s.id (putKidT s.at_.toNat s.node)).cells):=fun x h1 h2=>l4Put_pure t ht s.id s.at_.toNat s.node (hn s.id x s.at_.toNat h1 h2)
 have f5:=l4Cut_pure t ht s.id
 have f6:=l4Set_pure t ht s.id
 have f7:∀ y:T,y.Small→y.size≤1048577→Pure Tryd.prog 21 [.agg y.cells] (·=.bool (okT y)):=fun y h1 h2=>specTreeOk_pure y h1 (by rw [T.ids_size]; exact h2)
 have z1:∀ x,okT s.node=true→(t.mapAt s.id (putKidT x s.node)).Small∧(t.mapAt s.id (putKidT x s.node)).size≤1048577:=fun x h=>by
  have hk:=okT_size h
  refine ⟨T.mapAt_small _ _ 1000000 (fun y h1 _ h2=>putKidT_small x s.node y h1 hs h2) t ht (by omega),?_⟩
  have:=T.mapAt_size s.id (putKidT x s.node) 20 (fun y=>by rw [putKidT_size]; omega) t
  omega
 have z2:=T.cut_small s.id t ht
 have z3:∀ k w:List UInt8,k.length≤1048576→w.length≤1048576→(t.mapAt s.id (setT k w)).Small∧(t.mapAt s.id (setT k w)).size≤1048577:=fun k w h1 h2=>by
  refine ⟨T.mapAt_small _ _ 1000000 (fun y h _ _=>setT_small k w y h h1 h2) t ht (by omega),?_⟩
  have:=T.mapAt_size s.id (setT k w) 0 (fun y=>by rw [setT_size]; omega) t
  omega
 have hsm:=fun x=>fT_small t s.id ht x
 have hed:editT t s=match fT t s.id with
  | none=>none
  | some x=>if bareT s=false then none else
    if s.kind=1 then (if 0≤s.at_∧s.at_≤x.kids.length∧okT s.node=true then some (t.mapAt s.id (putKidT s.at_.toNat s.node)) else none)
    else if s.kind=2 then (if s.id=t.id then none else some (t.cut s.id))
    else if s.kind=3 then some (t.mapAt s.id (setT x.kind s.text))
    else if s.kind=4 then some (t.mapAt s.id (setT s.text x.text))
    else none:=rfl
 have d0:editT t s=none→doT t s=none:=doT_none
 have d1:∀ y,editT t s=some y→doT t s=okO y:=fun y=>doT_some
 generalize doT t s=d at *
 generalize editT t s=e at *
 generalize fT t s.id=f at *
 generalize bareT s=b at *
 cases s with
 | mk kind sid at_ node text =>
 simp only at f1 f3 f4 f5 f6 z1 z2 z3 hed hs hsz htx hsm
 generalize T.cut sid t=tc at *
 generalize hset:(fun k w=>T.mapAt sid (setT k w) t)=ts at *
 have hset:∀ k w,T.mapAt sid (setT k w) t=ts k w:=fun k w=>by rw [← hset]
 simp only [hset] at f6 z3 hed
 generalize hput:T.mapAt sid (putKidT at_.toNat node) t=tp at *
 have zp:okT node=true→tp.Small∧tp.size≤1048577:=fun h=>hput ▸ z1 at_.toNat h
 clear hset hput z1
 generalize okT node=okn at *
 have hend:∀ y:T,e=some y→y.Small→y.size≤1048577→Pure Tryd.prog 21 [.agg y.cells] (·=.bool (okT y))∧d=okO y:=fun y h1 h2 h3=>⟨f7 y h2 h3,d1 y h1⟩
 clear f7 d1
 have hok:∀ y:T,e=some y→d=okO y→doR t d=if okT y=true then .tup [.agg y.cells,.bool true] else .tup [.agg t.cells,.bool false]:=fun y _ h=>by
  rw [h]; unfold okO
  split <;> rfl
 simp only [Stp.cells] at f2 ⊢
 have hbig:∀ y:T,y.Small→y.size≤1048577→e=some y→d=okO y∧Pure Tryd.prog 21 [.agg y.cells] (·=.bool (okT y)):=fun y h1 h2 h3=>⟨(hend y h3 h1 h2).2,(hend y h3 h1 h2).1⟩
 clear hend
 cases t with
 | mk tid tk tx tks =>
 cases node with
 | mk nid nk nx nks =>
 refine pure_of_awp good Tryd.func29 rfl (by kernel_rfl) (by decide) ?_
 conv=>whnf
 refine .inl (f1.mono ?_)
 rintro r rfl
 cases f with
 | none =>
   conv=>whnf
   rw [d0 hed]
   rfl
 | some x =>
   cases x with
   | mk xid xk xx xks =>
   conv=>whnf
   refine .inl (f2.mono ?_)
   rintro r rfl
   cases b with
   | false =>
     conv=>whnf
     rw [d0 hed]
     rfl
   | true =>
     simp only [Bool.true_eq_false,if_false] at hed
     conv=>whnf
     by_cases k1:kind=1
     · rw [if_pos k1] at hed
       rw [eqB_t k1]
       conv=>whnf
       refine .inl ((l1In_pure _ _ _).mono ?_)
       rintro r rfl
       by_cases hr:0≤at_∧at_≤(xks.length:Int)
       · rw [show (decide ((0:Int)≤at_∧at_≤((T.rows xks).length:Int)))=true by rw [Go.Cod.rows_len]; simpa using hr]
         conv=>whnf
         refine .inl (f3.mono ?_)
         rintro r rfl
         cases okn with
         | false =>
           conv=>whnf
           rw [d0 (by rw [hed,if_neg (by simp)])]
           rfl
         | true =>
           obtain ⟨n,rfl⟩:∃ n:Nat,at_=n:=⟨at_.toNat,by omega⟩
           have hed:e=some tp:=by rw [hed]; exact if_pos ⟨hr.1,hr.2,rfl⟩
           have f4:=f4 _ rfl (by simp only [T.kids]; omega)
           obtain ⟨q1,q2⟩:=zp rfl
           obtain ⟨q3,q4⟩:=hbig tp q1 q2 hed
           have hok:=hok tp hed q3
           generalize okT tp=okp at *
           cases tp with
           | mk pid pk px pks =>
           conv=>whnf
           refine .inl (f4.mono ?_)
           rintro r rfl
           conv=>whnf
           refine .inl (q4.mono ?_)
           rintro r rfl
           rw [hok]
           cases okp <;> (conv=>whnf) <;> rfl
       · rw [show (decide ((0:Int)≤at_∧at_≤((T.rows xks).length:Int)))=false by rw [Go.Cod.rows_len]; simpa using hr]
         conv=>whnf
         rw [d0 (by rw [hed]; exact if_neg (fun h=>hr ⟨h.1,h.2.1⟩))]
         rfl
     rw [if_neg k1] at hed
     rw [eqB_f k1]
     conv=>whnf
     by_cases k2:kind=2
     · rw [if_pos k2] at hed
       rw [eqB_t k2]
       conv=>whnf
       by_cases hi:sid=tid
       · rw [eqB_t hi]
         conv=>whnf
         rw [d0 (by rw [hed]; exact if_pos hi)]
         rfl
       · rw [eqB_f hi]
         have hed:e=some tc:=by rw [hed]; exact if_neg hi
         obtain ⟨q3,q4⟩:=hbig tc z2.1 (by have:=z2.2; simp only [T.size] at this hz ⊢; omega) hed
         have hok:=hok tc hed q3
         generalize okT tc=okp at *
         cases tc with
         | mk pid pk px pks =>
         conv=>whnf
         refine .inl (f5.mono ?_)
         rintro r rfl
         conv=>whnf
         refine .inl (q4.mono ?_)
         rintro r rfl
         rw [hok]
         cases okp <;> (conv=>whnf) <;> rfl
     rw [if_neg k2] at hed
     rw [eqB_f k2]
     conv=>whnf
     have hx:=hsm _ rfl
     have hxk:xk.length≤1048576∧xx.length≤1048576:=by
      cases hx with
      | mk g1 g2 g3 g4 g5=>exact ⟨g2,g3⟩
     by_cases k3:kind=3
     · rw [if_pos k3] at hed
       rw [eqB_t k3]
       have f6:=f6 xk text
       obtain ⟨q1,q2⟩:=z3 xk text hxk.1 htx
       have hed:e=some (ts xk text):=hed
       obtain ⟨q3,q4⟩:=hbig _ q1 q2 hed
       have hok:=hok _ hed q3
       generalize ts xk text=tp at *
       generalize okT tp=okp at *
       cases tp with
       | mk pid pk px pks =>
       conv=>whnf
       refine .inl (f6.mono ?_)
       rintro r rfl
       conv=>whnf
       refine .inl (q4.mono ?_)
       rintro r rfl
       rw [hok]
       cases okp <;> (conv=>whnf) <;> rfl
     rw [if_neg k3] at hed
     rw [eqB_f k3]
     conv=>whnf
     by_cases k4:kind=4
     · rw [if_pos k4] at hed
       rw [eqB_t k4]
       have f6:=f6 text xx
       obtain ⟨q1,q2⟩:=z3 text xx htx hxk.2
       have hed:e=some (ts text xx):=hed
       obtain ⟨q3,q4⟩:=hbig _ q1 q2 hed
       have hok:=hok _ hed q3
       generalize ts text xx=tp at *
       generalize okT tp=okp at *
       cases tp with
       | mk pid pk px pks =>
       conv=>whnf
       refine .inl (f6.mono ?_)
       rintro r rfl
       conv=>whnf
       refine .inl (q4.mono ?_)
       rintro r rfl
       rw [hok]
       cases okp <;> (conv=>whnf) <;> rfl
     rw [if_neg k4] at hed
     rw [eqB_f k4]
     conv=>whnf
     rw [d0 hed]
     rfl
end Go.Cod
set_option linter.all false
namespace Go.Cod
open Go Go.Proofs Go.ChangeShapes Go.WideShapes Go.ChangeAt Go.RowKit
set_option maxRecDepth 10000
def stpO (ls:List Stp):O:=⟨prows ls,8,true,true,false,.cell⟩
def DrawNL (o:Out) (st':St):Prop:=∃ (t:T) (ls:List Stp),t.Small∧t.size≤60∧(∀ s∈ls,s.Dr)∧ls.length≤6∧((ls=[]∧o=.ret (.tup [.agg t.cells,.nils])∧st'=[])∨(ls≠[]∧o=.ret (.tup [.agg t.cells,.own 0])∧st'=[stpO ls]))
theorem prows_snoc (ls:List Stp) (s:Stp):prows (ls++[s])=prows ls++[s.cells]:=by simp [prows]
def lsV (ls:List Stp) (m:Nat):V:=match ls with
 | []=>.nils
 | _::_=>.own m
def lsO (ls:List Stp):List O:=match ls with
 | []=>[]
 | _::_=>[⟨prows ls,8,true,true,false,.cell⟩]
theorem lsO_snoc (s0:Stp) (ls:List Stp) (s:Stp):lsO ((s0::ls)++[s])=[⟨prows (s0::ls)++[s.cells],8,true,true,false,.cell⟩]:=by
 rw [← prows_snoc]; rfl
def T.Tried (x:T):Prop:=x.Small∧x.size≤60∧x.Even
theorem tried_do {x y:T} {s:Stp} (h:x.Tried) (hs:s.Dr) (hd:doT x s=some y):y.Tried:=by
 obtain ⟨h1,h2⟩:=doT_ok hd
 have:=okT_size h2
 exact ⟨editT_small h.1 (by have:=h.2.1; omega) hs.1 (by have:=hs.2.2; omega) h1,by omega,even_nodup ((okT_iff' y).1 h2).2.1⟩
set_option maxHeartbeats 8000000 in
theorem drawStepsDo_new (bs:List UInt8) (hb:bs.length≤1048576):Full Tryd.prog noY 12 [.sl (brows bs)] [] DrawNL:=by
 have ho:=l1Open_full bs hb
 refine full_of_awp good Tryd.func12 rfl (by kernel_rfl) (by decide) ?_
 conv=>whnf
 refine .inr (.inl ⟨[],false,?_⟩)
 conv=>whnf
 refine ho.mono ?_
 rintro o st' ⟨rfl,bs',hb',rfl⟩
 conv=>whnf
 refine ⟨[1],false,?_⟩
 conv=>whnf
 refine (l11Some_drawn bs' hb' 0 16 (by omega) (by omega)).mono ?_
 rintro o st' ⟨t,p,s1,⟨s2,s5⟩,s3,s4,rfl,rfl⟩
 have htr:t.Tried:=⟨s1,drawn_size s5,drawn_even s5⟩
 have ht6:=htr.2.1
 have hpk:=pick_full bs' p 6 hb' (by omega) (by omega)
 obtain ⟨x0,hx0⟩:∃ x0,x0=t:=⟨_,rfl⟩
 rcases t with ⟨ti,tk,tx,tks⟩
 conv=>whnf
 refine ⟨[1],false,?_⟩
 conv=>whnf
 refine hpk.mono ?_
 rintro o st' ⟨c,c0,c1,rfl,rfl⟩
 have c1:=c1 (by omega)
 have hcc:V.int .i64 c=.int .i64 (c.toNat:Int):=by rw [Int.toNat_of_nonneg c0]
 conv=>whnf
 refine loop_drop (fun n fr st=>∃ (ls:List Stp) (x:T) (p' k':Int),ls.length+n≤6∧(∀ s∈ls,s.Dr)∧x.Tried∧(0≤p'∧p'+2000*n≤1100000)∧(0≤k'∧k'+1000*n≤6200) ∧
   Holds fr [(2,.ptr 0 0 0),(4,.ptr 1 0 0),(5,.ptr 2 0 0),(6,.ptr 3 0 0),(7,lsV ls 5),(8,.ptr 4 0 0),(9,.int .i64 n)] ∧
   st=[bxO zrow 4,rdO bs' p',bxO [.int .i64 ti,.str tk,.str tx,.sl (T.rows tks)] 4,nxO k',bxO x.cells 4]++lsO ls) c.toNat none
  (by
    conv=>whnf
    exact ⟨[],.mk ti tk tx tks,p+1,100,by simp; omega,by simp,htr,by omega,by omega,⟨rfl,rfl,rfl,rfl,rfl,rfl,hcc,trivial⟩,rfl⟩) ?_
 rintro n fr st ⟨ls,x,p',k',b1,b2,b3,b4,b5,hh,rfl⟩
 obtain ⟨fr,rfl⟩:=hh.split
 clear hh
 have hlen:=prows_len ls
 by_cases hn:0 < n
 · obtain ⟨n,rfl⟩:∃ m,n=m+1:=⟨n - 1,by omega⟩
   have wn:V.int .i64 (IntKind.i64.wrap (((n+1:Nat):Int) - 1))=.int .i64 (n:Int):=by
    rw [wrap64 (by omega) (by omega)]; congr 1; omega
   have hed:=l11Edit_full bs' hb' p' k' (by omega) (by omega) (by omega) (by omega) x b3.1 (by have:=b3.2.1; omega)
   have hdo:=fun s (h:s.Dr)=>l4Do_even x s b3.1 (by have:=b3.2.1; omega) b3.2.2 h.1 (by have:=h.2.1; omega) (by have:=h.2.2; omega)
   have htd:=fun s y (h:s.Dr) (hd:doT x s=some y)=>tried_do b3 h hd
   have hspo:=fun q (q0:0≤q) (q1:q≤2000000) s h=>l11SpoilStep_full bs' hb' q q0 (by omega) s h
   have hp20:=fun (q:Int) (q0:0≤q) (q1:q≤2000000)=>pick_full bs' q 20 hb' q0 (by omega)
   have hp10:=fun (q:Int) (q0:0≤q) (q1:q≤2000000)=>pick_full bs' q 10 hb' q0 (by omega)
   cases x with
   | mk xi xk xx xks =>
   rcases ls with _ | ⟨l0,ls⟩
   all_goals
    conv=>whnf
    rw [ltB_t (by omega)]
    conv=>whnf
    refine ⟨[1,3],false,?_⟩
    conv=>whnf
    refine hed.mono ?_
    rintro o st' ⟨⟨ek,ei,ea,⟨ni,nk,nx,nks⟩,ex⟩,p2,k2,d1,d2,d3,d4,d5,rfl,rfl⟩
    conv=>whnf
    refine ⟨[1],false,?_⟩
    conv=>whnf
    refine (hp20 p2 (by omega) (by omega)).mono ?_
    rintro o st' ⟨c,c0,c1,rfl,rfl⟩
    conv=>whnf
    by_cases hc:c=0
    case' pos =>
     rw [eqB_t hc]
     conv=>whnf
     refine ⟨[1],false,?_⟩
     conv=>whnf
     refine (hspo (p2+1) (by omega) (by omega) _ d1).mono ?_
     clear d1
     rintro o st' ⟨⟨ek,ei,ea,⟨ni,nk,nx,nks⟩,ex⟩,q,d1,f2,f3,rfl,rfl⟩
    case' neg =>
     rw [eqB_f hc]
     obtain ⟨q,hq⟩:∃ q,q=p2+1:=⟨_,rfl⟩
     rw [← hq]
   all_goals
    have q0:0≤q∧q+1+2000*n≤1100000:=by omega
    have hdo:=hdo _ d1
    have htd:=fun y=>htd _ y d1
    generalize hdoo:doT (T.mk xi xk xx xks) _=dd at hdo htd
    conv=>whnf
    refine .inl (hdo.mono ?_)
    rintro r rfl
    cases dd with
    | some y =>
      have htd:=htd y rfl
      cases y with
      | mk yi yk yx yks =>
      conv=>whnf
      refine ⟨fun m hm=>by rw [List.mem_singleton.1 hm]; rfl,?_⟩
      conv=>whnf
      first
       | (refine ⟨by show 1*104≤_; omega,.inr ⟨(by intro e; cases e),?_⟩⟩
          conv=>whnf
          refine ⟨n,by omega,some [0,1,2,3,4,8],?_⟩
          conv=>whnf
          exact ⟨[⟨ek,ei,ea,.mk ni nk nx nks,ex⟩],.mk yi yk yx yks,q,k2,by simp at b1 ⊢; omega,by intro s hs; rw [List.mem_singleton.1 hs]; exact d1,htd,by omega,by omega,⟨rfl,rfl,rfl,rfl,rfl,rfl,wn,trivial⟩,rfl⟩)
       | (refine ⟨by
           show ((prows (l0::ls)).length+1)*104≤_
           rw [hlen]; omega,?_⟩
          conv=>whnf
          refine ⟨n,by omega,some [0,1,2,3,4,9],?_⟩
          conv=>whnf
          refine ⟨(l0::ls)++[⟨ek,ei,ea,.mk ni nk nx nks,ex⟩],.mk yi yk yx yks,q,k2,by simp at b1 ⊢; omega,?_,htd,by omega,by omega,⟨rfl,rfl,rfl,rfl,rfl,rfl,wn,trivial⟩,?_⟩
          · intro s hs
            rcases List.mem_append.1 hs with h | h
            · exact b2 s h
            · rw [List.mem_singleton.1 h]; exact d1
          · rw [lsO_snoc]
            rfl)
    | none =>
      conv=>whnf
      refine ⟨[1],false,?_⟩
      conv=>whnf
      refine (hp10 q (by omega) (by omega)).mono ?_
      rintro o st' ⟨c2,c20,c21,rfl,rfl⟩
      conv=>whnf
      by_cases hc2:c2=0
      · rw [eqB_t hc2]
        conv=>whnf
        refine ⟨fun m hm=>by rw [List.mem_singleton.1 hm]; rfl,?_⟩
        conv=>whnf
        first
         | (refine ⟨by show 1*104≤_; omega,.inr ⟨(by intro e; cases e),?_⟩⟩
            conv=>whnf
            refine ⟨n,by omega,some [0,1,2,3,4,8],?_⟩
            conv=>whnf
            exact ⟨[⟨ek,ei,ea,.mk ni nk nx nks,ex⟩],.mk xi xk xx xks,q+1,k2,by simp at b1 ⊢; omega,by intro s hs; rw [List.mem_singleton.1 hs]; exact d1,b3,by omega,by omega,⟨rfl,rfl,rfl,rfl,rfl,rfl,wn,trivial⟩,rfl⟩)
         | (refine ⟨by
             show ((prows (l0::ls)).length+1)*104≤_
             rw [hlen]; omega,?_⟩
            conv=>whnf
            refine ⟨n,by omega,some [0,1,2,3,4,9],?_⟩
            conv=>whnf
            refine ⟨(l0::ls)++[⟨ek,ei,ea,.mk ni nk nx nks,ex⟩],.mk xi xk xx xks,q+1,k2,by simp at b1 ⊢; omega,?_,b3,by omega,by omega,⟨rfl,rfl,rfl,rfl,rfl,rfl,wn,trivial⟩,?_⟩
            · intro s hs
              rcases List.mem_append.1 hs with h | h
              · exact b2 s h
              · rw [List.mem_singleton.1 h]; exact d1
            · rw [lsO_snoc]
              rfl)
      · rw [eqB_f hc2]
        conv=>whnf
        first
         | (refine ⟨n,by omega,some [0,1,2,3,4,5],?_⟩
            conv=>whnf
            exact ⟨l0::ls,.mk xi xk xx xks,q+1,k2,by omega,b2,b3,by omega,by omega,⟨rfl,rfl,rfl,rfl,rfl,rfl,wn,trivial⟩,rfl⟩)
         | (refine ⟨n,by omega,some [0,1,2,3,4],?_⟩
            conv=>whnf
            exact ⟨[],.mk xi xk xx xks,q+1,k2,by omega,b2,b3,by omega,by omega,⟨rfl,rfl,rfl,rfl,rfl,rfl,wn,trivial⟩,rfl⟩)
 · cases x with
   | mk xi xk xx xks =>
   cases ls
   · conv=>whnf
     rw [ltB_f (by omega)]
     conv=>whnf
     refine ⟨[],true,?_⟩
     conv=>whnf
     exact ⟨.mk ti tk tx tks,[],s1,ht6,b2,by omega,.inl ⟨rfl,rfl,rfl⟩⟩
   · conv=>whnf
     rw [ltB_f (by omega)]
     conv=>whnf
     refine ⟨[5],true,?_⟩
     conv=>whnf
     exact ⟨.mk ti tk tx tks,_::_,s1,ht6,b2,by omega,.inr ⟨by simp,rfl,rfl⟩⟩
end Go.Cod
set_option linter.all false
namespace Go.Cod
open Go Go.Proofs Go.ChangeShapes Go.WideShapes Go.ChangeAt Go.RowKit
set_option maxRecDepth 10000
end Go.Cod
set_option linter.all false
namespace Go.Cod
open Go Go.Proofs
set_option maxRecDepth 10000
end Go.Cod
set_option linter.all false
namespace Go.Cod
open Go Go.Proofs
set_option maxRecDepth 10000
end Go.Cod
set_option linter.all false
namespace Go.Cod
open Go Go.Proofs
set_option maxRecDepth 10000
end Go.Cod
set_option linter.all false
namespace Go.Cod
open Go Go.Proofs
theorem globals_ok:∀ (g:Nat) x,Tryd.prog.globals[g]? = some x→x.type < Tryd.prog.types.size:=by
 intro g x h
 have h1:(Tryd.prog.globals.toList.all fun x=>decide (x.type < Tryd.prog.types.size))=true:=by kernel_rfl
 exact of_decide_eq_true (List.all_eq_true.1 h1 x (by simpa using Array.mem_of_getElem? h))
end Go.Cod
set_option linter.all false
set_option linter.all false
namespace Go.Cod
open Go Go.Proofs Go.Shelf Go.RowKit
def layRen:Go.Shelf.Ren:=⟨fun | 166=>16 | 169=>18 | 240=>33 | 276=>52 | n=>n,fun | 3=>3 | 4=>4 | 5=>5 | 9=>9 | 20=>20 | 37=>22 | 70=>43 | 72=>45 | 75=>51 | 80=>55 | 127=>87 | 164=>108 | n=>n,fun n=>n⟩
theorem lay_Lays_n166:Lays.n166 Tryd.prog layRen:={
 mixed:=by kernel_rfl,
 f166:=Tryd.func16.trans (congrArg some (by kernel_rfl)),
 f240:=Tryd.func33.trans (congrArg some (by kernel_rfl)),
 f276:=Tryd.func52.trans (congrArg some (by kernel_rfl)),
 t0:=Tryd.underlying0,
 a0:=Tryd.isAgg0,
 z0:=Tryd.sizeOf0,
 v0:=Tryd.zeroValue0,
 t3:=Tryd.underlying3,
 a3:=Tryd.isAgg3,
 z3:=Tryd.sizeOf3,
 v3:=Tryd.zeroValue3,
 t4:=Tryd.underlying4,
 a4:=Tryd.isAgg4,
 z4:=Tryd.sizeOf4,
 v4:=Tryd.zeroValue4,
 t9:=Tryd.underlying9,
 a9:=Tryd.isAgg9,
 z9:=Tryd.sizeOf9,
 v9:=Tryd.zeroValue9,
 t20:=Tryd.underlying20,
 a20:=Tryd.isAgg20,
 z20:=Tryd.sizeOf20,
 v20:=Tryd.zeroValue20,
 t37:=Tryd.underlying22,
 a37:=Tryd.isAgg22,
 z37:=Tryd.sizeOf22,
 v37:=Tryd.zeroValue22,
 t70:=Tryd.underlying43,
 a70:=Tryd.isAgg43,
 z70:=Tryd.sizeOf43,
 v70:=Tryd.zeroValue43,
 t72:=Tryd.underlying45,
 a72:=Tryd.isAgg45,
 z72:=Tryd.sizeOf45,
 v72:=Tryd.zeroValue45,
 t75:=Tryd.underlying51,
 a75:=Tryd.isAgg51,
 z75:=Tryd.sizeOf51,
 v75:=Tryd.zeroValue51,
 t164:=Tryd.underlying108,
 a164:=Tryd.isAgg108,
 z164:=Tryd.sizeOf108,
 v164:=Tryd.zeroValue108 }
theorem lay_Lays_n169:Lays.n169 Tryd.prog layRen:={
 mixed:=by kernel_rfl,
 f169:=Tryd.func18.trans (congrArg some (by kernel_rfl)),
 t0:=Tryd.underlying0,
 a0:=Tryd.isAgg0,
 z0:=Tryd.sizeOf0,
 v0:=Tryd.zeroValue0,
 t3:=Tryd.underlying3,
 a3:=Tryd.isAgg3,
 z3:=Tryd.sizeOf3,
 v3:=Tryd.zeroValue3,
 t9:=Tryd.underlying9,
 a9:=Tryd.isAgg9,
 z9:=Tryd.sizeOf9,
 v9:=Tryd.zeroValue9,
 t37:=Tryd.underlying22,
 a37:=Tryd.isAgg22,
 z37:=Tryd.sizeOf22,
 v37:=Tryd.zeroValue22,
 t70:=Tryd.underlying43,
 a70:=Tryd.isAgg43,
 z70:=Tryd.sizeOf43,
 v70:=Tryd.zeroValue43,
 t72:=Tryd.underlying45,
 a72:=Tryd.isAgg45,
 z72:=Tryd.sizeOf45,
 v72:=Tryd.zeroValue45,
 t127:=Tryd.underlying87,
 a127:=Tryd.isAgg87,
 z127:=Tryd.sizeOf87,
 v127:=Tryd.zeroValue87 }
theorem layX:Builder.Extra Tryd.prog layRen:={
 sizeBuilder:=by kernel_rfl,
 liesBuilder:=by kernel_rfl,
 t5:=Tryd.underlying5,
 a5:=Tryd.isAgg5,
 z5:=Tryd.sizeOf5,
 v5:=Tryd.zeroValue5,
 infoByte:=by kernel_rfl,
 cellsByte:=by kernel_rfl,
 sizeByte:=by kernel_rfl,
 neB5:=by decide }
def Bld (B b:Nat) (l:List UInt8) (w:World):Prop:=Lib.IsBuilderF 45 5 B b (Lib.byteCells l) w
theorem bld_write (B b:Nat) (l:List UInt8) (s:ByteArray) (w:World) (h:Bld B b l w) (hlen:l.length+s.size≤140737488355328) (hB:B≤w.heap.size) :
  Calls Tryd.prog 16 #[.pointer (some ⟨b,0,none⟩),.string s] w fun e w'=>e=.returned (.tuple #[.int .i64 s.size,.nilIface])∧Bld B b (l++s.data.toList) w'∧Below B w w':=by
 refine (Any.Builder_WriteString_k lay_Lays_n166 layX B b (Lib.byteCells l) s w h (by rw [Lib.byteCells_length]; exact hlen) hB).mono ?_
 rintro e w' ⟨rfl,h1,h2,_⟩
 refine ⟨rfl,?_,h2⟩
 unfold Bld
 rw [Lib.byteCells_append]
 exact Or.inr h1
theorem bld_string (B b:Nat) (l:List UInt8) (w:World) (h:Bld B b l w) (hB:B≤w.heap.size) :
  Calls Tryd.prog 18 #[.pointer (some ⟨b,0,none⟩)] w fun e w'=>e=.returned (.string ⟨l.toArray⟩)∧Below B w w':=by
 refine (Any.Builder_String_any_k lay_Lays_n169 layX B b l w h hB).mono ?_
 rintro e w' ⟨rfl,_,h2,_⟩
 exact ⟨rfl,h2⟩
theorem bldAt_below {T e:TypeId} {B b:Nat} {q:Value} {bs:List Value} {w w':World} (h:Lib.BuilderAtF T e B b q bs w) (hb:Below w.heap.size w w'):Lib.BuilderAtF T e B b q bs w':=by
 have hl:=h.lt
 obtain ⟨h1,r,h2,h3,h4⟩:=h
 exact ⟨h1,r,(hb.block b hl).trans h2,h3.kept (row:=none) ⟨hb.os,hb.tape,hb.output,hb.size,fun k hk _=>hb.block k hk⟩ (Classical.em _),h4⟩
theorem bld_below {B b:Nat} {l:List UInt8} {w w':World} (h:Bld B b l w) (hb:Below w.heap.size w w'):Bld B b l w':=Or.imp (bldAt_below · hb) (bldAt_below · hb) h
theorem bld_fresh (w:World):Bld w.heap.size w.heap.size [] (w.alloc (.cells #[.pointer none,.slice none 0 0] 45)):=Lib.IsBuilderF.of (Lib.fresh_isBuilder _ _ w)
theorem below_new {w w1:World} {o:Obj} (h:Below (w.alloc o).heap.size (w.alloc o) w1):Below w.heap.size w w1∧w1.heap[w.heap.size]? = some o :=
 ⟨((Below.refl _ w).alloc (Nat.le_refl _) o).trans (h.mono (by rw [size_alloc]; omega)),(h.block _ (by rw [size_alloc]; omega)).trans (by rw [heap_alloc,if_pos rfl])⟩
theorem cells_at {w:World} {b:Nat} {cs:Array Value} {t:TypeId} (h:w.heap[b]? = some (.cells cs t)) (n:Nat):w.cell? ⟨b,n,none⟩=cs[n]? := by
 simp [World.cell?,h]
theorem repL_one {Pr:Nat→Nat→Prop} {w:World} {x:V} {cs:List Value} (h:RepL Pr [] w [x] cs):∃ c,cs=[c]∧Rep Pr [] w x c:=by
 match cs,h with
 | [c],h=>exact ⟨c,rfl,h.2 0 x c rfl rfl⟩
 | [],h=>cases h.1
 | _::_::_,h=>exact absurd h.1 (by simp)
theorem rep_sl {Pr:Nat→Nat→Prop} {w:World} {es:List (List V)} {sv:Value} {c:Nat} (h:Rep Pr [] w (.sl es) sv) (hc:∀ e∈es,e.length=c) :
  ∃ ad cap,sv=.slice ad es.length cap∧es.length≤cap∧∀ (i:Nat) e,es[i]? = some e→∃ b off,ad=some ⟨b,off,none⟩∧∀ (j:Nat) x,e[j]? = some x→∃ u,w.cell? ⟨b,off+(i*c+j),none⟩=some u∧Pr b (off+(i*c+j))∧Rep Pr [] w x u:=by
 generalize hx:V.sl es=x at h
 cases h <;> first | (cases hx; done) | skip
 · cases hx
   rename_i a cap
   exact ⟨a,cap,rfl,Nat.zero_le _,fun i e he=>by simp at he⟩
 · cases hx
   rename_i b off cap c' u hcl hn hcc hlf hm hr
   refine ⟨_,_,rfl,hn,fun i e he=>⟨b,off,rfl,fun j x hj=>?_⟩⟩
   have hmem:=List.mem_of_getElem? he
   have e1:c=c':=(hc e hmem).symm.trans (hcc e hmem)
   subst e1
   exact ⟨u i j,(hm i e j x he hj).1,(hm i e j x he hj).2,hr i e j x he hj⟩
end Go.Cod
set_option linter.all false
set_option linter.all false
namespace Go.Cod
open Go Go.Proofs Go.Shelf Go.RowKit
def layRen2:Go.Shelf.Ren:=⟨fun | 129=>78 | 156=>110 | 165=>111 | 166=>16 | 169=>18 | 171=>34 | 240=>33 | 241=>112 | 243=>53 | 246=>71 | 276=>52 | 277=>113 | 283=>73 | 284=>74 | 285=>75 | 286=>76 | 317=>77 | 318=>79 | 319=>80 | 320=>81 | 337=>82 | 338=>83 | n=>n,fun | 2=>2 | 3=>3 | 4=>4 | 5=>5 | 9=>9 | 20=>20 | 31=>59 | 37=>22 | 46=>150 | 51=>147 | 53=>140 | 70=>43 | 72=>45 | 75=>51 | 76=>52 | 80=>55 | 127=>87 | 164=>108 | 171=>139 | 173=>143 | 212=>146 | 213=>148 | 232=>153 | 233=>154 | n=>n,fun | 17=>0 | 18=>1 | 19=>2 | n=>n⟩
theorem lay_LaysM_n171b:LaysM.n171 Tryd.prog layRen2:={
 mixed:=by kernel_rfl,
 f129:=Tryd.func78.trans (congrArg some (by kernel_rfl)),
 f171:=Tryd.func34.trans (congrArg some (by kernel_rfl)),
 f243:=Tryd.func53.trans (congrArg some (by kernel_rfl)),
 f246:=Tryd.func71.trans (congrArg some (by kernel_rfl)),
 f283:=Tryd.func73.trans (congrArg some (by kernel_rfl)),
 f284:=Tryd.func74.trans (congrArg some (by kernel_rfl)),
 f285:=Tryd.func75.trans (congrArg some (by kernel_rfl)),
 f286:=Tryd.func76.trans (congrArg some (by kernel_rfl)),
 f317:=Tryd.func77.trans (congrArg some (by kernel_rfl)),
 f318:=Tryd.func79.trans (congrArg some (by kernel_rfl)),
 f319:=Tryd.func80.trans (congrArg some (by kernel_rfl)),
 f320:=Tryd.func81.trans (congrArg some (by kernel_rfl)),
 f337:=Tryd.func82.trans (congrArg some (by kernel_rfl)),
 f338:=Tryd.func83.trans (congrArg some (by kernel_rfl)),
 t0:=Tryd.underlying0,
 a0:=Tryd.isAgg0,
 z0:=Tryd.sizeOf0,
 v0:=Tryd.zeroValue0,
 t2:=Tryd.underlying2,
 a2:=Tryd.isAgg2,
 z2:=Tryd.sizeOf2,
 v2:=Tryd.zeroValue2,
 t3:=Tryd.underlying3,
 a3:=Tryd.isAgg3,
 z3:=Tryd.sizeOf3,
 v3:=Tryd.zeroValue3,
 t4:=Tryd.underlying4,
 a4:=Tryd.isAgg4,
 z4:=Tryd.sizeOf4,
 v4:=Tryd.zeroValue4,
 t5:=Tryd.underlying5,
 a5:=Tryd.isAgg5,
 z5:=Tryd.sizeOf5,
 v5:=Tryd.zeroValue5,
 t9:=Tryd.underlying9,
 a9:=Tryd.isAgg9,
 z9:=Tryd.sizeOf9,
 v9:=Tryd.zeroValue9,
 t20:=Tryd.underlying20,
 a20:=Tryd.isAgg20,
 z20:=Tryd.sizeOf20,
 v20:=Tryd.zeroValue20,
 t37:=Tryd.underlying22,
 a37:=Tryd.isAgg22,
 z37:=Tryd.sizeOf22,
 v37:=Tryd.zeroValue22,
 t46:=Tryd.underlying150,
 a46:=Tryd.isAgg150,
 z46:=Tryd.sizeOf150,
 v46:=Tryd.zeroValue150,
 t51:=Tryd.underlying147,
 a51:=Tryd.isAgg147,
 z51:=Tryd.sizeOf147,
 v51:=Tryd.zeroValue147,
 t53:=Tryd.underlying140,
 a53:=Tryd.isAgg140,
 z53:=Tryd.sizeOf140,
 v53:=Tryd.zeroValue140,
 t171:=Tryd.underlying139,
 a171:=Tryd.isAgg139,
 z171:=Tryd.sizeOf139,
 v171:=Tryd.zeroValue139,
 t173:=Tryd.underlying143,
 a173:=Tryd.isAgg143,
 z173:=Tryd.sizeOf143,
 v173:=Tryd.zeroValue143,
 t212:=Tryd.underlying146,
 a212:=Tryd.isAgg146,
 z212:=Tryd.sizeOf146,
 v212:=Tryd.zeroValue146,
 t213:=Tryd.underlying148,
 a213:=Tryd.isAgg148,
 z213:=Tryd.sizeOf148,
 t232:=Tryd.underlying153,
 a232:=Tryd.isAgg153,
 z232:=Tryd.sizeOf153,
 v232:=Tryd.zeroValue153,
 t233:=Tryd.underlying154,
 a233:=Tryd.isAgg154,
 z233:=Tryd.sizeOf154,
 v233:=Tryd.zeroValue154,
 g17:=by kernel_rfl,
 g18:=by kernel_rfl,
 g19:=by kernel_rfl,
 i0:=by kernel_rfl,
 i2:=by kernel_rfl,
 i3:=by kernel_rfl,
 i4:=by kernel_rfl,
 i5:=by kernel_rfl,
 i9:=by kernel_rfl,
 i20:=by kernel_rfl,
 i37:=by kernel_rfl,
 i46:=by kernel_rfl,
 i51:=by kernel_rfl,
 i53:=by kernel_rfl,
 i171:=by kernel_rfl,
 i173:=by kernel_rfl,
 i212:=by kernel_rfl,
 i232:=by kernel_rfl,
 i233:=by kernel_rfl,
 m17:=by kernel_rfl,
 m18:=by kernel_rfl,
 m19:=by kernel_rfl }
theorem lay_Lays_n156b:Lays.n156 Tryd.prog layRen2:={
 mixed:=by kernel_rfl,
 f156:=Tryd.func110.trans (congrArg some (by kernel_rfl)),
 f165:=Tryd.func111.trans (congrArg some (by kernel_rfl)),
 f166:=Tryd.func16.trans (congrArg some (by kernel_rfl)),
 f169:=Tryd.func18.trans (congrArg some (by kernel_rfl)),
 f240:=Tryd.func33.trans (congrArg some (by kernel_rfl)),
 f241:=Tryd.func112.trans (congrArg some (by kernel_rfl)),
 f276:=Tryd.func52.trans (congrArg some (by kernel_rfl)),
 f277:=Tryd.func113.trans (congrArg some (by kernel_rfl)),
 t0:=Tryd.underlying0,
 a0:=Tryd.isAgg0,
 z0:=Tryd.sizeOf0,
 v0:=Tryd.zeroValue0,
 t3:=Tryd.underlying3,
 a3:=Tryd.isAgg3,
 z3:=Tryd.sizeOf3,
 v3:=Tryd.zeroValue3,
 t4:=Tryd.underlying4,
 a4:=Tryd.isAgg4,
 z4:=Tryd.sizeOf4,
 v4:=Tryd.zeroValue4,
 t9:=Tryd.underlying9,
 a9:=Tryd.isAgg9,
 z9:=Tryd.sizeOf9,
 v9:=Tryd.zeroValue9,
 t20:=Tryd.underlying20,
 a20:=Tryd.isAgg20,
 z20:=Tryd.sizeOf20,
 v20:=Tryd.zeroValue20,
 t31:=Tryd.underlying59,
 a31:=Tryd.isAgg59,
 z31:=Tryd.sizeOf59,
 v31:=Tryd.zeroValue59,
 t37:=Tryd.underlying22,
 a37:=Tryd.isAgg22,
 z37:=Tryd.sizeOf22,
 v37:=Tryd.zeroValue22,
 t70:=Tryd.underlying43,
 a70:=Tryd.isAgg43,
 z70:=Tryd.sizeOf43,
 v70:=Tryd.zeroValue43,
 t72:=Tryd.underlying45,
 a72:=Tryd.isAgg45,
 z72:=Tryd.sizeOf45,
 v72:=Tryd.zeroValue45,
 t75:=Tryd.underlying51,
 a75:=Tryd.isAgg51,
 z75:=Tryd.sizeOf51,
 v75:=Tryd.zeroValue51,
 t76:=Tryd.underlying52,
 a76:=Tryd.isAgg52,
 z76:=Tryd.sizeOf52,
 v76:=Tryd.zeroValue52,
 t127:=Tryd.underlying87,
 a127:=Tryd.isAgg87,
 z127:=Tryd.sizeOf87,
 v127:=Tryd.zeroValue87,
 t164:=Tryd.underlying108,
 a164:=Tryd.isAgg108,
 z164:=Tryd.sizeOf108,
 v164:=Tryd.zeroValue108 }
theorem layX2:Builder.Extra Tryd.prog layRen2:={
 sizeBuilder:=by kernel_rfl,
 liesBuilder:=by kernel_rfl,
 t5:=Tryd.underlying5,
 a5:=Tryd.isAgg5,
 z5:=Tryd.sizeOf5,
 v5:=Tryd.zeroValue5,
 infoByte:=by kernel_rfl,
 cellsByte:=by kernel_rfl,
 sizeByte:=by kernel_rfl,
 neB5:=by decide }
theorem below_grow (w:World) (k:Nat) (os:Array Obj):Below w.heap.size w (Go.Sort.grow (w.drewN k) os) :=
 ⟨rfl,rfl,rfl,by show w.heap.size≤(w.heap++os).size; rw [Array.size_append]; omega,fun b hb=>by
   show (w.heap++os)[b]? = _
   rw [Array.getElem?_append_left hb]⟩
theorem itoa_all (n:Int) (h0:-9223372036854775808≤n) (h1:n≤9223372036854775807):Pure Tryd.prog 34 [.int .i64 n] (·=.str (Lib.itoa n)):=by
 refine pure_of_below (r:=.str (Lib.itoa n)) ⟨_,Tryd.func34,by kernel_rfl,by kernel_rfl⟩ rfl fun Pr w cargs ha hst=>⟨_,fun _ _=>.str _,?_⟩
 obtain ⟨c,rfl,hc⟩:=repL_one ha
 cases hc
 have hd:Lam.dat 0=some (tabCells .u64 Lib.pow10Tab):=by kernel_rfl
 refine (Any.strconv_Itoa lay_LaysM_n171b n h0 h1 w (tabIs_laid hst.laid (by kernel_rfl) hd (by decide))).mono ?_
 rintro e w' ⟨rfl,k,os,rfl⟩
 exact ⟨rfl,below_grow w k os⟩
theorem bytes_back (l:List (List UInt8)):(l.map fun s=>(⟨s.toArray⟩:ByteArray)).map (·.data.toList)=l:=by
 induction l with
 | nil=>rfl
 | cons a b ih=>rw [List.map_cons,List.map_cons,ih]
def strO (ss:List (List UInt8)):O:=⟨ss.map fun s=>[.str s],1,true,true,false,.cell⟩
theorem join_own {ok:OkY} (ss:List (List UInt8)) (sep:List UInt8) (hN:ss.length≤140737488355328) (hlen:(Lib.join ss sep).length≤281474976710656) :
  Full Tryd.prog ok 110 [.own 0,.str sep] [strO ss] fun o st'=>o=.ret (.str (Lib.join ss sep))∧st'=[strO ss]:=by
 refine full_of_below ⟨_,Tryd.func110,by kernel_rfl,by kernel_rfl⟩ fun Pr γ w cargs ha hst=>⟨.str (Lib.join ss sep),_,⟨rfl,rfl⟩,fun _=>.str _,?_⟩
 match cargs,ha with
 | [],ha=>cases ha.1
 | [_],ha=>exact absurd ha.1 (by simp)
 | _::_::_::_,ha=>exact absurd ha.1 (by simp)
 | [c0,c1],ha =>
   have r0:=ha.2 0 _ c0 rfl rfl
   have r1:=ha.2 1 _ c1 rfl rfl
   cases r1
   cases r0 with
   | @own _ g hg =>
   obtain ⟨e1,e2,e3,e4⟩:=own_strs (ss:=ss) hst (k:=0) rfl hg rfl rfl rfl
   have hx:(ss.map fun s=>(⟨s.toArray⟩:ByteArray)).map (·.data.toList)=ss:=bytes_back ss
   have hc:=Any.strings_Join_48 lay_Lays_n156b layX2 g.blk 0 g.cap (ss.map fun s=>⟨s.toArray⟩) ⟨sep.toArray⟩ w (fun j x hj=>by
    simp only [List.getElem?_map,Option.map_eq_some_iff] at hj
    obtain ⟨s,hs,rfl⟩:=hj
    exact e4 j s hs) e3 (by simpa using hN) (by simpa using e2) (by rw [hx]; exact hlen)
   rw [hx,List.length_map,← e1] at hc
   exact hc
end Go.Cod
set_option linter.all false
namespace Go.Cod
open Go Go.Proofs
set_option maxRecDepth 10000
def leafW (id:Int) (kd tx:List UInt8):List UInt8:=if tx=[] then kd++[35]++Lib.itoa id else kd++[35]++Lib.itoa id++[34]++tx++[34]
theorem leafW_len (id:Int) (kd tx:List UInt8) (h0:-9223372036854775808≤id) (h1:id≤9223372036854775807):(leafW id kd tx).length≤kd.length+tx.length+24:=by
 have hl:=Lib.itoa_length_le id h0 h1
 unfold leafW
 split <;> simp only [List.length_append,List.length_cons,List.length_nil] <;> omega
theorem leaf_written (id:Int) (kd tx:List UInt8) (h0:-9223372036854775808≤id) (h1:id≤9223372036854775807) (hk:kd.length≤1048576) (ht:tx.length≤1048576) :
  Pure Tryd.prog 108 [.agg [.str kd,.int .i64 id,.str tx]] (·=.str (leafW id kd tx)):=by
 have hi:=itoa_all id h0 h1
 have hl:=Lib.itoa_length_le id h0 h1
 unfold leafW
 refine pure_of_awp good Tryd.func108 rfl (by kernel_rfl) (by decide) ?_
 conv=>whnf
 refine ⟨by show kd.length+1≤_; omega,?_⟩
 conv=>whnf
 refine ⟨_,.inl hi,?_⟩
 conv=>whnf
 generalize Lib.itoa id=ds at *
 refine ⟨by show (kd++[35]).length+ds.length≤_; simp only [List.length_append,List.length_cons,List.length_nil]; omega,?_⟩
 by_cases hx:tx=[]
 · rw [if_pos hx]
   conv=>whnf
   rw [eqS_t hx]
   conv=>whnf
   first | rfl | skip
 · rw [if_neg hx]
   conv=>whnf
   rw [eqS_f hx]
   conv=>whnf
   refine ⟨by show (kd++[35]++ds).length+1≤_; simp only [List.length_append,List.length_cons,List.length_nil]; omega,?_⟩
   conv=>whnf
   refine ⟨by show (kd++[35]++ds++[34]).length+tx.length≤_; simp only [List.length_append,List.length_cons,List.length_nil]; omega,?_⟩
   conv=>whnf
   refine ⟨by show (kd++[35]++ds++[34]++tx).length+1≤_; simp only [List.length_append,List.length_cons,List.length_nil]; omega,?_⟩
   conv=>whnf
   first | rfl | skip
end Go.Cod
set_option linter.all false
namespace Go.Cod
open Go Go.Proofs
set_option maxRecDepth 10000
def brW:List (List UInt8)→List UInt8
 | []=>[]
 | w::ws=>[91]++Lib.join (w::ws) [44]++[93]
mutual
def T.wr:T→List UInt8
 | .mk id kd tx kids=>leafW id kd tx++brW (T.wrL kids)
def T.wrL:List T→List (List UInt8)
 | []=>[]
 | t::ts=>T.wr t::T.wrL ts
end
theorem T.wrL_eq (ts:List T):T.wrL ts=ts.map T.wr:=by
 induction ts with
 | nil=>rfl
 | cons t ts ih=>simp [T.wrL,ih]
def leafV (id:Int) (kd tx:List UInt8):V:=.iface 136 (.agg [.str kd,.int .i64 id,.str tx])
def branchV (id:Int) (kd tx:List UInt8) (rows:List (List V)):V:=.iface 138 (.agg [.str kd,.int .i64 id,.str tx,.sl rows])
theorem thingOf_leaf (id:Int) (kd tx:List UInt8):Pure Tryd.prog 54 [.agg [.int .i64 id,.str kd,.str tx,.sl []]] (·=leafV id kd tx):=by
 refine pure_of_awp good Tryd.func54 rfl (by kernel_rfl) (by decide) ?_
 conv=>whnf
 rw [eqB_t (by rfl)]
 conv=>whnf
 first | rfl | skip
theorem thingOf_branch (id:Int) (kd tx:List UInt8) (rows:List (List V)) (h0:0 < rows.length):Pure Tryd.prog 54 [.agg [.int .i64 id,.str kd,.str tx,.sl rows]] (·=branchV id kd tx rows):=by
 refine pure_of_awp good Tryd.func54 rfl (by kernel_rfl) (by decide) ?_
 conv=>whnf
 rw [eqB_f (by omega)]
 conv=>whnf
 first | rfl | skip
end Go.Cod
set_option linter.all false
namespace Go.Cod
open Go Go.Proofs
set_option linter.all false
set_option maxRecDepth 10000
def WrOk (t:T):Prop:=match t with
 | .mk id kd tx []=>Pure Tryd.prog 108 [.agg [.str kd,.int .i64 id,.str tx]] (·=.str (T.wr t))
 | .mk id kd tx (k::ks)=>Pure Tryd.prog 109 [.agg [.str kd,.int .i64 id,.str tx,.sl (T.rows (k::ks))]] (·=.str (T.wr t))
theorem wrL_take (ks:List T) (i:Nat) (h:i < ks.length):(ks.map T.wr).take (i+1)=(ks.map T.wr).take i++[T.wr ks[i]]:=by
 rw [List.take_succ_eq_append_getElem (by simpa using h)]
 simp
set_option maxHeartbeats 1600000 in
theorem branch_written (id:Int) (kd tx:List UInt8) (kids:List T) (hid:-9223372036854775808≤id∧id≤9223372036854775807) (hk:kd.length≤1048576) (htx:tx.length≤1048576) (h0:0 < kids.length) (hl:kids.length≤1048576)
  (hw:∀ t∈kids,WrOk t) (hj:(Lib.join (kids.map T.wr) [44]).length≤1048576) :
  Pure Tryd.prog 109 [.agg [.str kd,.int .i64 id,.str tx,.sl (T.rows kids)]] (·=.str (leafW id kd tx++[91]++Lib.join (kids.map T.wr) [44]++[93])):=by
 have hlr:=Go.Cod.rows_len kids
 have hll:=leafW_len id kd tx hid.1 hid.2
 have hleaf:=leaf_written id kd tx hid.1 hid.2 hk htx
 refine pure_of_awp good Tryd.func109 rfl (by kernel_rfl) (by decide) ?_
 conv=>whnf
 refine loop_drop (fun n fr st=>∃ i:Nat,n+i=kids.length ∧
   ((i=0∧Holds fr [(1,.ptr 0 0 0),(3,.nils),(7,.sl (T.rows kids)),(8,.int .i64 kids.length),(9,.int .i64 i)]∧st=[⟨[[.str kd,.int .i64 id,.str tx,.sl (T.rows kids)]],4,true,true,true,.cell⟩]) ∨
    (0 < i∧Holds fr [(1,.ptr 0 0 0),(3,.own 1),(7,.sl (T.rows kids)),(8,.int .i64 kids.length),(9,.int .i64 i)]∧st=[⟨[[.str kd,.int .i64 id,.str tx,.sl (T.rows kids)]],4,true,true,true,.cell⟩,strO ((kids.map T.wr).take i)]))) kids.length none
  ⟨0,rfl,.inl ⟨rfl,⟨rfl,rfl,rfl,by rw [← hlr]; rfl,rfl,trivial⟩,rfl⟩⟩ ?_
 rintro n fr st ⟨i,hi,hst⟩
 rcases hst with ⟨rfl,hh,rfl⟩ | ⟨hi0,hh,rfl⟩
 · obtain ⟨fr,rfl⟩:=hh.split
   clear hh
   conv=>whnf
   rw [ltB_t (by omega)]
   conv=>whnf
   have hg:=rows_get kids 0 h0
   have htk:=wrL_take kids 0 h0
   have hwt:=hw kids[0] (List.getElem_mem h0)
   generalize kids[0]=t at hg htk hwt
   cases t with
   | mk id' kind' text' kids' =>
   refine ⟨by omega,T.rows kids,_,4,rfl,hg,rfl,rfl,?_⟩
   conv=>whnf
   cases kids' with
   | nil =>
     refine .inl ((thingOf_leaf id' kind' text').mono ?_)
     rintro r rfl
     conv=>whnf
     have hwt:Pure Tryd.prog 108 [.agg [.str kind',.int .i64 id',.str text']] (·=.str (T.wr (.mk id' kind' text' []))):=hwt
     generalize T.wr (.mk id' kind' text' [])=wd at *
     refine ⟨_,rfl,.inl (hwt.mono ?_)⟩
     rintro r rfl
     conv=>whnf
     refine ⟨fun m hm=>by rw [List.mem_singleton.1 hm]; rfl,?_⟩
     conv=>whnf
     refine ⟨by show 1*16≤_; omega,.inr ⟨(by intro e; cases e),?_⟩⟩
     conv=>whnf
     refine ⟨n - 1,by omega,some [0,3],?_⟩
     conv=>whnf
     refine ⟨1,by omega,.inr ⟨by omega,⟨rfl,rfl,rfl,rfl,rfl,trivial⟩,?_⟩⟩
     rw [htk]
     rfl
   | cons k ks =>
     refine .inl ((thingOf_branch id' kind' text' (T.rows (k::ks)) (by simp [T.rows])).mono ?_)
     rintro r rfl
     conv=>whnf
     have hwt:Pure Tryd.prog 109 [.agg [.str kind',.int .i64 id',.str text',.sl (T.rows (k::ks))]] (·=.str (T.wr (.mk id' kind' text' (k::ks)))):=hwt
     generalize T.wr (.mk id' kind' text' (k::ks))=wd at *
     refine ⟨_,rfl,.inl (hwt.mono ?_)⟩
     rintro r rfl
     conv=>whnf
     refine ⟨fun m hm=>by rw [List.mem_singleton.1 hm]; rfl,?_⟩
     conv=>whnf
     refine ⟨by show 1*16≤_; omega,.inr ⟨(by intro e; cases e),?_⟩⟩
     conv=>whnf
     refine ⟨n - 1,by omega,some [0,3],?_⟩
     conv=>whnf
     refine ⟨1,by omega,.inr ⟨by omega,⟨rfl,rfl,rfl,rfl,rfl,trivial⟩,?_⟩⟩
     rw [htk]
     rfl
 · obtain ⟨fr,rfl⟩:=hh.split
   clear hh
   have hln:(strO ((kids.map T.wr).take i)).es.length=i:=by
    show (((kids.map T.wr).take i).map _).length=i
    rw [List.length_map,List.length_take,List.length_map]; omega
   conv=>whnf
   by_cases hlt:i < kids.length
   · rw [ltB_t (by omega)]
     conv=>whnf
     have hg:=rows_get kids i hlt
     have htk:=wrL_take kids i hlt
     have hwt:=hw kids[i] (List.getElem_mem hlt)
     generalize kids[i]=t at hg htk hwt
     cases t with
     | mk id' kind' text' kids' =>
     refine ⟨by omega,T.rows kids,_,4,rfl,hg,rfl,rfl,?_⟩
     conv=>whnf
     cases kids' with
     | nil =>
       refine .inl ((thingOf_leaf id' kind' text').mono ?_)
       rintro r rfl
       conv=>whnf
       have hwt:Pure Tryd.prog 108 [.agg [.str kind',.int .i64 id',.str text']] (·=.str (T.wr (.mk id' kind' text' []))):=hwt
       generalize T.wr (.mk id' kind' text' [])=wd at *
       refine ⟨_,rfl,.inl (hwt.mono ?_)⟩
       rintro r rfl
       conv=>whnf
       refine ⟨fun m hm=>by rw [List.mem_singleton.1 hm]; rfl,?_⟩
       conv=>whnf
       refine ⟨by
        show ((strO ((kids.map T.wr).take i)).es.length+1)*16≤_
        rw [hln]; omega,?_⟩
       conv=>whnf
       refine ⟨n - 1,by omega,some [0,4],?_⟩
       conv=>whnf
       refine ⟨i+1,by omega,.inr ⟨by omega,⟨rfl,rfl,rfl,rfl,?_,trivial⟩,?_⟩⟩
       · show V.int .i64 (IntKind.i64.wrap (i+1))=_
         rw [wrap64 (by omega) (by omega)]; simp
       · rw [htk]
         simp only [strO,List.map_append]
         rfl
     | cons k ks =>
       refine .inl ((thingOf_branch id' kind' text' (T.rows (k::ks)) (by simp [T.rows])).mono ?_)
       rintro r rfl
       conv=>whnf
       have hwt:Pure Tryd.prog 109 [.agg [.str kind',.int .i64 id',.str text',.sl (T.rows (k::ks))]] (·=.str (T.wr (.mk id' kind' text' (k::ks)))):=hwt
       generalize T.wr (.mk id' kind' text' (k::ks))=wd at *
       refine ⟨_,rfl,.inl (hwt.mono ?_)⟩
       rintro r rfl
       conv=>whnf
       refine ⟨fun m hm=>by rw [List.mem_singleton.1 hm]; rfl,?_⟩
       conv=>whnf
       refine ⟨by
        show ((strO ((kids.map T.wr).take i)).es.length+1)*16≤_
        rw [hln]; omega,?_⟩
       conv=>whnf
       refine ⟨n - 1,by omega,some [0,4],?_⟩
       conv=>whnf
       refine ⟨i+1,by omega,.inr ⟨by omega,⟨rfl,rfl,rfl,rfl,?_,trivial⟩,?_⟩⟩
       · show V.int .i64 (IntKind.i64.wrap (i+1))=_
         rw [wrap64 (by omega) (by omega)]; simp
       · rw [htk]
         simp only [strO,List.map_append]
         rfl
   · rw [ltB_f (by omega)]
     conv=>whnf
     rw [List.take_of_length_le (by rw [List.length_map]; omega)]
     refine .inl (hleaf.mono ?_)
     rintro r rfl
     conv=>whnf
     generalize leafW id kd tx=lw at *
     refine ⟨by show lw.length+1≤_; omega,?_⟩
     conv=>whnf
     refine ⟨[1],false,?_⟩
     conv=>whnf
     refine (join_own (kids.map T.wr) [44] (by rw [List.length_map]; omega) (by omega)).mono ?_
     rintro o st' ⟨rfl,rfl⟩
     conv=>whnf
     generalize Lib.join (kids.map T.wr) [44]=js at *
     refine ⟨by show (lw++[91]).length+js.length≤_; simp only [List.length_append,List.length_cons,List.length_nil]; omega,?_⟩
     conv=>whnf
     refine ⟨by show (lw++[91]++js).length+1≤_; simp only [List.length_append,List.length_cons,List.length_nil]; omega,?_⟩
     conv=>whnf
     first | rfl | skip
end Go.Cod
set_option linter.all false
namespace Go.Cod
open Go Go.Proofs
set_option linter.all false
set_option maxRecDepth 10000
theorem join_snoc (l:List (List UInt8)) (w sep:List UInt8) (h:l≠[]):Lib.join (l++[w]) sep=Lib.join l sep++sep++w:=by
 cases l with
 | nil=>exact absurd rfl h
 | cons x r =>
   rw [List.cons_append,Lib.join_cons,Lib.join_cons]
   simp [Lib.joinTail]
theorem join_len (l:List (List UInt8)):(Lib.join l [44]).length≤(l.map fun w=>w.length+1).sum:=by
 cases l with
 | nil=>simp [Lib.join_nil]
 | cons x r =>
   rw [Lib.join_cons,List.length_append]
   have:(Lib.joinTail [44] r).length=(r.map fun w=>w.length+1).sum:=by
    induction r with
    | nil=>rfl
    | cons y r ih =>
      have e:Lib.joinTail [44] (y::r)=[44]++y++Lib.joinTail [44] r:=by simp [Lib.joinTail]
      rw [e]
      simp only [List.length_append,List.length_cons,List.length_nil,List.map_cons,List.sum_cons,ih]
      omega
   rw [this]
   simp only [List.map_cons,List.sum_cons]
   omega
theorem idsL_sum (ts:List T):(T.idsL ts).length=(ts.map fun t=>t.ids.length).sum:=by
 induction ts with
 | nil=>rfl
 | cons t ts ih=>simp [T.idsL,ih]
theorem sum_le_of {α:Type} (f g:α→Nat):∀ l:List α,(∀ x∈l,f x≤g x)→(l.map f).sum≤(l.map g).sum
 | [],_=>Nat.le_refl _
 | a::l,h=>by
   have h1:=h a (by simp)
   have h2:=sum_le_of f g l fun x hx=>h x (by simp [hx])
   simp only [List.map_cons,List.sum_cons]
   omega
theorem sum_mul (l:List T):(l.map fun t=>64*t.ids.length).sum=64*(l.map fun t=>t.ids.length).sum:=by
 induction l with
 | nil=>rfl
 | cons a l ih=>simp only [List.map_cons,List.sum_cons,ih]; omega
theorem plainT_kids {id:Int} {kd tx:List UInt8} {kids:List T} {lv:Int} (h:plainT (.mk id kd tx kids) lv=true):(1≤id∧id≤999)∧kd.length≤8∧tx.length≤12∧∀ t∈kids,plainT t (lv+1)=true:=by
 simp only [plainT,Bool.and_eq_true,decide_eq_true_eq] at h
 obtain ⟨⟨⟨⟨_,h1⟩,h2⟩,h3⟩,h4⟩:=h
 refine ⟨h1,?_,?_,fun t ht=>?_⟩
 · unfold nameL at h2
   simp at h2
   omega
 · unfold textL at h3
   simp at h3
   omega
 · rw [plainL_eq] at h4
   exact List.all_eq_true.1 h4 t ht
theorem wr_len (t:T) (hs:t.Small):∀ lv,plainT t lv=true→(T.wr t).length+1≤64*t.ids.length∧(Lib.join (t.kids.map T.wr) [44]).length≤64*t.ids.length:=by
 induction hs with
 | @mk id kd tx kids g1 g2 g3 g4 g5 ih =>
   intro lv h
   obtain ⟨h1,h2,h3,h4⟩:=plainT_kids h
   have hl:=leafW_len id kd tx (by omega) (by omega)
   have hj:=join_len (kids.map T.wr)
   have hs:=sum_le_of (fun t=>(T.wr t).length+1) (fun t=>64*t.ids.length) kids fun t ht=>(ih t ht (lv+1) (h4 t ht)).1
   rw [sum_mul,← idsL_sum] at hs
   rw [List.map_map] at hj
   have hj:(Lib.join (kids.map T.wr) [44]).length≤(kids.map fun t=>(T.wr t).length+1).sum:=hj
   have hi:(T.mk id kd tx kids).ids.length=(T.idsL kids).length+1:=by simp [T.ids]
   have hw:(T.wr (.mk id kd tx kids)).length≤44+((Lib.join (kids.map T.wr) [44]).length+2):=by
    rw [T.wr,List.length_append,T.wrL_eq]
    have:(brW (kids.map T.wr)).length≤(Lib.join (kids.map T.wr) [44]).length+2:=by
     cases kids.map T.wr with
     | nil=>simp [brW]
     | cons a b=>simp only [brW,List.length_append,List.length_cons,List.length_nil]; omega
    omega
   simp only [T.kids]
   omega
theorem wr_branch (id:Int) (kd tx:List UInt8) (k:T) (ks:List T):T.wr (.mk id kd tx (k::ks))=leafW id kd tx++[91]++Lib.join ((k::ks).map T.wr) [44]++[93]:=by
 rw [T.wr,T.wrL_eq]
 simp only [List.map_cons,brW,List.append_assoc]
theorem wr_leaf (id:Int) (kd tx:List UInt8):T.wr (.mk id kd tx [])=leafW id kd tx:=by
 simp [T.wr,T.wrL,brW]
theorem wr_ok (t:T) (hs:t.Small):∀ lv,plainT t lv=true→t.ids.length≤16000→WrOk t:=by
 induction hs with
 | @mk id kd tx kids g1 g2 g3 g4 g5 ih =>
   intro lv h hn
   obtain ⟨h1,h2,h3,h4⟩:=plainT_kids h
   have hl:=(wr_len _ (.mk g1 g2 g3 g4 g5) lv h).2
   cases kids with
   | nil =>
     show Pure Tryd.prog _ _ (·=.str (T.wr (.mk id kd tx [])))
     rw [wr_leaf]
     exact leaf_written id kd tx g1.1 g1.2 g2 g3
   | cons k ks =>
     show Pure Tryd.prog _ _ (·=.str (T.wr (.mk id kd tx (k::ks))))
     rw [wr_branch]
     have hk:∀ t∈(k::ks),t.ids.length≤16000:=fun t ht=>by
      have:t.ids.length≤(T.idsL (k::ks)).length:=by
       obtain ⟨a,b,e⟩:=List.append_of_mem ht
       rw [e,idsL_append,T.idsL]
       simp; omega
      have hi:(T.mk id kd tx (k::ks)).ids.length=(T.idsL (k::ks)).length+1:=by simp [T.ids]
      omega
     exact branch_written id kd tx (k::ks) g1 g2 g3 (by simp) g4 (fun t ht=>ih t ht (lv+1) (h4 t ht) (hk t ht)) (by simp only [T.kids] at hl; omega)
theorem implTreeWrite_pure (t:T) (hs:t.Small):Pure Tryd.prog 35 [.agg t.cells] (·=.str (if okT t=true then T.wr t else [])):=by
 have hok:=implTreeOk t hs
 cases h:okT t with
 | false =>
   rw [h] at hok
   rw [if_neg (by decide)]
   cases t with
   | mk id kd tx kids =>
   refine pure_of_awp good Tryd.func35 rfl (by kernel_rfl) (by decide) ?_
   conv=>whnf
   refine .inl (hok.mono ?_)
   rintro r rfl
   conv=>whnf
 | true =>
   rw [h] at hok
   rw [if_pos rfl]
   have hp:plainT t 1=true∧t.ids.length≤20:=by
    unfold okT at h
    simp only [Bool.and_eq_true,decide_eq_true_eq] at h
    exact ⟨h.1.1,h.2⟩
   have hw:=wr_ok t hs 1 hp.1 (by omega)
   clear h hp
   cases t with
   | mk id kd tx kids =>
   cases kids with
   | nil =>
     have hw:Pure Tryd.prog 108 [.agg [.str kd,.int .i64 id,.str tx]] (·=.str (T.wr (.mk id kd tx []))):=hw
     generalize T.wr (.mk id kd tx [])=wd at *
     refine pure_of_awp good Tryd.func35 rfl (by kernel_rfl) (by decide) ?_
     conv=>whnf
     refine .inl (hok.mono ?_)
     rintro r rfl
     conv=>whnf
     refine .inl ((thingOf_leaf id kd tx).mono ?_)
     rintro r rfl
     conv=>whnf
     refine ⟨_,rfl,.inl (hw.mono ?_)⟩
     rintro r rfl
     conv=>whnf
   | cons k ks =>
     have hw:Pure Tryd.prog 109 [.agg [.str kd,.int .i64 id,.str tx,.sl (T.rows (k::ks))]] (·=.str (T.wr (.mk id kd tx (k::ks)))):=hw
     have ht:=thingOf_branch id kd tx (T.rows (k::ks)) (by simp [T.rows])
     generalize T.wr (.mk id kd tx (k::ks))=wd at *
     refine pure_of_awp good Tryd.func35 rfl (by kernel_rfl) (by decide) ?_
     conv=>whnf
     refine .inl (hok.mono ?_)
     rintro r rfl
     conv=>whnf
     refine .inl (ht.mono ?_)
     rintro r rfl
     conv=>whnf
     refine ⟨_,rfl,.inl (hw.mono ?_)⟩
     rintro r rfl
     conv=>whnf
end Go.Cod
set_option linter.all false
namespace Go.Cod
open Go Go.Proofs
set_option linter.all false
set_option maxRecDepth 10000
theorem decDigits_lt (n:Nat) (h:n < 10):Lib.decDigits n=[UInt8.ofNat (48+n)]:=by
 rw [Lib.decDigits,dif_pos h]
theorem decDigits_ge (n:Nat) (h:¬ n < 10):Lib.decDigits n=Lib.decDigits (n / 10)++[UInt8.ofNat (48+n % 10)]:=by
 rw [Lib.decDigits,dif_neg h]
theorem itoa_nat (n:Nat):Lib.itoa (n:Int)=Lib.decDigits n:=by
 rw [Lib.itoa,if_neg (by omega)]
 rfl
theorem l1Dec_lt (n:Nat) (h1:n < 10):Pure Tryd.prog 22 [.int .i64 (n:Int)] (·=.str (Lib.decDigits n)):=by
 rw [decDigits_lt n h1]
 refine pure_of_awp good Tryd.func22 rfl (by kernel_rfl) (by decide) ?_
 conv=>whnf
 rw [ltB_f (by omega)]
 conv=>whnf
 rw [ltB_f (by omega)]
 conv=>whnf
 rw [ltB_t (by omega)]
 conv=>whnf
 refine ⟨[UInt8.ofNat (48+n)],?_,?_⟩
 · have w1:IntKind.i64.wrap (48+(n:Int))=48+n:=wrap64 (by omega) (by omega)
   rw [w1]
   have:∀ n < 10,IntKind.u8.wrap (48+((n:Nat):Int))=(((UInt8.ofNat (48+n)).toNat:Nat):Int):=by decide
   show [[V.int .u8 (IntKind.u8.wrap (48+(n:Int)))]]=[[V.int .u8 _]]
   rw [this n h1]
 · conv=>whnf
theorem l1Dec_nat (n:Nat) (hn:n≤9223372036854775807):Pure Tryd.prog 22 [.int .i64 (n:Int)] (·=.str (Lib.decDigits n)):=by
 induction n using Nat.strongRecOn with
 | _ n ih =>
 by_cases h:n < 10
 · exact l1Dec_lt n h
 · have hr:=ih (n / 10) (by omega) (by omega)
   have hl:=Lib.itoa_length_le ((n / 10:Nat):Int) (by omega) (by omega)
   rw [itoa_nat] at hl
   rw [decDigits_ge n h]
   generalize Lib.decDigits (n / 10)=ds at *
   have e:(((n / 10:Nat)):Int)=IntKind.i64.wrap ((n:Int).tdiv 10):=by
    rw [Int.tdiv_eq_ediv_of_nonneg (by omega),wrap64 (by omega) (by omega)]; omega
   have e':(((n % 10:Nat)):Int)=(n:Int).tmod 10:=by
    rw [Int.tmod_eq_emod_of_nonneg (by omega)]; omega
   rw [e] at hr
   refine pure_of_awp good Tryd.func22 rfl (by kernel_rfl) (by decide) ?_
   conv=>whnf
   rw [ltB_f (by omega)]
   conv=>whnf
   rw [ltB_f (by omega)]
   conv=>whnf
   rw [ltB_f (by omega)]
   conv=>whnf
   refine ⟨by omega,?_⟩
   conv=>whnf
   refine ⟨_,.inl hr,?_⟩
   conv=>whnf
   refine ⟨by omega,?_⟩
   conv=>whnf
   refine ⟨rfl,?_⟩
   conv=>whnf
   refine And.intro ⟨_,.inl hr,rfl⟩ ?_
   conv=>whnf
   refine ⟨[UInt8.ofNat (48+n % 10)],?_,?_⟩
   · have:∀ n < 10,IntKind.u8.wrap ((48+n:Nat):Int)=(((UInt8.ofNat (48+n)).toNat:Nat):Int):=by decide
     show [[V.int .u8 (IntKind.u8.wrap (IntKind.i64.wrap (48+(n:Int).tmod 10)))]]=[[V.int .u8 _]]
     rw [← e',show (48:Int)+((n % 10:Nat):Int)=((48+n % 10:Nat):Int) by omega,wrap64 (by omega) (by omega),this (n % 10) (by omega)]
   conv=>whnf
   refine And.intro ⟨_,.inl hr,rfl⟩ ?_
   conv=>whnf
   refine ⟨by show ds.length+1≤_; omega,?_⟩
   conv=>whnf
   first | rfl | skip
theorem l1Dec_all (n:Int) (h0:-9223372036854775808≤n) (h1:n≤9223372036854775807):Pure Tryd.prog 22 [.int .i64 n] (·=.str (Lib.itoa n)):=by
 by_cases hn:0≤n
 · obtain ⟨m,rfl⟩:∃ m:Nat,n=(m:Int):=⟨n.toNat,by omega⟩
   rw [itoa_nat]
   exact l1Dec_nat m (by omega)
 · by_cases hm:n < -9223372036854775807
   · obtain rfl:n=-9223372036854775808:=by omega
     have hv:Lib.itoa (-9223372036854775808)=[45,57,50,50,51,51,55,50,48,51,54,56,53,52,55,55,53,56,48,56]:=by
      rw [Lib.itoa,if_pos (by decide),show (-9223372036854775808:Int).natAbs=9223372036854775808 from rfl]
      simp [Lib.decDigits]
     rw [hv]
     refine pure_of_awp good Tryd.func22 rfl (by kernel_rfl) (by decide) ?_
     conv=>whnf
     rw [ltB_t (by omega)]
     conv=>whnf
     first | rfl | skip
   · obtain ⟨m,rfl⟩:∃ m:Nat,n=-(m:Int):=⟨n.natAbs,by omega⟩
     have hr:=l1Dec_nat m (by omega)
     have hl:=Lib.itoa_length_le (m:Int) (by omega) (by omega)
     rw [itoa_nat] at hl
     have hv:Lib.itoa (-(m:Int))=45::Lib.decDigits m:=by
      rw [Lib.itoa,if_pos (by omega),show (-(m:Int)).natAbs=m by omega]
     rw [hv]
     generalize Lib.decDigits m=ds at *
     have e:IntKind.i64.wrap (0 - -(m:Int))=(m:Int):=by rw [wrap64 (by omega) (by omega)]; omega
     refine pure_of_awp good Tryd.func22 rfl (by kernel_rfl) (by decide) ?_
     conv=>whnf
     rw [ltB_f (by omega)]
     conv=>whnf
     rw [ltB_t (by omega)]
     conv=>whnf
     rw [← e] at hr
     refine .inl (hr.mono ?_)
     rintro r rfl
     conv=>whnf
     refine ⟨by show 1+ds.length≤_; omega,?_⟩
     conv=>whnf
     first | rfl | skip
end Go.Cod
set_option linter.all false
namespace Go.Cod
open Go Go.Proofs
set_option linter.all false
set_option maxRecDepth 10000
def opW:List (List UInt8)→List UInt8
 | []=>[]
 | w::ws=>[91]++Lib.join (w::ws) [44]
theorem opW_ne (l:List (List UInt8)) (h:l≠[]):opW l=[91]++Lib.join l [44]:=by
 cases l with
 | nil=>exact absurd rfl h
 | cons a b=>rfl
theorem opW_snoc (l:List (List UInt8)) (w:List UInt8) (h:l≠[]):opW (l++[w])=opW l++[44]++w:=by
 rw [opW_ne l h,opW_ne _ (by simp),join_snoc l w [44] h]
 simp
theorem joinTail_take (r:List (List UInt8)) (k:Nat):(Lib.joinTail [44] (r.take k)).length≤(Lib.joinTail [44] r).length:=by
 have:Lib.joinTail [44] r=Lib.joinTail [44] (r.take k)++Lib.joinTail [44] (r.drop k):=by
  unfold Lib.joinTail
  rw [← List.flatten_append,← List.map_append,List.take_append_drop]
 rw [this,List.length_append]
 omega
theorem opW_len (l:List (List UInt8)) (k:Nat):(opW (l.take k)).length≤(Lib.join l [44]).length+1:=by
 cases l with
 | nil=>simp [opW]
 | cons x r =>
   cases k with
   | zero=>simp [opW]
   | succ k =>
     rw [List.take_succ_cons,opW_ne _ (by simp),Lib.join_cons,Lib.join_cons]
     have:=joinTail_take r k
     simp only [List.length_append,List.length_cons,List.length_nil]
     omega
theorem brW_opW (l:List (List UInt8)) (h:l≠[]):brW l=opW l++[93]:=by
 cases l with
 | nil=>exact absurd rfl h
 | cons a b=>rfl
theorem take_ne {l:List T} {i:Nat} (h0:i≠0) (h:i < l.length):(l.map T.wr).take i≠[]:=by
 intro e
 have:((l.map T.wr).take i).length=0:=by rw [e]; rfl
 rw [List.length_take,List.length_map] at this
 omega
set_option maxHeartbeats 1600000 in
theorem l2Write_pure1 (id:Int) (kd tx:List UInt8) (kids:List T) (hid:-9223372036854775808≤id∧id≤9223372036854775807) (hk:kd.length≤1048576) (htx:tx.length≤1048576) (hl:kids.length≤1048576)
  (hw:∀ t∈kids,Pure Tryd.prog 23 [.agg t.cells] (·=.str (T.wr t))∧(T.wr t).length≤1048576) (hj:(Lib.join (kids.map T.wr) [44]).length≤1048576) :
  Pure Tryd.prog 23 [.agg [.int .i64 id,.str kd,.str tx,.sl (T.rows kids)]] (·=.str (leafW id kd tx++brW (kids.map T.wr))):=by
 have hlr:=Go.Cod.rows_len kids
 have hi:=l1Dec_all id hid.1 hid.2
 have hll:=leafW_len id kd tx hid.1 hid.2
 have hil:=Lib.itoa_length_le id hid.1 hid.2
 have hof:=opW_len (kids.map T.wr)
 refine pure_of_awp good Tryd.func23 rfl (by kernel_rfl) (by decide) ?_
 conv=>whnf
 refine ⟨by show kd.length+1≤_; omega,?_⟩
 conv=>whnf
 refine ⟨_,.inl hi,?_⟩
 conv=>whnf
 refine ⟨by show (kd++[35]).length+(Lib.itoa id).length≤_; simp only [List.length_append,List.length_cons,List.length_nil]; omega,?_⟩
 conv=>whnf
 have hlw:leafW id kd tx=if tx=[] then kd++[35]++Lib.itoa id else kd++[35]++Lib.itoa id++[34]++tx++[34]:=rfl
 generalize leafW id kd tx=lw at *
 generalize Lib.itoa id=ds at *
 by_cases hx:tx=[]
 case' pos =>
  rw [if_pos hx] at hlw
  rw [eqS_t hx]
  conv=>whnf
 case' neg =>
  rw [if_neg hx] at hlw
  rw [eqS_f hx]
  conv=>whnf
  refine ⟨by show (kd++[35]++ds).length+1≤_; simp only [List.length_append,List.length_cons,List.length_nil]; omega,?_⟩
  conv=>whnf
  refine ⟨by show (kd++[35]++ds++[34]).length+tx.length≤_; simp only [List.length_append,List.length_cons,List.length_nil]; omega,?_⟩
  conv=>whnf
  refine ⟨by show (kd++[35]++ds++[34]++tx).length+1≤_; simp only [List.length_append,List.length_cons,List.length_nil]; omega,?_⟩
  conv=>whnf
 all_goals
  refine loop_intro (fun n fr st=>∃ i:Nat,n+i=kids.length∧st=[⟨[[.int .i64 id,.str kd,.str tx,.sl (T.rows kids)]],4,true,true,true,.cell⟩]∧Holds fr [(1,.ptr 0 0 0),(3,.str (lw++opW ((kids.map T.wr).take i))),(4,.int .i64 i)]) kids.length
   ⟨0,rfl,rfl,rfl,by rw [hlw]; simp [opW]; rfl,rfl,trivial⟩ ?_
  rintro n fr st ⟨i,hi,rfl,hh⟩
  obtain ⟨fr,rfl⟩:=hh.split
  clear hh
  conv=>whnf
  rw [hlr]
  have ho:=hof i
  by_cases hlt:i < kids.length
  · rw [ltB_t (by omega)]
    conv=>whnf
    have hg:=rows_get kids i hlt
    have htk:=wrL_take kids i hlt
    obtain ⟨hwt,hwl⟩:=hw kids[i] (List.getElem_mem hlt)
    have hof':=hof (i+1)
    generalize T.wr kids[i]=wd at *
    generalize kids[i]=t at *
    cases t with
    | mk id' kind' text' kids' =>
    by_cases h0:i=0
    · subst h0
      have hn1:opW ((kids.map T.wr).take (0+1))=[91]++wd:=by
       rw [htk,List.take_zero,List.nil_append,opW_ne _ (by simp),Lib.join_one]
      rw [hn1] at hof'
      rw [eqB_t (by rfl)]
      conv=>whnf
      refine ⟨by show (lw++[]).length+1≤_; simp only [List.length_append,List.length_cons,List.length_nil]; omega,?_⟩
      conv=>whnf
      refine ⟨by omega,T.rows kids,_,4,rfl,hg,rfl,rfl,?_⟩
      conv=>whnf
      refine .inl (hwt.mono ?_)
      rintro r rfl
      conv=>whnf
      refine ⟨by show (lw++[]++[91]).length+wd.length≤_; simp only [List.length_append,List.length_cons,List.length_nil]; omega,?_⟩
      conv=>whnf
      refine ⟨n - 1,by omega,0+1,by omega,rfl,rfl,?_,?_,trivial⟩
      · rw [hn1]
        show V.str (lw++[]++[91]++wd)=_
        simp
      · show V.int .i64 (IntKind.i64.wrap (0+1))=_
        rw [wrap64 (by omega) (by omega)]; simp
    · have hne:=take_ne h0 hlt
      have hn1:opW ((kids.map T.wr).take (i+1))=opW ((kids.map T.wr).take i)++[44]++wd:=by
       rw [htk,opW_snoc _ _ hne]
      rw [hn1] at hof'
      generalize opW ((kids.map T.wr).take i)=ac at *
      rw [eqB_f (by omega)]
      conv=>whnf
      refine ⟨by show (lw++ac).length+1≤_; simp only [List.length_append,List.length_cons,List.length_nil]; omega,?_⟩
      conv=>whnf
      refine ⟨by omega,T.rows kids,_,4,rfl,hg,rfl,rfl,?_⟩
      conv=>whnf
      refine .inl (hwt.mono ?_)
      rintro r rfl
      conv=>whnf
      refine ⟨by show (lw++ac++[44]).length+wd.length≤_; simp only [List.length_append,List.length_cons,List.length_nil]; omega,?_⟩
      conv=>whnf
      refine ⟨n - 1,by omega,i+1,by omega,rfl,rfl,?_,?_,trivial⟩
      · rw [hn1]
        show V.str (lw++ac++[44]++wd)=_
        simp
      · show V.int .i64 (IntKind.i64.wrap (i+1))=_
        rw [wrap64 (by omega) (by omega)]; simp
  · rw [ltB_f (by omega)]
    conv=>whnf
    rw [hlr]
    have hin:i=kids.length:=by omega
    subst hin
    have htl:(kids.map T.wr).take kids.length=kids.map T.wr:=List.take_of_length_le (by rw [List.length_map]; omega)
    rw [htl] at ho ⊢
    by_cases hz:0 < kids.length
    · have hnk:kids.map T.wr≠[]:=by
       intro e
       have:=congrArg List.length e
       rw [List.length_map,List.length_nil] at this
       omega
      rw [brW_opW _ hnk]
      rw [ltB_t (by omega)]
      conv=>whnf
      generalize opW (kids.map T.wr)=ac at *
      refine ⟨by show (lw++ac).length+1≤_; simp only [List.length_append,List.length_cons,List.length_nil]; omega,?_⟩
      conv=>whnf
      show V.str (lw++ac++[93])=_
      simp
    · have hk0:kids=[]:=List.eq_nil_of_length_eq_zero (by omega)
      rw [ltB_f (by omega)]
      conv=>whnf
      rw [hk0]
      rfl
theorem l2Write_pure (t:T) (hs:t.Small):∀ lv,plainT t lv=true→t.ids.length≤16000→Pure Tryd.prog 23 [.agg t.cells] (·=.str (T.wr t)):=by
 induction hs with
 | @mk id kd tx kids g1 g2 g3 g4 g5 ih =>
   intro lv h hn
   obtain ⟨h1,h2,h3,h4⟩:=plainT_kids h
   have hl:=(wr_len _ (.mk g1 g2 g3 g4 g5) lv h).2
   have hi:(T.mk id kd tx kids).ids.length=(T.idsL kids).length+1:=by simp [T.ids]
   have hk:∀ t∈kids,t.ids.length≤16000:=fun t ht=>by
    have:t.ids.length≤(T.idsL kids).length:=by
     obtain ⟨a,b,e⟩:=List.append_of_mem ht
     rw [e,idsL_append,T.idsL]
     simp; omega
    omega
   rw [T.wr,T.wrL_eq]
   refine l2Write_pure1 id kd tx kids g1 g2 g3 g4 (fun t ht=>⟨ih t ht (lv+1) (h4 t ht) (hk t ht),?_⟩) (by simp only [T.kids] at hl; omega)
   have:=(wr_len t (g5 t ht) (lv+1) (h4 t ht)).1
   have:=hk t ht
   omega
end Go.Cod
set_option linter.all false
namespace Go.Cod
open Go Go.Proofs
set_option linter.all false
set_option maxRecDepth 10000
def lineW (s:Stp):List UInt8 :=
 if s.kind=1 then [112,117,116,32]++Lib.itoa s.id++[32]++Lib.itoa s.at_++[32]++T.wr s.node++[10]
 else if s.kind=2 then [99,117,116,32]++Lib.itoa s.id++[10]
 else if s.kind=3 then [116,101,120,116,32]++Lib.itoa s.id++[32]++s.text++[10]
 else [107,105,110,100,32]++Lib.itoa s.id++[32]++s.text++[10]
structure Stp.I64 (s:Stp):Prop where
 i0:-9223372036854775808≤s.id
 i1:s.id≤9223372036854775807
 a0:-9223372036854775808≤s.at_
 a1:s.at_≤9223372036854775807
theorem wr_okLen {t:T} (hs:t.Small) (h:okT t=true):(T.wr t).length≤1280:=by
 unfold okT at h
 simp only [Bool.and_eq_true,decide_eq_true_eq] at h
 have:=(wr_len t hs 1 h.1.1).1
 omega
set_option maxHeartbeats 1600000 in
theorem stepLine_pure (s:Stp) (hs:s.node.Small) (htx:s.text.length≤1048576) (hb:s.I64) (hd:deedOk s=true):Pure Tryd.prog 17 [.agg s.cells] (·=.str (lineW s)):=by
 have f1:=itoa_all s.id hb.i0 hb.i1
 have f2:=itoa_all s.at_ hb.a0 hb.a1
 have l1:=Lib.itoa_length_le s.id hb.i0 hb.i1
 have l2:=Lib.itoa_length_le s.at_ hb.a0 hb.a1
 have f3:=implTreeWrite_pure s.node hs
 have l3:s.kind=1→(T.wr s.node).length≤1280∧okT s.node=true:=fun hk=>by
  have:okT s.node=true:=by
   unfold deedOk at hd
   rw [if_pos hk] at hd
   simp only [Bool.and_eq_true] at hd
   exact hd.2
  exact ⟨wr_okLen hs this,this⟩
 have hlw:lineW s=if s.kind=1 then [112,117,116,32]++Lib.itoa s.id++[32]++Lib.itoa s.at_++[32]++T.wr s.node++[10]
  else if s.kind=2 then [99,117,116,32]++Lib.itoa s.id++[10]
  else if s.kind=3 then [116,101,120,116,32]++Lib.itoa s.id++[32]++s.text++[10]
  else [107,105,110,100,32]++Lib.itoa s.id++[32]++s.text++[10]:=rfl
 rw [hlw]
 clear hlw hd
 cases s with
 | mk kind sid at_ node text =>
 simp only at f1 f2 l1 l2 f3 l3 htx hs ⊢
 clear hb
 generalize Lib.itoa sid=d1 at *
 generalize Lib.itoa at_=d2 at *
 generalize T.wr node=tw at *
 generalize okT node=ok at *
 cases node with
 | mk nid nk nx nks =>
 refine pure_of_awp good Tryd.func17 rfl (by kernel_rfl) (by decide) ?_
 conv=>whnf
 refine .inl (f1.mono ?_)
 rintro r rfl
 conv=>whnf
 by_cases k1:kind=1
 · obtain ⟨l3,h3⟩:=l3 k1
   rw [h3,if_pos rfl] at f3
   rw [if_pos k1,eqB_t k1]
   conv=>whnf
   refine ⟨by show 4+d1.length≤_; omega,?_⟩
   conv=>whnf
   refine ⟨by show ([112,117,116,32]++d1).length+1≤_; simp only [List.length_append,List.length_cons,List.length_nil]; omega,?_⟩
   conv=>whnf
   refine ⟨_,.inl f2,?_⟩
   conv=>whnf
   refine ⟨by show ([112,117,116,32]++d1++[32]).length+d2.length≤_; simp only [List.length_append,List.length_cons,List.length_nil]; omega,?_⟩
   conv=>whnf
   refine ⟨by show ([112,117,116,32]++d1++[32]++d2).length+1≤_; simp only [List.length_append,List.length_cons,List.length_nil]; omega,?_⟩
   conv=>whnf
   refine ⟨_,.inl f3,?_⟩
   conv=>whnf
   refine ⟨by show ([112,117,116,32]++d1++[32]++d2++[32]).length+tw.length≤_; simp only [List.length_append,List.length_cons,List.length_nil]; omega,?_⟩
   conv=>whnf
   refine ⟨by show ([112,117,116,32]++d1++[32]++d2++[32]++tw).length+1≤_; simp only [List.length_append,List.length_cons,List.length_nil]; omega,?_⟩
   conv=>whnf
 · rw [if_neg k1,eqB_f k1]
   conv=>whnf
   by_cases k2:kind=2
   · rw [if_pos k2,eqB_t k2]
     conv=>whnf
     refine ⟨by show 4+d1.length≤_; omega,?_⟩
     conv=>whnf
     refine ⟨by show ([99,117,116,32]++d1).length+1≤_; simp only [List.length_append,List.length_cons,List.length_nil]; omega,?_⟩
     conv=>whnf
   · rw [if_neg k2,eqB_f k2]
     conv=>whnf
     by_cases k3:kind=3
     · rw [if_pos k3,eqB_t k3]
       conv=>whnf
       refine ⟨by show 5+d1.length≤_; omega,?_⟩
       conv=>whnf
       refine ⟨by show ([116,101,120,116,32]++d1).length+1≤_; simp only [List.length_append,List.length_cons,List.length_nil]; omega,?_⟩
       conv=>whnf
       refine ⟨by show ([116,101,120,116,32]++d1++[32]).length+text.length≤_; simp only [List.length_append,List.length_cons,List.length_nil]; omega,?_⟩
       conv=>whnf
       refine ⟨by show ([116,101,120,116,32]++d1++[32]++text).length+1≤_; simp only [List.length_append,List.length_cons,List.length_nil]; omega,?_⟩
       conv=>whnf
     · rw [if_neg k3,eqB_f k3]
       conv=>whnf
       refine ⟨by show 5+d1.length≤_; omega,?_⟩
       conv=>whnf
       refine ⟨by show ([107,105,110,100,32]++d1).length+1≤_; simp only [List.length_append,List.length_cons,List.length_nil]; omega,?_⟩
       conv=>whnf
       refine ⟨by show ([107,105,110,100,32]++d1++[32]).length+text.length≤_; simp only [List.length_append,List.length_cons,List.length_nil]; omega,?_⟩
       conv=>whnf
       refine ⟨by show ([107,105,110,100,32]++d1++[32]++text).length+1≤_; simp only [List.length_append,List.length_cons,List.length_nil]; omega,?_⟩
       conv=>whnf
end Go.Cod
set_option linter.all false
set_option linter.all false
namespace Go.Cod
open Go Go.Proofs Go.RowKit
theorem pure_callsTup {P:Program} {f:FuncId} {xs:List V} {x:V} {b:Bool} {Pr:Nat→Nat→Prop} {w:World} {cargs:List Value} (hp:Pure P f xs (·=.tup [x,.bool b])) (hr:RepL Pr [] w xs cargs) (hlow:∀ b n,Pr b n→b < w.heap.size) (hl:Laid Pr w) :
  Calls P f cargs.toArray w fun e w'=>∃ u,e=.returned (.tuple #[u,.bool b])∧Below w.heap.size w w':=by
 refine (hp.calls hr hlow hl).mono ?_
 rintro e w' ⟨r,v,Pr',rfl,rfl,hv,hb⟩
 cases hv with
 | @tup cs us hl h =>
 match us,hl,h with
 | [u0,u1],_,h =>
   have h1:=h 1 _ u1 rfl rfl
   cases h1
   exact ⟨u0,rfl,hb⟩
theorem all_take {ls:List Stp} {p:Stp→Bool} {k:Nat} (hk:k < ls.length) (h:(ls.take k).all p=true) (h1:p ls[k]=true):(ls.take (k+1)).all p=true:=by
 rw [List.take_succ_eq_append_getElem hk,List.all_append,h]
 simp [h1]
theorem flatMap_takeT {α:Type} (f:α→List UInt8) (xs:List α) (i:Nat) (h:i < xs.length):(xs.take (i+1)).flatMap f=(xs.take i).flatMap f++f xs[i]:=by
 rw [List.take_succ_eq_append_getElem h,List.flatMap_append]
 simp
def stepsW (ls:List Stp):List UInt8:=if ls.all deedOk=true then ls.flatMap lineW else []
set_option maxHeartbeats 800000 in
set_option maxRecDepth 1000000 in
theorem stepsText_walk (Pr:Nat→Nat→Prop) (ls:List Stp) (w:World) (ad:Option Addr) (cap:Nat) (hlow:∀ b n,Pr b n→b < w.heap.size) (hl:Laid Pr w) (hsv:Rep Pr [] w (.sl (prows ls)) (.slice ad ls.length cap))
  (hls:∀ s∈ls,Pure Tryd.prog 15 [.agg s.cells] (·=.tup [deedV s,.bool (deedOk s)])∧(deedOk s=true→Pure Tryd.prog 17 [.agg s.cells] (·=.str (lineW s))∧(lineW s).length≤2000000)) (hnum:ls.length≤1048576) :
  Calls Tryd.prog 6 #[.slice ad ls.length cap] w fun e w'=>e=.returned (.string ⟨(stepsW ls).toArray⟩)∧Below w.heap.size w w':=by
 have hlen:=prows_len ls
 have hget:=prows_get ls
 have hwid:∀ e∈prows ls,e.length=8:=fun e he=>by
  obtain ⟨x,_,rfl⟩:=List.mem_map.1 he
  obtain ⟨_,_,_,⟨_,_,_,_⟩,_⟩:=x
  rfl
 generalize prows ls=rows at *
 obtain ⟨ad',cap',e1,hcap,hsl⟩:=rep_sl hsv hwid
 rw [hlen] at e1
 obtain ⟨rfl,-,rfl⟩:ad=ad'∧True∧cap=cap':=by simpa using e1
 clear e1
 have K1:∀ (w':World),Below w.heap.size w w'→Keep Pr Pr [] [] w w':=fun w' hb=>⟨fun _ _ h=>h,fun b n h=>cell_of_heap (hb.block b (hlow b n h)),fun _ _ h=>h⟩
 have hbld:=bld_fresh w
 have hbA:Below w.heap.size w (w.alloc (.cells #[.pointer none,.slice none 0 0] 45)):=(Below.refl _ w).alloc (Nat.le_refl _) _
 have accLen:∀ k,k≤ls.length→(ls.take k).all deedOk=true→((ls.take k).flatMap lineW).length≤2000000*k:=by
  intro k
  induction k with
  | zero=>intro _ _; simp
  | succ k ih =>
    intro h ha
    rw [List.take_succ_eq_append_getElem (by omega:k < ls.length),List.all_append,Bool.and_eq_true] at ha
    rw [flatMap_takeT lineW ls k (by omega),List.length_append]
    have:=ih (by omega) ha.1
    have hd:deedOk ls[k]=true:=by simpa using ha.2
    have:=((hls ls[k] (List.getElem_mem (by omega))).2 hd).2
    omega
 go_enter Tryd.func6,Tryd.ntmps6
 go_wp2
 go_loopw [10] (fun iv wr=>∃ k:Nat,k≤ls.length∧iv=.int .i64 k∧(ls.take k).all deedOk=true∧Bld w.heap.size w.heap.size ((ls.take k).flatMap lineW) wr∧Below w.heap.size w wr) (fun iv _=>ls.length - (intOf iv).toNat)
 case atStart=>exact ⟨0,Nat.zero_le _,rfl,rfl,hbld,hbA⟩
 case round =>
  obtain ⟨k,hk,rfl,hall,hI,hbR⟩:=hrel
  by_cases hp:k < ls.length
  · obtain ⟨b,off,rfl,hcl⟩:=hsl k _ (hget k hp)
    obtain ⟨hf,hg⟩:=hls ls[k] (List.getElem_mem hp)
    obtain ⟨kind,sid,at_,⟨nid,nk,nx,nks⟩,text,hr⟩:∃ kind sid at_ node text,ls[k]=⟨kind,sid,at_,node,text⟩:=⟨_,_,_,_,_,rfl⟩
    obtain ⟨u0,p0,q0,r0⟩:=hcl 0 (.int .i64 kind) (by rw [hr]; rfl)
    obtain ⟨u1,p1,_,r1⟩:=hcl 1 (.int .i64 sid) (by rw [hr]; rfl)
    obtain ⟨u2,p2,_,r2⟩:=hcl 2 (.int .i64 at_) (by rw [hr]; rfl)
    obtain ⟨u3,p3,_,r3⟩:=hcl 3 (.int .i64 nid) (by rw [hr]; rfl)
    obtain ⟨u4,p4,_,r4⟩:=hcl 4 (.str nk) (by rw [hr]; rfl)
    obtain ⟨u5,p5,_,r5⟩:=hcl 5 (.str nx) (by rw [hr]; rfl)
    obtain ⟨u6,p6,_,r6⟩:=hcl 6 (.sl (T.rows nks)) (by rw [hr]; rfl)
    obtain ⟨u7,p7,_,r7⟩:=hcl 7 (.str text) (by rw [hr]; rfl)
    cases r0
    cases r1
    cases r2
    cases r3
    cases r4
    cases r5
    cases r7
    obtain ⟨ad2,cap2,rfl,-,-⟩:=rep_sl (c:=4) r6 (fun e he=>by
     rw [T.rows_eq] at he
     obtain ⟨x,_,rfl⟩:=List.mem_map.1 he
     obtain ⟨_,_,_,_⟩:=x
     rfl)
    generalize (T.rows nks).length=nn at *
    have hbw0:b < w.heap.size:=hlow _ _ q0
    have cc:∀ n,wr.cell? ⟨b,n,none⟩=w.cell? ⟨b,n,none⟩:=fun n=>cell_of_heap (hbR.block b hbw0)
    have hks:(k:Int) < (ls.length:Int):=by omega
    have g0:wr.cell? ⟨b,off+k*8,none⟩=some (.int .i64 kind):=(cc _).trans p0
    have g1:wr.cell? ⟨b,off+k*8+1,none⟩=some (.int .i64 sid):=(cc _).trans p1
    have g2:wr.cell? ⟨b,off+k*8+2,none⟩=some (.int .i64 at_):=(cc _).trans p2
    have g3:wr.cell? ⟨b,off+k*8+3,none⟩=some (.int .i64 nid):=(cc _).trans p3
    have g4:wr.cell? ⟨b,off+k*8+4,none⟩=some (.string ⟨nk.toArray⟩):=(cc _).trans p4
    have g5:wr.cell? ⟨b,off+k*8+5,none⟩=some (.string ⟨nx.toArray⟩):=(cc _).trans p5
    have g6:wr.cell? ⟨b,off+k*8+6,none⟩=some (.slice ad2 nn cap2):=(cc _).trans p6
    have g7:wr.cell? ⟨b,off+k*8+7,none⟩=some (.string ⟨text.toArray⟩):=(cc _).trans p7
    rw [hr] at hf hg
    have HR:=Lib.hid hr
    clear hr cc p0 p1 p2 p3 p4 p5 p6 p7 hcl
    have hrep:RepL Pr [] w [.agg (Stp.cells ⟨kind,sid,at_,⟨nid,nk,nx,nks⟩,text⟩)] [.agg #[.int .i64 kind,.int .i64 sid,.int .i64 at_,.int .i64 nid,.string ⟨nk.toArray⟩,.string ⟨nx.toArray⟩,.slice ad2 nn cap2,.string ⟨text.toArray⟩]]:=by
     have h:=RepL.cons (.int .i64 kind) (RepL.cons (.int .i64 sid) (RepL.cons (.int .i64 at_) (RepL.cons (.int .i64 nid) (RepL.cons (.str nk) (RepL.cons (.str nx) (RepL.cons r6 (RepL.cons (.str text) RepL.nil)))))))
     exact RepL.cons (Rep.agg h.1 h.2) RepL.nil
    generalize Stp.cells ⟨kind,sid,at_,⟨nid,nk,nx,nks⟩,text⟩=scs at *
    generalize hdv:deedV ⟨kind,sid,at_,⟨nid,nk,nx,nks⟩,text⟩=dv at *
    generalize hdk:deedOk ⟨kind,sid,at_,⟨nid,nk,nx,nks⟩,text⟩=dk at *
    clear hdv
    have bR1:Below w.heap.size w (wr.alloc (.cells #[.int .i64 kind,.int .i64 sid,.int .i64 at_,.int .i64 nid,.string ⟨nk.toArray⟩,.string ⟨nx.toArray⟩,.slice ad2 nn cap2,.string ⟨text.toArray⟩] 30)):=hbR.alloc hbR.size _
    have q4:=hrep.keep (K1 _ bR1)
    have q5:∀ b n,Pr b n→b < (wr.alloc (.cells #[.int .i64 kind,.int .i64 sid,.int .i64 at_,.int .i64 nid,.string ⟨nk.toArray⟩,.string ⟨nx.toArray⟩,.slice ad2 nn cap2,.string ⟨text.toArray⟩] 30)).heap.size:=fun b n h=>Nat.lt_of_lt_of_le (hlow b n h) bR1.size
    have q6:Laid Pr (wr.alloc (.cells #[.int .i64 kind,.int .i64 sid,.int .i64 at_,.int .i64 nid,.string ⟨nk.toArray⟩,.string ⟨nx.toArray⟩,.slice ad2 nn cap2,.string ⟨text.toArray⟩] 30)):=hl.keep (K1 _ bR1)
    have HDK:=Lib.hid hdk
    clear hdk
    go_wp2_with (go_at_call 15; refine (pure_callsTup hf q4 q5 q6).mono ?_; rintro e w3 ⟨dvv,rfl,b3⟩; refine Hid.out ?_)
    refine Lib.hid ?_
    obtain ⟨b3',hb3⟩:=below_new b3
    have e0:w3.cell? ⟨wr.heap.size,0,none⟩=some (.int .i64 kind):=(cells_at hb3 0).trans rfl
    have e1:w3.cell? ⟨wr.heap.size,1,none⟩=some (.int .i64 sid):=(cells_at hb3 1).trans rfl
    have e2:w3.cell? ⟨wr.heap.size,2,none⟩=some (.int .i64 at_):=(cells_at hb3 2).trans rfl
    have e3:w3.cell? ⟨wr.heap.size,3,none⟩=some (.int .i64 nid):=(cells_at hb3 3).trans rfl
    have e4:w3.cell? ⟨wr.heap.size,4,none⟩=some (.string ⟨nk.toArray⟩):=(cells_at hb3 4).trans rfl
    have e5:w3.cell? ⟨wr.heap.size,5,none⟩=some (.string ⟨nx.toArray⟩):=(cells_at hb3 5).trans rfl
    have e6:w3.cell? ⟨wr.heap.size,6,none⟩=some (.slice ad2 nn cap2):=(cells_at hb3 6).trans rfl
    have e7:w3.cell? ⟨wr.heap.size,7,none⟩=some (.string ⟨text.toArray⟩):=(cells_at hb3 7).trans rfl
    have hb3R:Below w.heap.size w w3:=hbR.trans (b3'.mono hbR.size)
    have hI3:Bld w.heap.size w.heap.size ((ls.take k).flatMap lineW) w3:=bld_below hI b3'
    clear b3 hb3 q4 q5 q6 bR1
    cases dk with
    | false =>
      go_wp2
      go_ret
      refine ⟨?_,hb3R⟩
      have:ls.all deedOk=false:=by
       have hd:deedOk ls[k]=false:=by rw [HR.out,HDK.out]
       have:¬ ls.all deedOk=true:=fun h=>by
        have:=List.all_eq_true.1 h _ (List.getElem_mem hp)
        rw [hd] at this
        cases this
       simpa using this
      rw [stepsW,this]
      rfl
    | true =>
      obtain ⟨hg1,hg2⟩:=hg rfl
      have hs3:wr.heap.size < w3.heap.size:=by
       rcases Nat.lt_or_ge wr.heap.size w3.heap.size with h' | h'
       · exact h'
       · simp [World.cell?,Array.getElem?_eq_none h'] at e0
      have q7:=hrep.keep (K1 _ hb3R)
      have q8:∀ b n,Pr b n→b < w3.heap.size:=fun b n h=>Nat.lt_of_lt_of_le (hlow b n h) hb3R.size
      have q9:Laid Pr w3:=hl.keep (K1 _ hb3R)
      generalize hlw:lineW ⟨kind,sid,at_,⟨nid,nk,nx,nks⟩,text⟩=lw at *
      have HLW:=Lib.hid hlw
      clear hlw
      go_wp2_with (go_at_call 17; refine (hg1.callsStr q7 q8 q9).mono ?_; rintro e w4 ⟨rfl,b4⟩; refine Hid.out ?_)
      refine Lib.hid ?_
      have hI4:=bld_below hI3 b4
      have hN4:w.heap.size≤w4.heap.size:=Nat.le_trans hb3R.size b4.size
      have hal:=accLen k hk hall
      have hq:((ls.take k).flatMap lineW).length+(⟨lw.toArray⟩:ByteArray).size≤140737488355328:=by
       show _+lw.toArray.size≤_
       rw [List.size_toArray]
       omega
      go_wp2_with (go_at_call 16; refine (bld_write w.heap.size w.heap.size _ _ _ hI4 hq hN4).mono ?_; rintro e w5 ⟨rfl,hI5,b5⟩; refine Hid.out ?_)
      refine Lib.hid ?_
      go_wp2
      go_roundw
      case rel =>
       refine ⟨k+1,by omega,by go_num,all_take hp hall (by rw [HR.out,HDK.out]),?_,(hb3R.trans (b4.mono hb3R.size)).trans b5⟩
       rw [flatMap_takeT lineW ls k hp,HR.out,HLW.out]
       exact hI5
      case measure=>simp [intOf]; omega
  · have hN:w.heap.size≤wr.heap.size:=hbR.size
    have hks:¬ (k:Int) < (ls.length:Int):=by omega
    go_wp2_with (go_at_call 18; refine (bld_string w.heap.size w.heap.size _ _ hI hN).mono ?_; rintro e w5 ⟨rfl,b5⟩; refine Hid.out ?_)
    refine Lib.hid ?_
    go_wp2
    go_ret
    refine ⟨?_,hbR.trans b5⟩
    rw [List.take_of_length_le (by omega)] at hall ⊢
    simp [stepsW,hall]
end Go.Cod
set_option linter.all false
namespace Go.Cod
open Go Go.Proofs
set_option linter.all false
set_option maxRecDepth 10000
def specOk (s:Stp):Bool:=bareT s&&(decide (1≤s.kind∧s.kind≤4)&&(!decide (s.kind=1)||okT s.node))
theorem specOk_deed (s:Stp):specOk s=deedOk s:=by
 obtain ⟨kind,sid,at_,node,text⟩:=s
 unfold specOk bareT deedOk nothingT
 simp only
 by_cases k1:kind=1
 · subst k1
   simp
 · by_cases k2:kind=2
   · subst k2
     simp
     cases noneT node <;> cases decide (text=[]) <;> cases decide (at_=0) <;> rfl
   · by_cases k3:kind=3
     · subst k3
       simp
       cases noneT node <;> cases decide (at_=0) <;> rfl
     · by_cases k4:kind=4
       · subst k4
         simp
         cases noneT node <;> cases decide (at_=0) <;> rfl
       · have:¬ (1≤kind∧kind≤4):=by omega
         simp [k1,k2,k3,k4,this]
theorem lineW_len (s:Stp) (hs:s.node.Small) (htx:s.text.length≤1048576) (hb:s.I64) (hd:deedOk s=true):(lineW s).length≤2000000:=by
 have l1:=Lib.itoa_length_le s.id hb.i0 hb.i1
 have l2:=Lib.itoa_length_le s.at_ hb.a0 hb.a1
 unfold lineW
 split
 · rename_i hk
   have:okT s.node=true:=by
    unfold deedOk at hd
    rw [if_pos hk] at hd
    simp only [Bool.and_eq_true] at hd
    exact hd.2
   have:=wr_okLen hs this
   simp only [List.length_append,List.length_cons,List.length_nil]
   omega
 · split
   · simp only [List.length_append,List.length_cons,List.length_nil]; omega
   · split <;> simp only [List.length_append,List.length_cons,List.length_nil] <;> omega
theorem stepsText_pure (ls:List Stp) (hs:∀ s∈ls,s.node.Small∧s.text.length≤1048576∧s.I64) (hl:ls.length≤1048576):Pure Tryd.prog 6 [.sl (prows ls)] (·=.str (stepsW ls)):=by
 refine pure_of_below (r:=.str (stepsW ls)) ⟨_,Tryd.func6,by kernel_rfl,by kernel_rfl⟩ rfl fun Pr w cargs ha hst=>⟨_,fun _ _=>.str _,?_⟩
 obtain ⟨c,rfl,hc⟩:=repL_one ha
 obtain ⟨ad,cap,rfl,_,_⟩:=rep_sl (c:=8) hc (fun e he=>by
  obtain ⟨x,_,rfl⟩:=List.mem_map.1 he
  obtain ⟨_,_,_,⟨_,_,_,_⟩,_⟩:=x
  rfl)
 rw [prows_len] at hc ⊢
 exact stepsText_walk Pr ls w ad cap hst.low hst.laid hc (fun s h=>⟨stepDeedOf_pure s (hs s h).1,fun hd=>⟨stepLine_pure s (hs s h).1 (hs s h).2.1 (hs s h).2.2 hd,lineW_len s (hs s h).1 (hs s h).2.1 (hs s h).2.2 hd⟩⟩) hl
set_option maxHeartbeats 1600000 in
theorem specStepsText_pure (ls:List Stp) (hs:∀ s∈ls,s.node.Small∧s.text.length≤1048576∧s.I64) (hl:ls.length≤1048576) (hn:∀ s∈ls,s.node.ids.length≤1048577):Pure Tryd.prog 7 [.sl (prows ls)] (·=.str (stepsW ls)):=by
 have hlr:=prows_len ls
 have hgr:=prows_get ls
 have accLen:∀ k,k≤ls.length→(ls.take k).all deedOk=true→((ls.take k).flatMap lineW).length≤2000000*k:=by
  intro k
  induction k with
  | zero=>intro _ _; simp
  | succ k ih =>
    intro h ha
    rw [List.take_succ_eq_append_getElem (by omega:k < ls.length),List.all_append,Bool.and_eq_true] at ha
    rw [flatMap_takeT lineW ls k (by omega),List.length_append]
    have:=ih (by omega) ha.1
    have hd:deedOk ls[k]=true:=by simpa using ha.2
    obtain ⟨h1,h2,h3⟩:=hs ls[k] (List.getElem_mem (by omega))
    have:=lineW_len ls[k] h1 h2 h3 hd
    omega
 generalize prows ls=rows at *
 refine pure_of_awp good Tryd.func7 rfl (by kernel_rfl) (by decide) ?_
 conv=>whnf
 refine loop_drop (fun n fr st=>∃ i:Nat,n+i=ls.length∧st=[]∧(ls.take i).all deedOk=true∧Holds fr [(0,.sl rows),(3,.str ((ls.take i).flatMap lineW)),(4,.int .i64 i)]) ls.length none
  ⟨0,rfl,rfl,rfl,rfl,rfl,rfl,trivial⟩ ?_
 rintro n fr st ⟨i,hi,rfl,hall,hh⟩
 obtain ⟨fr,rfl⟩:=hh.split
 clear hh
 conv=>whnf
 rw [hlr]
 have hac:=accLen i (by omega) hall
 by_cases hlt:i < ls.length
 · rw [ltB_t (by omega)]
   conv=>whnf
   have hg:=hgr i hlt
   obtain ⟨h1,h2,h3⟩:=hs ls[i] (List.getElem_mem hlt)
   have hfm:=flatMap_takeT lineW ls i hlt
   have hat:=all_take (p:=deedOk) hlt hall
   have hbad:deedOk ls[i]=false→stepsW ls=[]:=fun hd=>by
    have:ls.all deedOk=false:=by
     have:¬ ls.all deedOk=true:=fun h=>by
      have:=List.all_eq_true.1 h _ (List.getElem_mem hlt)
      rw [hd] at this
      cases this
     simpa using this
    rw [stepsW,this]
    rfl
   have b1:=l4Bare_pure ls[i]
   have b2:=specTreeOk_pure ls[i].node h1 (hn _ (List.getElem_mem hlt))
   have b3:=l1Dec_all ls[i].id h3.i0 h3.i1
   have b4:=l1Dec_all ls[i].at_ h3.a0 h3.a1
   have m1:=Lib.itoa_length_le ls[i].id h3.i0 h3.i1
   have m2:=Lib.itoa_length_le ls[i].at_ h3.a0 h3.a1
   have b5:okT ls[i].node=true→Pure Tryd.prog 23 [.agg ls[i].node.cells] (·=.str (T.wr ls[i].node))∧(T.wr ls[i].node).length≤1280:=fun h=>⟨by
    have h':=h
    unfold okT at h'
    simp only [Bool.and_eq_true,decide_eq_true_eq] at h'
    exact l2Write_pure _ h1 1 h'.1.1 (by omega),wr_okLen h1 h⟩
   have hsp:=specOk_deed ls[i]
   have hlw:lineW ls[i]=if ls[i].kind=1 then [112,117,116,32]++Lib.itoa ls[i].id++[32]++Lib.itoa ls[i].at_++[32]++T.wr ls[i].node++[10]
    else if ls[i].kind=2 then [99,117,116,32]++Lib.itoa ls[i].id++[10]
    else if ls[i].kind=3 then [116,101,120,116,32]++Lib.itoa ls[i].id++[32]++ls[i].text++[10]
    else [107,105,110,100,32]++Lib.itoa ls[i].id++[32]++ls[i].text++[10]:=rfl
   unfold specOk at hsp
   generalize lineW ls[i]=lw at *
   generalize deedOk ls[i]=dk at *
   generalize bareT ls[i]=bb at *
   generalize (ls.take i).flatMap lineW=ac at *
   generalize stepsW ls=res at *
   generalize ls[i]=s at *
   cases s with
   | mk kind sid at_ node text =>
   simp only at h1 h2 b1 b2 b3 b4 b5 m1 m2 hsp hlw
   clear h3
   generalize okT node=okn at *
   generalize T.wr node=tw at *
   generalize Lib.itoa sid=d1 at *
   generalize Lib.itoa at_=d2 at *
   cases node with
   | mk nid nk nx nks =>
   have hg:rows[i]? = some [.int .i64 kind,.int .i64 sid,.int .i64 at_,.int .i64 nid,.str nk,.str nx,.sl (T.rows nks),.str text]:=hg
   refine ⟨by omega,rows,_,8,rfl,hg,rfl,rfl,?_⟩
   conv=>whnf
   refine .inl (b1.mono ?_)
   rintro r rfl
   cases bb with
   | false =>
     conv=>whnf
     rw [hbad (by simpa using hsp.symm)]
   | true =>
     conv=>whnf
     have b6:=l1In_pure kind 1 4
     by_cases hk:1≤kind∧kind≤4
     · rw [decide_eq_true hk] at b6 hsp
       refine .inl (b6.mono ?_)
       rintro r rfl
       conv=>whnf
       obtain rfl | rfl | rfl | rfl:kind=1∨kind=2∨kind=3∨kind=4:=by omega
       · rw [eqB_t (by rfl)]
         conv=>whnf
         refine .inl (b2.mono ?_)
         rintro r rfl
         cases okn with
         | false =>
           conv=>whnf
           rw [hbad (by simpa using hsp.symm)]
         | true =>
           conv=>whnf
           have hdk:dk=true:=by simpa using hsp.symm
           obtain ⟨b5,m5⟩:=b5 rfl
           rw [if_pos rfl] at hlw
           refine ⟨_,.inl b3,?_⟩
           conv=>whnf
           refine And.intro ⟨_,.inl b3,rfl⟩ ?_
           conv=>whnf
           refine ⟨by decide,_,_,1,rfl,rfl,rfl,rfl,?_⟩
           conv=>whnf
           repeat
            first
             | (refine AtRow_intro _ rfl ?_; conv=>whnf)
             | (refine And.intro (by (conv=>whnf); first | rfl | exact ⟨_,.inl b3,rfl⟩ | exact AtRow_intro _ rfl rfl | exact ⟨by decide,_,_,1,rfl,rfl,rfl,rfl,rfl⟩ | exact ⟨by simp; omega,rfl⟩) ?_; conv=>whnf)
             | (refine ⟨by simp; omega,?_⟩; conv=>whnf)
           rw [eqB_t (by rfl)]
           conv=>whnf
           refine ⟨by simp; omega,?_⟩
           conv=>whnf
           refine ⟨_,.inl b4,?_⟩
           conv=>whnf
           refine ⟨by simp; omega,?_⟩
           conv=>whnf
           refine ⟨by simp; omega,?_⟩
           conv=>whnf
           refine ⟨_,.inl b5,?_⟩
           conv=>whnf
           refine ⟨by simp; omega,?_⟩
           conv=>whnf
           refine ⟨by simp; omega,?_⟩
           conv=>whnf
           refine ⟨n - 1,by omega,some [],?_⟩
           conv=>whnf
           refine ⟨i+1,by omega,rfl,hat hdk,rfl,?_,?_,trivial⟩
           · rw [hfm,hlw]
             show V.str _=_
             simp
           · show V.int .i64 (IntKind.i64.wrap (i+1))=_
             rw [wrap64 (by omega) (by omega)]; simp
       · have hdk:dk=true:=by simpa using hsp.symm
         rw [eqB_f (by show (2:Int)≠1; decide)]
         conv=>whnf
         refine ⟨_,.inl b3,?_⟩
         conv=>whnf
         refine And.intro ⟨_,.inl b3,rfl⟩ ?_
         conv=>whnf
         refine ⟨by decide,_,_,1,rfl,rfl,rfl,rfl,?_⟩
         conv=>whnf
         repeat
          first
           | (refine AtRow_intro _ rfl ?_; conv=>whnf)
           | (refine And.intro (by (conv=>whnf); first | rfl | exact ⟨_,.inl b3,rfl⟩ | exact AtRow_intro _ rfl rfl | exact ⟨by decide,_,_,1,rfl,rfl,rfl,rfl,rfl⟩ | exact ⟨by simp; omega,rfl⟩) ?_; conv=>whnf)
           | (refine ⟨by simp; omega,?_⟩; conv=>whnf)
         rw [eqB_f (by show (2:Int)≠1; decide)]
         conv=>whnf
         rw [if_neg (by decide),if_pos rfl] at hlw
         rw [eqB_f (by show (2:Int)≠3; decide)]
         conv=>whnf
         rw [eqB_f (by show (2:Int)≠4; decide)]
         conv=>whnf
         refine ⟨by simp; omega,?_⟩
         conv=>whnf
         refine ⟨n - 1,by omega,some [],?_⟩
         conv=>whnf
         refine ⟨i+1,by omega,rfl,hat hdk,rfl,?_,?_,trivial⟩
         · rw [hfm,hlw]
           show V.str _=_
           simp
         · show V.int .i64 (IntKind.i64.wrap (i+1))=_
           rw [wrap64 (by omega) (by omega)]; simp
       · have hdk:dk=true:=by simpa using hsp.symm
         rw [eqB_f (by show (3:Int)≠1; decide)]
         conv=>whnf
         refine ⟨_,.inl b3,?_⟩
         conv=>whnf
         refine And.intro ⟨_,.inl b3,rfl⟩ ?_
         conv=>whnf
         refine ⟨by decide,_,_,1,rfl,rfl,rfl,rfl,?_⟩
         conv=>whnf
         repeat
          first
           | (refine AtRow_intro _ rfl ?_; conv=>whnf)
           | (refine And.intro (by (conv=>whnf); first | rfl | exact ⟨_,.inl b3,rfl⟩ | exact AtRow_intro _ rfl rfl | exact ⟨by decide,_,_,1,rfl,rfl,rfl,rfl,rfl⟩ | exact ⟨by simp; omega,rfl⟩) ?_; conv=>whnf)
           | (refine ⟨by simp; omega,?_⟩; conv=>whnf)
         rw [eqB_f (by show (3:Int)≠1; decide)]
         conv=>whnf
         rw [if_neg (by decide),if_neg (by decide),if_pos rfl] at hlw
         rw [eqB_t (by rfl)]
         conv=>whnf
         refine ⟨by simp; omega,?_⟩
         conv=>whnf
         refine ⟨by simp; omega,?_⟩
         conv=>whnf
         refine ⟨by simp; omega,?_⟩
         conv=>whnf
         refine ⟨n - 1,by omega,some [],?_⟩
         conv=>whnf
         refine ⟨i+1,by omega,rfl,hat hdk,rfl,?_,?_,trivial⟩
         · rw [hfm,hlw]
           show V.str _=_
           simp
         · show V.int .i64 (IntKind.i64.wrap (i+1))=_
           rw [wrap64 (by omega) (by omega)]; simp
       · have hdk:dk=true:=by simpa using hsp.symm
         rw [eqB_f (by show (4:Int)≠1; decide)]
         conv=>whnf
         refine ⟨_,.inl b3,?_⟩
         conv=>whnf
         refine And.intro ⟨_,.inl b3,rfl⟩ ?_
         conv=>whnf
         refine ⟨by decide,_,_,1,rfl,rfl,rfl,rfl,?_⟩
         conv=>whnf
         repeat
          first
           | (refine AtRow_intro _ rfl ?_; conv=>whnf)
           | (refine And.intro (by (conv=>whnf); first | rfl | exact ⟨_,.inl b3,rfl⟩ | exact AtRow_intro _ rfl rfl | exact ⟨by decide,_,_,1,rfl,rfl,rfl,rfl,rfl⟩ | exact ⟨by simp; omega,rfl⟩) ?_; conv=>whnf)
           | (refine ⟨by simp; omega,?_⟩; conv=>whnf)
         rw [eqB_f (by show (4:Int)≠1; decide)]
         conv=>whnf
         rw [if_neg (by decide),if_neg (by decide),if_neg (by decide)] at hlw
         rw [eqB_f (by show (4:Int)≠3; decide)]
         conv=>whnf
         rw [eqB_t (by rfl)]
         conv=>whnf
         refine ⟨by simp; omega,?_⟩
         conv=>whnf
         refine ⟨by simp; omega,?_⟩
         conv=>whnf
         refine ⟨by simp; omega,?_⟩
         conv=>whnf
         refine ⟨n - 1,by omega,some [],?_⟩
         conv=>whnf
         refine ⟨i+1,by omega,rfl,hat hdk,rfl,?_,?_,trivial⟩
         · rw [hfm,hlw]
           show V.str _=_
           simp
         · show V.int .i64 (IntKind.i64.wrap (i+1))=_
           rw [wrap64 (by omega) (by omega)]; simp
     · rw [decide_eq_false hk] at b6 hsp
       refine .inl (b6.mono ?_)
       rintro r rfl
       conv=>whnf
       rw [hbad (by simpa using hsp.symm)]
 · rw [ltB_f (by omega)]
   conv=>whnf
   have hin:i=ls.length:=by omega
   subst hin
   rw [List.take_of_length_le (Nat.le_refl _)] at hall ⊢
   rw [stepsW,if_pos hall]
end Go.Cod
set_option linter.all false
namespace Go.Cod
open Go Go.Proofs
set_option linter.all false
set_option maxRecDepth 10000
def DrawSs (r:V):Prop:=∃ ls:List Stp,(∀ s∈ls,s.Dr)∧ls.length≤6∧r=.sl (prows ls)
set_option maxHeartbeats 4000000 in
theorem drawStepsText_pure (bs:List UInt8) (hb:bs.length≤1048576):Pure Tryd.prog 5 [.sl (brows bs)] DrawSs:=by
 have ho:=l1Open_full bs hb
 have hd:=drawStepsDo_new bs hb
 refine pure_of_awp good Tryd.func5 rfl (by kernel_rfl) (by decide) ?_
 conv=>whnf
 refine .inr (.inl ⟨[],false,?_⟩)
 conv=>whnf
 refine ho.mono ?_
 rintro o st' ⟨rfl,bs',hb',rfl⟩
 conv=>whnf
 refine .inr (.inl ⟨[],false,?_⟩)
 conv=>whnf
 refine hd.mono ?_
 rintro o st' ⟨⟨ti,tk,tx,tks⟩,ls,h1,h2,h3,h4,h5⟩
 rcases h5 with ⟨rfl,rfl,rfl⟩ | ⟨hne,rfl,rfl⟩
 · conv=>whnf
   rw [ltB_f (by decide)]
   conv=>whnf
   exact ⟨[],by simp,by simp,rfl⟩
 · cases ls with
   | nil=>exact absurd rfl hne
   | cons s0 ls =>
   have hpk:=pick_full bs' 0 8 hb' (by omega) (by omega)
   have hd0:=h3 s0 (by simp)
   have hspo:=l11SpoilStep_full bs' hb' 1 (by omega) (by omega) s0 hd0
   have hpr:(0:Int) < ((prows (s0::ls)).length:Int):=by rw [prows_len,List.length_cons]; omega
   conv=>whnf
   rw [ltB_t (by exact hpr)]
   conv=>whnf
   refine ⟨[0],false,?_⟩
   conv=>whnf
   refine hpk.mono ?_
   rintro o st' ⟨c,c0,c1,rfl,rfl⟩
   conv=>whnf
   by_cases hc:c=0
   · rw [eqB_t hc]
     conv=>whnf
     cases s0 with
     | mk k0 i0 a0 n0 x0 =>
     cases n0 with
     | mk nid nk nx nks =>
     refine ⟨by decide,prows (⟨k0,i0,a0,.mk nid nk nx nks,x0⟩::ls),_,8,rfl,rfl,rfl,rfl,?_⟩
     conv=>whnf
     refine AtRow_intro _ rfl ?_
     conv=>whnf
     refine ⟨[0],false,?_⟩
     conv=>whnf
     refine hspo.mono ?_
     rintro o st' ⟨⟨yk,yi,ya,⟨mi,mk,mx,mks⟩,yx⟩,q',f1,f2,f3,rfl,rfl⟩
     conv=>whnf
     refine ⟨by decide,prows (⟨k0,i0,a0,.mk nid nk nx nks,x0⟩::ls),_,8,rfl,rfl,rfl,rfl,?_⟩
     conv=>whnf
     refine AtRow_intro _ rfl ?_
     conv=>whnf
     refine ⟨⟨yk,yi,ya,.mk mi mk mx mks,yx⟩::ls,?_,h4,rfl⟩
     intro s hs
     rcases List.mem_cons.1 hs with rfl | h
     · exact f1
     · exact h3 s (by simp [h])
   · rw [eqB_f hc]
     conv=>whnf
     exact ⟨_,h3,h4,rfl⟩
end Go.Cod
set_option linter.all false
namespace Go.Cod
open Go Go.Proofs
set_option linter.all false
set_option maxRecDepth 10000
theorem dig_nat (n:Nat) (h:n < 10):(UInt8.ofNat (48+n)).toNat=48+n:=by
 have:∀ n < 10,(UInt8.ofNat (48+n)).toNat=48+n:=by decide
 exact this n h
theorem dec_bytes (n:Nat):∀ b∈Lib.decDigits n,48≤b.toNat∧b.toNat≤57:=by
 induction n using Nat.strongRecOn with
 | _ n ih =>
 intro b hb
 by_cases h:n < 10
 · rw [decDigits_lt n h] at hb
   rw [List.mem_singleton.1 hb,dig_nat n h]
   omega
 · rw [decDigits_ge n h] at hb
   rcases List.mem_append.1 hb with hb | hb
   · exact ih (n / 10) (by omega) b hb
   · rw [List.mem_singleton.1 hb,dig_nat (n % 10) (by omega)]
     omega
def decVal (l:List UInt8):Nat:=l.foldl (fun a b=>a*10+(b.toNat - 48)) 0
theorem decVal_dec (n:Nat):decVal (Lib.decDigits n)=n:=by
 induction n using Nat.strongRecOn with
 | _ n ih =>
 by_cases h:n < 10
 · rw [decDigits_lt n h]
   show 0*10+((UInt8.ofNat (48+n)).toNat - 48)=n
   rw [dig_nat n h]
   omega
 · rw [decDigits_ge n h]
   have e:decVal (Lib.decDigits (n / 10)++[UInt8.ofNat (48+n % 10)])=decVal (Lib.decDigits (n / 10))*10+((UInt8.ofNat (48+n % 10)).toNat - 48):=by
    unfold decVal
    rw [List.foldl_append]
    rfl
   rw [e,ih (n / 10) (by omega),dig_nat (n % 10) (by omega)]
   omega
theorem dec_inj {a b:Nat} (h:Lib.decDigits a=Lib.decDigits b):a=b:=by
 rw [← decVal_dec a,h,decVal_dec]
theorem itoa_inj {a b:Int} (h:Lib.itoa a=Lib.itoa b):a=b:=by
 unfold Lib.itoa at h
 have no:∀ (n:Nat) (l:List UInt8),45::l≠Lib.decDigits n:=fun n l e=>by
  have:=dec_bytes n 45 (by rw [← e]; simp)
  have h45:(45:UInt8).toNat=45:=rfl
  omega
 split at h <;> split at h
 · have:=dec_inj (List.cons.inj h).2
   omega
 · exact absurd h (no _ _)
 · exact absurd h.symm (no _ _)
 · have:=dec_inj h
   omega
theorem itoa_no10 (n:Int):(10:UInt8)∉Lib.itoa n:=by
 have no:∀ n:Nat,(10:UInt8)∉Lib.decDigits n:=fun n h=>by
  have:=dec_bytes n 10 h
  have h10:(10:UInt8).toNat=10:=rfl
  omega
 unfold Lib.itoa
 split
 · intro h
   rcases List.mem_cons.1 h with h | h
   · exact absurd h (by decide)
   · exact no _ h
 · exact no _
theorem lower_no10 {s:List UInt8} (h:s.all lowerB=true):(10:UInt8)∉s:=fun hm=>by
 have:=List.all_eq_true.1 h _ hm
 exact absurd this (by decide)
theorem text_no10 {s:List UInt8} (h:s.all textB=true):(10:UInt8)∉s:=fun hm=>by
 have:=List.all_eq_true.1 h _ hm
 exact absurd this (by decide)
theorem leafW_no10 {id:Int} {kd tx:List UInt8} (hk:(10:UInt8)∉kd) (ht:(10:UInt8)∉tx):(10:UInt8)∉leafW id kd tx:=by
 have hi:=itoa_no10 id
 unfold leafW
 split <;> simp only [List.mem_append,List.mem_cons,List.not_mem_nil,or_false,not_or]
 · exact ⟨⟨hk,by decide⟩,hi⟩
 · exact ⟨⟨⟨⟨⟨hk,by decide⟩,hi⟩,by decide⟩,ht⟩,by decide⟩
theorem join_no10 {l:List (List UInt8)} (h:∀ w∈l,(10:UInt8)∉w):(10:UInt8)∉Lib.join l [44]:=by
 cases l with
 | nil=>simp [Lib.join_nil]
 | cons x r =>
   rw [Lib.join_cons]
   intro hm
   rcases List.mem_append.1 hm with hm | hm
   · exact h x (by simp) hm
   · unfold Lib.joinTail at hm
     rw [List.mem_flatten] at hm
     obtain ⟨w,hw,hm⟩:=hm
     obtain ⟨y,hy,rfl⟩:=List.mem_map.1 hw
     rcases List.mem_append.1 hm with hm | hm
     · exact absurd (List.mem_singleton.1 hm) (by decide)
     · exact h y (by simp [hy]) hm
theorem brW_no10 {l:List (List UInt8)} (h:∀ w∈l,(10:UInt8)∉w):(10:UInt8)∉brW l:=by
 cases l with
 | nil=>simp [brW]
 | cons x r =>
   have:=join_no10 h
   simp only [brW,List.mem_append,List.mem_cons,List.not_mem_nil,or_false,not_or]
   exact ⟨⟨by decide,this⟩,by decide⟩
theorem wr_no10 (t:T) (hs:t.Small):∀ lv,plainT t lv=true→(10:UInt8)∉T.wr t:=by
 induction hs with
 | @mk id kd tx kids g1 g2 g3 g4 g5 ih =>
   intro lv h
   obtain ⟨_,_,_,h4⟩:=plainT_kids h
   simp only [plainT,Bool.and_eq_true,decide_eq_true_eq] at h
   have hk:(10:UInt8)∉kd:=by
    have:=h.1.1.2
    unfold nameL lower at this
    simp only [Bool.and_eq_true] at this
    exact lower_no10 this.1
   have ht:(10:UInt8)∉tx:=by
    have:=h.1.2
    unfold textL at this
    simp only [Bool.and_eq_true] at this
    exact text_no10 this.1
   rw [T.wr,T.wrL_eq]
   intro hm
   rcases List.mem_append.1 hm with hm | hm
   · exact leafW_no10 hk ht hm
   · refine brW_no10 ?_ hm
     intro w hw
     obtain ⟨k,hk',rfl⟩:=List.mem_map.1 hw
     exact ih k hk' (lv+1) (h4 k hk')
theorem c0 {l:List UInt8} (h:(10:UInt8)∉l):l.count 10=0:=List.count_eq_zero.2 h
theorem lineW_count (s:Stp) (hs:s.node.Small) (hx:(10:UInt8)∉s.text) (hd:deedOk s=true):(lineW s).count 10=1:=by
 have h1:=c0 (itoa_no10 s.id)
 have h2:=c0 (itoa_no10 s.at_)
 have h3:=c0 hx
 unfold lineW
 split
 · rename_i hk
   have hok:okT s.node=true:=by
    unfold deedOk at hd
    rw [if_pos hk] at hd
    simp only [Bool.and_eq_true] at hd
    exact hd.2
   have h4:(T.wr s.node).count 10=0:=by
    unfold okT at hok
    simp only [Bool.and_eq_true,decide_eq_true_eq] at hok
    exact c0 (wr_no10 _ hs 1 hok.1.1)
   simp only [List.count_append,h1,h2,h4]
   decide
 · split
   · simp only [List.count_append,h1]
     decide
   · split <;>
     · simp only [List.count_append,h1,h3]
       decide
theorem steps_count (ls:List Stp) (hs:∀ s∈ls,s.node.Small∧(10:UInt8)∉s.text) (hd:ls.all deedOk=true):(ls.flatMap lineW).count 10=ls.length:=by
 induction ls with
 | nil=>rfl
 | cons s ls ih =>
   rw [List.all_cons,Bool.and_eq_true] at hd
   rw [List.flatMap_cons,List.count_append,lineW_count s (hs s (by simp)).1 (hs s (by simp)).2 hd.1,ih (fun t ht=>hs t (by simp [ht])) hd.2,List.length_cons]
   omega
theorem lineW_inj (kind i j at_:Int) (node:T) (text:List UInt8) (h:lineW ⟨kind,i,at_,node,text⟩=lineW ⟨kind,j,at_,node,text⟩):i=j:=by
 apply itoa_inj
 unfold lineW at h
 simp only at h
 split at h
 · simp only [List.append_assoc] at h
   have h:=List.append_cancel_left h
   exact List.append_cancel_right h
 · split at h
   · simp only [List.append_assoc] at h
     have h:=List.append_cancel_left h
     exact List.append_cancel_right h
   · split at h
     · simp only [List.append_assoc] at h
       have h:=List.append_cancel_left h
       exact List.append_cancel_right h
     · simp only [List.append_assoc] at h
       have h:=List.append_cancel_left h
       exact List.append_cancel_right h
theorem stepsW_ne (kind i j at_:Int) (node:T) (text:List UInt8) (ls:List Stp) (hd:(⟨kind,i,at_,node,text⟩::ls:List Stp).all deedOk=true) (h:i≠j):stepsW (⟨kind,j,at_,node,text⟩::ls)≠stepsW (⟨kind,i,at_,node,text⟩::ls):=by
 have hd':(⟨kind,j,at_,node,text⟩::ls:List Stp).all deedOk=true:=hd
 intro e
 rw [stepsW,if_pos hd',stepsW,if_pos hd,List.flatMap_cons,List.flatMap_cons] at e
 exact h (lineW_inj kind j i at_ node text (List.append_cancel_right e)).symm
theorem wrap_ne (i:Int) (h0:-9223372036854775808≤i) (h1:i≤9223372036854775807):i≠IntKind.i64.wrap (i+1)∧-9223372036854775808≤IntKind.i64.wrap (i+1)∧IntKind.i64.wrap (i+1)≤9223372036854775807:=by
 by_cases h:i=9223372036854775807
 · subst h
   decide
 · rw [wrap64 (by omega) (by omega)]
   omega
end Go.Cod
set_option linter.all false
namespace Go.Cod
open Go Go.Proofs
set_option linter.all false
set_option maxRecDepth 10000
theorem own_sl {Pr:Nat→Nat→Prop} {γ:List G} {w:World} {st:St} (hst:StOk Pr γ w st) {k:Nat} {o:O} {g:G} (hk:st[k]? = some o) (hg:γ[k]? = some g) (hl:o.live=true) (hb:o.box=false) :
  Rep (fun b n=>Pr b n∨b=g.blk) [] w (.sl o.es) (.slice (some ⟨g.blk,0,none⟩) o.es.length g.cap)∧g.len=o.es.length∧g.blk < w.heap.size:=by
 have H:=hst.obj k o g hk hg hl
 obtain ⟨cur,f,⟨r1,_⟩,r2,r3⟩:=H.row
 have hle:=H.le
 have hlen:=H.len
 refine ⟨Rep.sl (c:=g.sz) (fun i j=>cur.getD (i*g.sz+j) undef) (H.cl hb) (by omega) H.sz H.lf (fun i e j x he hx=>?_) (fun i e j x he hx=>?_),hlen,(Array.getElem?_eq_some_iff.1 r1).1⟩
 · obtain ⟨u,hu,hr⟩:=r3 i e j x he hx
   refine ⟨?_,.inr rfl⟩
   rw [Nat.zero_add]
   simp [World.cell?,r1,Array.getD_eq_getD_getElem?,hu]
 · obtain ⟨u,hu,hr⟩:=r3 i e j x he hx
   have hu':cur.getD (i*g.sz+j) undef=u:=by simp [Array.getD_eq_getD_getElem?,hu]
   rw [hu']
   have:=hr.names (n:=0) (γ':=[]) (fun k hk=>absurd hk (Nat.not_lt_zero _)) (V.cleanL_mem (V.cleanLL_mem (H.cl hb) e (List.mem_of_getElem? he)) x (List.mem_of_getElem? hx))
   exact this.keep ⟨fun _ _ h=>.inl h,fun _ _ _=>rfl,fun _ _ h=>h⟩
theorem stepsText_own {ok:OkY} (ls:List Stp) (hs:∀ s∈ls,s.node.Small∧s.text.length≤1048576∧s.I64) (hl:ls.length≤1048576) :
  Full Tryd.prog ok 6 [.own 0] [stpO ls] fun o st'=>o=.ret (.str (stepsW ls))∧st'=[stpO ls]:=by
 refine full_of_below ⟨_,Tryd.func6,by kernel_rfl,by kernel_rfl⟩ fun Pr γ w cargs ha hst=>⟨.str (stepsW ls),_,⟨rfl,rfl⟩,fun _=>.str _,?_⟩
 match cargs,ha with
 | [],ha=>cases ha.1
 | _::_::_,ha=>exact absurd ha.1 (by simp)
 | [c0],ha =>
   have r0:=ha.2 0 _ c0 rfl rfl
   cases r0 with
   | @own _ g hg =>
   obtain ⟨h1,h2,h3⟩:=own_sl hst (k:=0) rfl hg rfl rfl
   have h1:Rep (fun b n=>Pr b n∨b=g.blk) [] w (.sl (prows ls)) (.slice (some ⟨g.blk,0,none⟩) (prows ls).length g.cap):=h1
   have h2:g.len=(prows ls).length:=h2
   rw [prows_len] at h1 h2
   rw [h2]
   exact stepsText_walk (fun b n=>Pr b n∨b=g.blk) ls w _ g.cap (fun b n h=>h.elim (hst.low b n) (fun e=>e ▸ h3)) (hst.laid.keep (γ:=[]) (γ':=[]) ⟨fun _ _ h=>.inl h,fun _ _ _=>rfl,fun _ _ h=>h⟩) h1
    (fun s h=>⟨stepDeedOf_pure s (hs s h).1,fun hd=>⟨stepLine_pure s (hs s h).1 (hs s h).2.1 (hs s h).2.2 hd,lineW_len s (hs s h).1 (hs s h).2.1 (hs s h).2.2 hd⟩⟩) hl
end Go.Cod
set_option linter.all false
namespace Go.Cod
open Go Go.Proofs
set_option linter.all false
set_option maxRecDepth 10000
theorem count_take (l:List UInt8) (i:Nat) (h:i < l.length):(l.take (i+1)).count 10=(l.take i).count 10+(if l[i]=10 then 1 else 0):=by
 rw [List.take_succ_eq_append_getElem h,List.count_append,List.count_singleton]
 congr 1
 by_cases e:l[i]=10
 · simp [e]
 · simp [e]
theorem stepsW_len (ls:List Stp) (hs:∀ s∈ls,s.node.Small∧s.text.length≤1048576∧s.I64):(stepsW ls).length≤2000000*ls.length:=by
 unfold stepsW
 split
 · rename_i hd
   induction ls with
   | nil=>simp
   | cons s ls ih =>
     rw [List.all_cons,Bool.and_eq_true] at hd
     obtain ⟨h1,h2,h3⟩:=hs s (by simp)
     have:=lineW_len s h1 h2 h3 hd.1
     have:=ih (fun t ht=>hs t (by simp [ht])) hd.2
     rw [List.flatMap_cons,List.length_append,List.length_cons]
     omega
 · simp
theorem stepsW_yes {ls:List Stp} (h:stepsW ls≠[]):ls.all deedOk=true∧0 < ls.length:=by
 unfold stepsW at h
 split at h
 · rename_i hd
   refine ⟨hd,?_⟩
   cases ls with
   | nil=>simp at h
   | cons a b=>simp
 · exact absurd rfl h
set_option maxHeartbeats 4000000 in
theorem law_stepsText (bs:List UInt8):Pure Tryd.prog 3 [.sl (brows bs)] (·=.bool true):=by
 have hlb:=brows_len bs
 by_cases hbig:1048576 < bs.length
 · generalize brows bs=rows at *
   refine pure_of_awp good Tryd.func3 rfl (by kernel_rfl) (by decide) ?_
   conv=>whnf
   rw [hlb]
   rw [ltB_t (by omega)]
   conv=>whnf
 have hdr:=drawStepsText_pure bs (by omega)
 generalize brows bs=brw at *
 refine pure_of_awp good Tryd.func3 rfl (by kernel_rfl) (by decide) ?_
 conv=>whnf
 rw [hlb]
 rw [ltB_f (by omega)]
 conv=>whnf
 refine .inl (hdr.mono ?_)
 rintro r ⟨ls,hs,hl,rfl⟩
 have hi:∀ s∈ls,s.node.Small∧s.text.length≤1048576∧s.I64:=fun s h=>by
  obtain ⟨a,b,c,d,e1,e2,e3,e4⟩:=hs s h
  exact ⟨a,by omega,e1,e2,e3,e4⟩
 have f1:=stepsText_pure ls hi (by omega)
 have f2:=specStepsText_pure ls hi (by omega) (fun s h=>by
  have:=(hs s h).2.1
  rw [T.ids_size]; omega)
 have hcnt:stepsW ls≠[]→(stepsW ls).count 10=ls.length:=fun h=>by
  have hd:=(stepsW_yes h).1
  rw [stepsW,if_pos hd]
  exact steps_count ls (fun s h=>⟨(hs s h).1,(hs s h).2.2.2.1⟩) hd
 have hother:stepsW ls≠[]→∃ (s0:Stp) (r0:List Stp),ls=s0::r0∧Full Tryd.prog noY 6 [.own 0] [stpO (⟨s0.kind,IntKind.i64.wrap (s0.id+1),s0.at_,s0.node,s0.text⟩::r0)] (fun o st'=>o=.ret (.str (stepsW (⟨s0.kind,IntKind.i64.wrap (s0.id+1),s0.at_,s0.node,s0.text⟩::r0)))∧st'=[stpO (⟨s0.kind,IntKind.i64.wrap (s0.id+1),s0.at_,s0.node,s0.text⟩::r0)])∧stepsW (⟨s0.kind,IntKind.i64.wrap (s0.id+1),s0.at_,s0.node,s0.text⟩::r0)≠stepsW ls:=fun h=>by
  obtain ⟨hd,hp⟩:=stepsW_yes h
  cases ls with
  | nil=>simp at hp
  | cons s0 r0 =>
  obtain ⟨a1,a2,a3⟩:=hi s0 (by simp)
  obtain ⟨w1,w2,w3⟩:=wrap_ne s0.id a3.i0 a3.i1
  refine ⟨s0,r0,rfl,stepsText_own _ (fun s hm=>?_) (by simp only [List.length_cons] at hl ⊢; omega),?_⟩
  · rcases List.mem_cons.1 hm with rfl | hm
    · exact ⟨a1,a2,w2,w3,a3.a0,a3.a1⟩
    · exact hi s (by simp [hm])
  · exact stepsW_ne s0.kind s0.id _ s0.at_ s0.node s0.text r0 hd w1
 have hlr:=prows_len ls
 conv=>whnf
 refine .inl (f1.mono ?_)
 rintro r rfl
 conv=>whnf
 refine .inl (f2.mono ?_)
 rintro r rfl
 conv=>whnf
 rw [eqS_refl]
 have hll:(stepsW ls).length≤100000000:=by
  have:=stepsW_len ls hi
  omega
 generalize stepsW ls=res at *
 conv=>whnf
 refine loop_intro (fun n fr st=>∃ i:Nat,n+i=res.length∧st=[]∧Holds fr [(3,.sl (prows ls)),(4,.str res),(5,.int .i64 ((res.take i).count 10:Nat)),(6,.int .i64 i)]) res.length
  ⟨0,rfl,rfl,rfl,rfl,by simp; rfl,rfl,trivial⟩ ?_
 rintro n fr st ⟨i,hin,rfl,hh⟩
 obtain ⟨fr,rfl⟩:=hh.split
 clear hh
 conv=>whnf
 by_cases hlt:i < res.length
 · rw [ltB_t (by omega)]
   conv=>whnf
   have hct:=count_take res i hlt
   have hle:(res.take i).count 10≤i:=Nat.le_trans List.count_le_length (by rw [List.length_take]; omega)
   refine ⟨by omega,res[i],by rw [Int.toNat_natCast]; exact List.getElem?_eq_getElem hlt,?_⟩
   conv=>whnf
   generalize res[i]=b at *
   by_cases hb:b=10
   · rw [if_pos hb] at hct
     subst hb
     rw [eqB_t (by rfl)]
     conv=>whnf
     refine ⟨n - 1,by omega,i+1,by omega,rfl,rfl,rfl,?_,?_,trivial⟩
     · show V.int .i64 (IntKind.i64.wrap (((res.take i).count 10:Nat)+1))=_
       rw [wrap64 (by omega) (by omega),hct]; simp
     · show V.int .i64 (IntKind.i64.wrap (i+1))=_
       rw [wrap64 (by omega) (by omega)]; simp
   · rw [if_neg hb] at hct
     rw [eqB_f (by
      intro e
      apply hb
      apply UInt8.toNat_inj.1
      have e:((b.toNat:Nat):Int)=10:=e
      show b.toNat=10
      omega)]
     conv=>whnf
     refine ⟨n - 1,by omega,i+1,by omega,rfl,rfl,rfl,?_,?_,trivial⟩
     · rw [hct]; rfl
     · show V.int .i64 (IntKind.i64.wrap (i+1))=_
       rw [wrap64 (by omega) (by omega)]; simp
 · rw [ltB_f (by omega)]
   have hie:i=res.length:=by omega
   subst hie
   rw [List.take_length]
   conv=>whnf
   by_cases hr:res=[]
   · rw [eqS_t hr]
     conv=>whnf
     rw [eqS_t hr]
   · rw [eqS_f hr]
     conv=>whnf
     rw [hcnt hr,hlr]
     rw [eqB_t (by rfl)]
     conv=>whnf
     obtain ⟨s0,r0,rfl,hp,hne⟩:=hother hr
     have hw8:∀ m∈prows (s0::r0),m.length=8:=fun e he=>by
      obtain ⟨x,_,rfl⟩:=List.mem_map.1 he
      obtain ⟨_,_,_,⟨_,_,_,_⟩,_⟩:=x
      rfl
     clear f1 f2 hother hcnt hi hs
     cases s0 with
     | mk k0 i0 a0 n0 x0 =>
     cases n0 with
     | mk nid nk nx nks =>
     have hp:Full Tryd.prog noY _ [.own 0] [⟨[.int .i64 k0,.int .i64 (IntKind.i64.wrap (i0+1)),.int .i64 a0,.int .i64 nid,.str nk,.str nx,.sl (T.rows nks),.str x0]::prows r0,8,true,true,false,.cell⟩] _:=hp
     have hlr:(([.int .i64 k0,.int .i64 i0,.int .i64 a0,.int .i64 nid,.str nk,.str nx,.sl (T.rows nks),.str x0]:List V)::prows r0).length≤6:=by
      have:=prows_len r0
      simp only [List.length_cons] at hl ⊢
      omega
     generalize stepsW _=res2 at hp hne
     refine ⟨hw8,?_⟩
     conv=>whnf
     refine ⟨by show (([.int .i64 k0,.int .i64 i0,.int .i64 a0,.int .i64 nid,.str nk,.str nx,.sl (T.rows nks),.str x0]:List V)::prows r0).length*104≤_; omega,.inr ⟨(by intro e; cases e),?_⟩⟩
     conv=>whnf
     refine ⟨by decide,([.int .i64 k0,.int .i64 i0,.int .i64 a0,.int .i64 nid,.str nk,.str nx,.sl (T.rows nks),.str x0]:List V)::prows r0,_,8,rfl,rfl,rfl,rfl,?_⟩
     conv=>whnf
     refine AtRow_intro _ rfl ?_
     conv=>whnf
     refine ⟨by decide,([.int .i64 k0,.int .i64 i0,.int .i64 a0,.int .i64 nid,.str nk,.str nx,.sl (T.rows nks),.str x0]:List V)::prows r0,_,8,rfl,rfl,rfl,rfl,?_⟩
     conv=>whnf
     refine AtRow_intro _ rfl ?_
     conv=>whnf
     refine ⟨[0],false,?_⟩
     conv=>whnf
     refine hp.mono ?_
     rintro o st' ⟨rfl,rfl⟩
     conv=>whnf
     rw [eqS_f hne]
     conv=>whnf
     rfl
end Go.Cod
set_option linter.all false
namespace Go.Cod
open Go Go.Proofs Go.ChangeShapes Go.WideShapes Go.ChangeAt Go.RowKit
set_option maxRecDepth 10000
theorem ownK:ownKnob Tryd.prog.godebug=none:=by kernel_rfl
def byteOf:List V→UInt8
 | [.int _ i]=>UInt8.ofNat i.toNat
 | _=>0
theorem argBytes {H:Type} {enc:TypeId × Value→H} {W:World}:ReadsA enc Tryd.prog W 22 fun x=>∃ bs:List UInt8,x=.sl (brows bs):=by
 intro base v d p hv h
 obtain ⟨x,⟨es,hx,_,hr⟩,hrep⟩:=readsA_slice (S:=fun vs=>∃ es,vs=[.sl es]∧es.length≤maxLen∧∀ r∈es,(∃ i,r=[.int .u8 i]∧IntKind.u8.min≤i∧i≤IntKind.u8.max)∧r.length=Tryd.prog.cellsOf 5∧(∀ v∈r,v.leaf=true)∧V.clean.cleanL 0 r=true)
  Tryd.underlying22 (fun n=>reads_slice Tryd.underlying22 (by decide +kernel) fun m _=>reads_int Tryd.underlying5) base v d p hv h
 cases hx
 refine ⟨_,⟨es.map byteOf,?_⟩,hrep⟩
 congr 1
 rw [brows,List.map_map]
 refine (List.map_id es).symm.trans (List.map_congr_left fun r hr'=>?_)
 obtain ⟨⟨i,rfl,h1,h2⟩,_⟩:=hr r hr'
 have h1:0≤i:=h1
 have h2:i≤255:=h2
 simp only [id_eq,Function.comp,byteOf,cellB]
 congr 2
 simp only [UInt8.toNat_ofNat']
 omega
end Go.Cod
set_option linter.all false
namespace Go.Cod
open Go Go.Proofs Go.ChangeShapes Go.WideShapes Go.ChangeAt Go.RowKit
set_option maxRecDepth 10000
theorem lawFnStepsText (bs:List UInt8):Pure Tryd.prog 3 [.sl (brows bs)] (·=.bool true):=law_stepsText bs
theorem conFnStepsText (H:Type) (enc:TypeId × Value→H) (W:World) (base:Nat) (args:Array Value) (ds gs:List (DataW H)) (before:List MemPlace)
  (hval:∀ (j:Nat) t v,Tryd.f3.params[j]? = some t→args[j]? = some v→Value.okWide Tryd.prog W .any base t v)
  (hW:DataW.Whole enc Tryd.prog Tryd.f3.params.toList YtbekcgbmahcliaaDoor.Rows.fnStepsTextSpec.vars false W args.toList ds gs before) (hL:laidMetH Tryd.prog YtbekcgbmahcliaaDoor.Rows.fnStepsTextRow.laid W) {fresh handsOn again:Bool} :
  Calls Tryd.prog 3 args W fun e W'=>∃ v,e=.returned v∧YtbekcgbmahcliaaDoor.Rows.fnStepsTextSpec.post enc Tryd.prog Tryd.f3 false fresh handsOn again W args v W':=by
 have hm:laidMet Tryd.prog YtbekcgbmahcliaaDoor.Rows.fnStepsTextRow.laid W:=by
  rw [← MakeChecks.laidMetH_plain _ _ _ (by kernel_rfl)]; exact hL
 replace hm:=laidMet.tail hm
 replace hm:=laidMet.tail hm
 have t0:=Go.Lib.tabIs_of_head (zs:=[1,10,100,1000,10000,100000,1000000,10000000,100000000,1000000000,10000000000,100000000000,1000000000000,10000000000000,100000000000000,1000000000000000,10000000000000000,100000000000000000,1000000000000000000,10000000000000000000]) (k:=.u64) (g:=0) (t:=146) (e:=140) (n:=20) (by kernel_rfl) (by kernel_rfl) Tryd.underlying146 Tryd.underlying140 (by kernel_rfl) (by kernel_rfl) hm
 replace hm:=laidMet.tail hm
 letI A:Adr:=⟨fun g=>match g with | _=>default⟩
 have hlaid:Laid (oldP W) W:=by
  intro g cs h
  match g,h with
  | 0,h=>cases h; exact rep_tab (by kernel_rfl) t0
  | g+3,h=>cases h
 refine law_callsV kids full globals_ok (tb:=4) rfl Tryd.underlying4 (by decide +kernel) hW (fun ds gs h h'=>by match ds,gs,h,h' with | [_],[],_,_=>exact ⟨rfl,rfl,rfl⟩) hval
  (Ss:=[fun x=>∃ bs:List UInt8,x=.sl (brows bs)]) hlaid ?_ ?_
 · rw [Tryd.params3]
   exact ⟨argBytes,trivial⟩
 · intro xs h
   obtain ⟨_,rfl,⟨t0,rfl⟩⟩:=hold1 h
   exact lawFnStepsText t0
theorem doorFnStepsText (os:Os) (args:Array Value):laidMetH Tryd.prog YtbekcgbmahcliaaDoor.Rows.fnStepsTextRow.laid ((World.doorLaid Tryd.prog 400 os).forCall (fun _ _=>0) ⟨#[],args,[]⟩).memory :=
 laidMetH_of_parts3 (fuel:=8) (laidMet_of_run' 8 (by kernel_rfl) (by kernel_rfl)) (by kernel_rfl) (by kernel_rfl)
set_option maxRecDepth 100000 in
theorem rowFnStepsText:YtbekcgbmahcliaaDoor.Rows.FnStepsTextSaid :=
 OpenClaim.holds_of_wide 3 Tryd.f3 rfl rfl rfl rfl rfl rfl rfl ⟨rfl,rfl,rfl,rfl,rfl⟩ rfl rfl rfl rfl rfl (by kernel_rfl) Tryd.func3 (by kernel_rfl)
  (of_decide_eq_true (by kernel_rfl)) (by unfold Func.isWrapper; first | (rw [if_pos (by decide +kernel)]; kernel_rfl) | (rw [if_neg (by decide +kernel)]; exact ⟨rfl,rfl⟩))
  (fun os started H enc _=>returnsInHanded_of_change_and (C:=Tryd.checked) (X:=fun w _=>laidMetH Tryd.prog YtbekcgbmahcliaaDoor.Rows.fnStepsTextRow.laid w) (fun _ _ _ hh h=>h.of_heap hh) ownK started (by kernel_rfl) Tryd.func3
    (ChangeSpec.witness_shaped (enc:=enc) (C:=Tryd.checked) (os:=os) (X:=fun w _=>laidMetH Tryd.prog YtbekcgbmahcliaaDoor.Rows.fnStepsTextRow.laid w) false (World.doorLaid Tryd.prog 400 os) #[.slice none 0 0] 8 rfl (World.shaped_of_RefB (by kernel_rfl) (by kernel_rfl)) (by kernel_rfl) (by kernel_rfl) (by kernel_rfl) (doorFnStepsText os _))
    (fun W base args ds gs before hval hW _ _ hL _=>conFnStepsText H enc W base args ds gs before hval hW hL))
set_option maxRecDepth 100000 in
theorem overFnStepsText:YtbekcgbmahcliaaDoor.Rows.FnStepsTextCardSaid :=
 Claim7.holds_tied_plain_at .later [] [.data, .data, .data] true (true, "8bdcdf0e0b4d02deea9220bf26d5215c33536a60df6b99c1cdc918f0ea102c30") false
  rowFnStepsText (fun _ h=>by cases h) (by kernel_rfl) (fun _ h=>by cases h) YtbekcgbmahcliaaDoor.fnStepsText_row_tie rfl ⟨rfl,rfl⟩ (by kernel_rfl) rfl
  (fun f fn hf hfn=>by
    obtain rfl : f = 3 := Option.some.inj ((show Tryd.prog.funcNamed "loop.example/codicil/laws.FnStepsText" = some 3 by kernel_rfl).symm.trans hf) |>.symm
    obtain rfl:fn=Tryd.f3:=(Option.some.inj (Tryd.func3.symm.trans hfn)).symm
    exact ⟨by kernel_rfl,fun j t ht=>by
     rw [Tryd.params3] at ht
     have hm:t∈([22]:List Nat):=by simpa using Array.mem_of_getElem? ht
     have hall:(([22]:List Nat).all fun u=>!Tryd.prog.wantsStandIn u)=true:=by kernel_rfl
     exact (show Tryd.prog.wantsStandIn t=false by simpa using List.all_eq_true.1 hall t hm)⟩)
  (by kernel_rfl)
end Go.Cod
