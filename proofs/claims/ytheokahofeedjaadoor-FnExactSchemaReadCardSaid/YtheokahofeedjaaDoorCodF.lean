import Derived.WalkKit
import Derived.ProofKit
import Derived.Test.YtheokahofeedjaaDoorCards
import Derived.Test.YtheokahofeedjaaDoorTie
import Derived.LaidMore
import Derived.LaidOnce
import Derived.SevenTiedAt
import Derived.Test.YtheokahofeedjaaDoorCodE
set_option linter.all false
namespace Go.Cod
variable [Adr]
open Go Go.Proofs
set_option linter.all false
set_option maxRecDepth 10000
theorem wordI_nil:wordI []=⟨[],false,false⟩:=rfl
theorem wordI_star (v:List UInt8):wordI (v++[42])=⟨v,true,false⟩:=by simp [wordI]
theorem wordI_may (v:List UInt8):wordI (v++[63])=⟨v,false,true⟩:=by simp [wordI]
theorem wordI_none (v:List UInt8) (c:UInt8) (h1:c≠42) (h2:c≠63):wordI (v++[c])=⟨v++[c],false,false⟩:=by simp [wordI,h1,h2]
theorem nil_or_snoc (v:List UInt8):v=[]∨∃ v' c,v=v'++[c]:=by
 rcases List.eq_nil_or_concat v with h | ⟨a,b,h⟩
 · exact .inl h
 · exact .inr ⟨a,b,by rw [h,List.concat_eq_append]⟩
def kidV (xs:List It):V:=match xs with
 | []=>.nils
 | _::_=>.own 2
def kidO (xs:List It):List O:=match xs with
 | []=>[]
 | _::_=>[⟨rws It.cells xs,3,true,true,false,.cell⟩]
theorem rwsI_snoc (xs:List It) (x:It):rws It.cells (xs++[x])=rws It.cells xs++[x.cells]:=by simp [rws]
theorem cutB_ne (a:UInt8) (s:List UInt8):∃ w ws,cutB a s=w::ws:=by
 induction s with
 | nil=>exact ⟨_,_,rfl⟩
 | cons b s ih =>
   rw [cutB]
   split
   · exact ⟨_,_,rfl⟩
   · obtain ⟨w,ws,e⟩:=ih
     rw [e]
     exact ⟨_,_,rfl⟩
theorem cutB_mem (a:UInt8) (s:List UInt8):∀ w∈cutB a s,w.length≤s.length:=by
 induction s with
 | nil=>intro w h; simp [cutB] at h; subst h; simp
 | cons b s ih =>
   intro w h
   rw [cutB] at h
   split at h
   · rcases List.mem_cons.1 h with rfl | h
     · simp
     · have:=ih w h; simp; omega
   · obtain ⟨w0,ws,e⟩:=cutB_ne a s
     rw [e] at h ih
     rcases List.mem_cons.1 h with rfl | h
     · have:=ih w0 (by simp); simp; omega
     · have:=ih w (by simp [h]); simp; omega
theorem cutB_count (a:UInt8) (s:List UInt8):(cutB a s).length≤s.length+1:=by
 induction s with
 | nil=>simp [cutB]
 | cons b s ih =>
   rw [cutB]
   split
   · simp; omega
   · obtain ⟨w0,ws,e⟩:=cutB_ne a s
     rw [e] at ih ⊢
     simp at ih ⊢
     omega
set_option maxHeartbeats 16000000 in
theorem line_pure (l:List UInt8) (hs:l.length≤1048576):Pure Tryd.prog 25 [.str l] (·=.agg (lineS l).cells):=by
 have hc:=cut_pure 32 l hs
 obtain ⟨w,ws,hw⟩:=cutB_ne 32 l
 have hm:=cutB_mem 32 l
 have hcnt:=cutB_count 32 l
 unfold lineS
 rw [hw] at hc hm hcnt ⊢
 have hl:=srows_len (w::ws)
 have hg:=fun i h=>srows_get (w::ws) i h
 have hg0:(srows (w::ws))[0]? = some [.str w]:=rfl
 have hwl:=hm w (by simp)
 obtain ⟨N,hN⟩:∃ N,N=(w::ws).length:=⟨_,rfl⟩
 rw [← hN] at hl hcnt
 refine pure_of_awp good Tryd.func25 rfl (by kernel_rfl) (by decide) ?_
 conv=>whnf
 refine .inl (hc.mono ?_)
 rintro r rfl
 obtain ⟨R,hR⟩:∃ R,R=srows (w::ws):=⟨_,rfl⟩
 rw [← hR] at hl hg0 ⊢
 simp only [← hR] at hg
 conv=>whnf
 refine ⟨by omega,R,_,1,rfl,hg0,rfl,rfl,?_⟩
 conv=>whnf
 by_cases hx:ws.head? = some textC
 · obtain ⟨rest,rfl⟩:∃ rest,ws=textC::rest:=by
    cases ws with
    | nil=>cases hx
    | cons a rest=>rw [List.head?_cons] at hx; exact ⟨rest,by rw [Option.some.inj hx]⟩
   have hg1:R[1]? = some [.str textC]:=by rw [hR]; rfl
   have hN2:2≤N:=by rw [hN]; simp
   have hwr:wordsR (w::textC::rest)=⟨w,true,(((w::textC::rest).drop 2).map wordI)⟩:=by rw [wordsR,if_pos hx]; rfl
   rw [hwr]
   generalize hws:textC::rest=ws at *
   rw [ltB_t (by rw [hl]; omega)]
   conv=>whnf
   refine ⟨by omega,R,_,1,rfl,hg1,rfl,rfl,?_⟩
   conv=>whnf
   have he:eqS textC (⟨#[116,101,120,116,58]⟩:ByteArray).data.toList=true:=eqS_t rfl
   rw [he]
   conv=>whnf
   refine ⟨(fun n fr st=>∃ (i:Nat) (xs:List It),n+i=N∧2≤i∧xs=(((w::ws).take i).drop 2).map wordI∧xs.length≤i∧Holds fr [(2,.ptr 0 0 0),(3,.sl R),(4,.ptr 1 0 0),(6,.int .i64 i)]∧st=[rukS,rukO w true (kidV xs)]++kidO xs),N - 2,true,none,?_,?_⟩
   · conv=>whnf
     refine ⟨2,[],by omega,Nat.le_refl _,?_,by simp,⟨rfl,rfl,rfl,rfl,trivial⟩,rfl⟩
     rw [List.drop_eq_nil_of_le (by rw [List.length_take]; omega)]
     rfl
   rintro n fr st ⟨i,xs,j1,j0,j2,j3,hh,rfl⟩
   obtain ⟨fr,rfl⟩:=hh.split
   clear hh
   by_cases hi:i < N
   · have hgi:=hg i (by omega)
     have hvl:=hm (w::ws)[i] (List.getElem_mem (by omega))
     have htk:(((w::ws).take (i+1)).drop 2).map wordI=xs++[wordI (w::ws)[i]]:=by
      rw [List.take_succ_eq_append_getElem (by omega),List.drop_append_of_le_length (by rw [List.length_take]; omega),List.map_append,← j2]
      rfl
     generalize (w::ws)[i]=v at *
     have wi:IntKind.i64.wrap ((i:Int)+1)=((i+1:Nat):Int):=by rw [wrap64 (by omega) (by omega)]; rfl
     rcases nil_or_snoc v with rfl | ⟨v',c,rfl⟩
     · rw [wordI_nil] at htk
       cases xs with
       | nil =>
         conv=>whnf
         rw [ltB_t (by rw [hl]; omega)]
         conv=>whnf
         refine ⟨by omega,R,_,1,rfl,hgi,rfl,rfl,?_⟩
         conv=>whnf
         rw [ltB_f (by decide)]
         conv=>whnf
         rw [ltB_f (by decide)]
         conv=>whnf
         refine ⟨fun m hm=>by rw [List.mem_singleton.1 hm]; rfl,?_⟩
         conv=>whnf
         refine ⟨by show 1*24≤_; omega,.inr ⟨(by intro e; cases e),?_⟩⟩
         conv=>whnf
         refine ⟨n - 1,by omega,some [0,1,4],?_⟩
         conv=>whnf
         refine ⟨i+1,[⟨[],false,false⟩],by omega,by omega,htk.symm,by simp,⟨rfl,rfl,rfl,congrArg (V.int .i64) wi,trivial⟩,?_⟩
         rfl
       | cons x0 xs =>
         conv=>whnf
         rw [ltB_t (by rw [hl]; omega)]
         conv=>whnf
         refine ⟨by omega,R,_,1,rfl,hgi,rfl,rfl,?_⟩
         conv=>whnf
         rw [ltB_f (by decide)]
         conv=>whnf
         rw [ltB_f (by decide)]
         conv=>whnf
         refine ⟨fun m hm=>by rw [List.mem_singleton.1 hm]; rfl,?_⟩
         conv=>whnf
         refine ⟨by
          show ((rws It.cells (x0::xs)).length+1)*24≤_
          rw [rws_len]; omega,?_⟩
         conv=>whnf
         refine ⟨n - 1,by omega,some [0,1,5],?_⟩
         conv=>whnf
         refine ⟨i+1,(x0::xs)++[⟨[],false,false⟩],by omega,by omega,htk.symm,by simp at j3 ⊢; omega,⟨rfl,rfl,rfl,congrArg (V.int .i64) wi,trivial⟩,?_⟩
         show [rukS,rukO w true (.own 2),⟨rws It.cells (x0::xs)++[It.cells ⟨[],false,false⟩],3,true,true,false,.cell⟩]=[rukS,rukO w true (.own 2),⟨rws It.cells ((x0::xs)++[⟨[],false,false⟩]),3,true,true,false,.cell⟩]
         rw [rwsI_snoc]
     · have hvq:(v'++[c]).length=v'.length+1:=by simp
       have wv:IntKind.i64.wrap (((v'++[c]).length:Int) - 1)=(v'.length:Int):=by rw [wrap64 (by omega) (by omega)]; omega
       have hgc:(v'++[c])[v'.length]? = some c:=by simp
       have hvp:0 < (v'++[c]).length:=by simp
       have htv:List.drop 0 (List.take v'.length (v'++[c]))=v':=by rw [List.drop_zero,List.take_left]
       have hvl':v'.length≤(v'++[c]).length:=by simp
       by_cases c1:c=42
       · subst c1
         rw [wordI_star] at htk
         generalize v'++[42]=u at *
         cases xs with
         | nil =>
           conv=>whnf
           rw [ltB_t (by rw [hl]; omega)]
           conv=>whnf
           refine ⟨by omega,R,_,1,rfl,hgi,rfl,rfl,?_⟩
           conv=>whnf
           rw [ltB_t (by omega)]
           conv=>whnf
           rw [wv]
           refine ⟨by omega,_,hgc,?_⟩
           conv=>whnf
           rw [eqB_t (by decide)]
           conv=>whnf
           rw [wv]
           refine ⟨by omega,by show v'.length≤u.length; omega,?_⟩
           conv=>whnf
           refine ⟨fun m hm=>by rw [List.mem_singleton.1 hm]; rfl,?_⟩
           conv=>whnf
           refine ⟨by show 1*24≤_; omega,.inr ⟨(by intro e; cases e),?_⟩⟩
           conv=>whnf
           refine ⟨n - 1,by omega,some [0,1,4],?_⟩
           conv=>whnf
           refine ⟨i+1,[⟨v',true,false⟩],by omega,by omega,htk.symm,by simp,⟨rfl,rfl,rfl,congrArg (V.int .i64) wi,trivial⟩,?_⟩
           show [rukS,rukO w true (.own 2),⟨[[.str (List.drop 0 (List.take v'.length u)),.bool true,.bool false]],3,true,true,false,.cell⟩]=_
           rw [htv]
           rfl
         | cons x0 xs =>
           conv=>whnf
           rw [ltB_t (by rw [hl]; omega)]
           conv=>whnf
           refine ⟨by omega,R,_,1,rfl,hgi,rfl,rfl,?_⟩
           conv=>whnf
           rw [ltB_t (by omega)]
           conv=>whnf
           rw [wv]
           refine ⟨by omega,_,hgc,?_⟩
           conv=>whnf
           rw [eqB_t (by decide)]
           conv=>whnf
           rw [wv]
           refine ⟨by omega,by show v'.length≤u.length; omega,?_⟩
           conv=>whnf
           refine ⟨fun m hm=>by rw [List.mem_singleton.1 hm]; rfl,?_⟩
           conv=>whnf
           refine ⟨by
            show ((rws It.cells (x0::xs)).length+1)*24≤_
            rw [rws_len]; omega,?_⟩
           conv=>whnf
           refine ⟨n - 1,by omega,some [0,1,5],?_⟩
           conv=>whnf
           refine ⟨i+1,(x0::xs)++[⟨v',true,false⟩],by omega,by omega,htk.symm,by simp at j3 ⊢; omega,⟨rfl,rfl,rfl,congrArg (V.int .i64) wi,trivial⟩,?_⟩
           show [rukS,rukO w true (.own 2),⟨rws It.cells (x0::xs)++[[.str (List.drop 0 (List.take v'.length u)),.bool true,.bool false]],3,true,true,false,.cell⟩]=[rukS,rukO w true (.own 2),⟨rws It.cells ((x0::xs)++[⟨v',true,false⟩]),3,true,true,false,.cell⟩]
           rw [htv,rwsI_snoc]
           rfl
       · have c1':((c.toNat:Nat):Int)≠42:=fun e=>c1 (UInt8.toNat_inj.1 (by rw [show (42:UInt8).toNat=42 from rfl]; omega))
         by_cases c2:c=63
         · subst c2
           rw [wordI_may] at htk
           generalize v'++[63]=u at *
           cases xs with
           | nil =>
             conv=>whnf
             rw [ltB_t (by rw [hl]; omega)]
             conv=>whnf
             refine ⟨by omega,R,_,1,rfl,hgi,rfl,rfl,?_⟩
             conv=>whnf
             rw [ltB_t (by omega)]
             conv=>whnf
             rw [wv]
             refine ⟨by omega,_,hgc,?_⟩
             conv=>whnf
             rw [eqB_f (by first | exact c1' | decide)]
             conv=>whnf
             rw [ltB_t (by omega)]
             conv=>whnf
             rw [wv]
             refine ⟨by omega,_,hgc,?_⟩
             conv=>whnf
             rw [eqB_t (by decide)]
             conv=>whnf
             rw [wv]
             refine ⟨by omega,by show v'.length≤u.length; omega,?_⟩
             conv=>whnf
             refine ⟨fun m hm=>by rw [List.mem_singleton.1 hm]; rfl,?_⟩
             conv=>whnf
             refine ⟨by show 1*24≤_; omega,.inr ⟨(by intro e; cases e),?_⟩⟩
             conv=>whnf
             refine ⟨n - 1,by omega,some [0,1,4],?_⟩
             conv=>whnf
             refine ⟨i+1,[⟨v',false,true⟩],by omega,by omega,htk.symm,by simp,⟨rfl,rfl,rfl,congrArg (V.int .i64) wi,trivial⟩,?_⟩
             show [rukS,rukO w true (.own 2),⟨[[.str (List.drop 0 (List.take v'.length u)),.bool false,.bool true]],3,true,true,false,.cell⟩]=_
             rw [htv]
             rfl
           | cons x0 xs =>
             conv=>whnf
             rw [ltB_t (by rw [hl]; omega)]
             conv=>whnf
             refine ⟨by omega,R,_,1,rfl,hgi,rfl,rfl,?_⟩
             conv=>whnf
             rw [ltB_t (by omega)]
             conv=>whnf
             rw [wv]
             refine ⟨by omega,_,hgc,?_⟩
             conv=>whnf
             rw [eqB_f (by first | exact c1' | decide)]
             conv=>whnf
             rw [ltB_t (by omega)]
             conv=>whnf
             rw [wv]
             refine ⟨by omega,_,hgc,?_⟩
             conv=>whnf
             rw [eqB_t (by decide)]
             conv=>whnf
             rw [wv]
             refine ⟨by omega,by show v'.length≤u.length; omega,?_⟩
             conv=>whnf
             refine ⟨fun m hm=>by rw [List.mem_singleton.1 hm]; rfl,?_⟩
             conv=>whnf
             refine ⟨by
              show ((rws It.cells (x0::xs)).length+1)*24≤_
              rw [rws_len]; omega,?_⟩
             conv=>whnf
             refine ⟨n - 1,by omega,some [0,1,5],?_⟩
             conv=>whnf
             refine ⟨i+1,(x0::xs)++[⟨v',false,true⟩],by omega,by omega,htk.symm,by simp at j3 ⊢; omega,⟨rfl,rfl,rfl,congrArg (V.int .i64) wi,trivial⟩,?_⟩
             show [rukS,rukO w true (.own 2),⟨rws It.cells (x0::xs)++[[.str (List.drop 0 (List.take v'.length u)),.bool false,.bool true]],3,true,true,false,.cell⟩]=[rukS,rukO w true (.own 2),⟨rws It.cells ((x0::xs)++[⟨v',false,true⟩]),3,true,true,false,.cell⟩]
             rw [htv,rwsI_snoc]
             rfl
         · have c2':((c.toNat:Nat):Int)≠63:=fun e=>c2 (UInt8.toNat_inj.1 (by rw [show (63:UInt8).toNat=63 from rfl]; omega))
           rw [wordI_none v' c c1 c2] at htk
           generalize v'++[c]=u at *
           cases xs with
           | nil =>
             conv=>whnf
             rw [ltB_t (by rw [hl]; omega)]
             conv=>whnf
             refine ⟨by omega,R,_,1,rfl,hgi,rfl,rfl,?_⟩
             conv=>whnf
             rw [ltB_t (by omega)]
             conv=>whnf
             rw [wv]
             refine ⟨by omega,_,hgc,?_⟩
             conv=>whnf
             rw [eqB_f (by first | exact c1' | decide)]
             conv=>whnf
             rw [ltB_t (by omega)]
             conv=>whnf
             rw [wv]
             refine ⟨by omega,_,hgc,?_⟩
             conv=>whnf
             rw [eqB_f c2']
             conv=>whnf
             refine ⟨fun m hm=>by rw [List.mem_singleton.1 hm]; rfl,?_⟩
             conv=>whnf
             refine ⟨by show 1*24≤_; omega,.inr ⟨(by intro e; cases e),?_⟩⟩
             conv=>whnf
             refine ⟨n - 1,by omega,some [0,1,4],?_⟩
             conv=>whnf
             refine ⟨i+1,[⟨u,false,false⟩],by omega,by omega,htk.symm,by simp,⟨rfl,rfl,rfl,congrArg (V.int .i64) wi,trivial⟩,?_⟩
             rfl
           | cons x0 xs =>
             conv=>whnf
             rw [ltB_t (by rw [hl]; omega)]
             conv=>whnf
             refine ⟨by omega,R,_,1,rfl,hgi,rfl,rfl,?_⟩
             conv=>whnf
             rw [ltB_t (by omega)]
             conv=>whnf
             rw [wv]
             refine ⟨by omega,_,hgc,?_⟩
             conv=>whnf
             rw [eqB_f (by first | exact c1' | decide)]
             conv=>whnf
             rw [ltB_t (by omega)]
             conv=>whnf
             rw [wv]
             refine ⟨by omega,_,hgc,?_⟩
             conv=>whnf
             rw [eqB_f c2']
             conv=>whnf
             refine ⟨fun m hm=>by rw [List.mem_singleton.1 hm]; rfl,?_⟩
             conv=>whnf
             refine ⟨by
              show ((rws It.cells (x0::xs)).length+1)*24≤_
              rw [rws_len]; omega,?_⟩
             conv=>whnf
             refine ⟨n - 1,by omega,some [0,1,5],?_⟩
             conv=>whnf
             refine ⟨i+1,(x0::xs)++[⟨u,false,false⟩],by omega,by omega,htk.symm,by simp at j3 ⊢; omega,⟨rfl,rfl,rfl,congrArg (V.int .i64) wi,trivial⟩,?_⟩
             show [rukS,rukO w true (.own 2),⟨rws It.cells (x0::xs)++[It.cells ⟨u,false,false⟩],3,true,true,false,.cell⟩]=[rukS,rukO w true (.own 2),⟨rws It.cells ((x0::xs)++[⟨u,false,false⟩]),3,true,true,false,.cell⟩]
             rw [rwsI_snoc]
   · obtain rfl:i=N:=by omega
     have hfin:xs=((w::ws).drop 2).map wordI:=by rw [j2,hN,List.take_length]
     cases xs with
     | nil =>
       conv=>whnf
       rw [ltB_f (by rw [hl]; omega)]
       conv=>whnf
       show V.agg [.str w,.bool true,.sl (rws It.cells [])]=_
       rw [hfin]
       rfl
     | cons x0 xs =>
       conv=>whnf
       rw [ltB_f (by rw [hl]; omega)]
       conv=>whnf
       show V.agg [.str w,.bool true,.sl (rws It.cells (x0::xs))]=_
       rw [hfin]
       rfl
 · have hwr:wordsR (w::ws)=⟨w.dropLast,false,((w::ws).drop 1).map wordI⟩:=by rw [wordsR,if_neg hx]; rfl
   rw [hwr]
   have hN1:1≤N:=by rw [hN]; simp
   have step:∀ (Q:Prop),Q→Q:=fun _ h=>h
   by_cases hN2:1 < N
   · rw [ltB_t (by rw [hl]; omega)]
     obtain ⟨w1,rest,rfl⟩:∃ w1 rest,ws=w1::rest:=by
      cases ws with
      | nil=>rw [hN] at hN2; simp at hN2
      | cons a rest=>exact ⟨a,rest,rfl⟩
     have hg1:R[1]? = some [.str w1]:=by rw [hR]; rfl
     have hne:w1≠textC:=fun e=>hx (by rw [e]; rfl)
     generalize hws:w1::rest=ws at *
     conv=>whnf
     refine ⟨by omega,R,_,1,rfl,hg1,rfl,rfl,?_⟩
     conv=>whnf
     have he:eqS w1 (⟨#[116,101,120,116,58]⟩:ByteArray).data.toList=false:=eqS_f hne
     rw [he]
     conv=>whnf
     rcases nil_or_snoc w with rfl | ⟨w',c0,rfl⟩
     · rw [ltB_f (by decide)]
       conv=>whnf
       refine ⟨(fun n fr st=>∃ (i:Nat) (xs:List It),n+i=N∧1≤i∧xs=((([]::ws).take i).drop 1).map wordI∧xs.length≤i∧Holds fr [(2,.ptr 0 0 0),(3,.sl R),(4,.ptr 1 0 0),(6,.int .i64 i)]∧st=[rukS,rukO ([]:List UInt8) false (kidV xs)]++kidO xs),N - 1,true,none,?_,?_⟩
       · conv=>whnf
         refine ⟨1,[],by omega,Nat.le_refl _,?_,by simp,⟨rfl,rfl,rfl,rfl,trivial⟩,rfl⟩
         rw [List.drop_eq_nil_of_le (by rw [List.length_take]; omega)]
         rfl
       rintro n fr st ⟨i,xs,j1,j0,j2,j3,hh,rfl⟩
       obtain ⟨fr,rfl⟩:=hh.split
       clear hh
       by_cases hi:i < N
       · have hgi:=hg i (by omega)
         have hvl:=hm ([]::ws)[i] (List.getElem_mem (by omega))
         have htk:((([]::ws).take (i+1)).drop 1).map wordI=xs++[wordI ([]::ws)[i]]:=by
          rw [List.take_succ_eq_append_getElem (by omega),List.drop_append_of_le_length (by rw [List.length_take]; omega),List.map_append,← j2]
          rfl
         generalize ([]::ws)[i]=v at *
         have wi:IntKind.i64.wrap ((i:Int)+1)=((i+1:Nat):Int):=by rw [wrap64 (by omega) (by omega)]; rfl
         rcases nil_or_snoc v with rfl | ⟨v',c,rfl⟩
         · rw [wordI_nil] at htk
           cases xs with
           | nil =>
             conv=>whnf
             rw [ltB_t (by rw [hl]; omega)]
             conv=>whnf
             refine ⟨by omega,R,_,1,rfl,hgi,rfl,rfl,?_⟩
             conv=>whnf
             rw [ltB_f (by decide)]
             conv=>whnf
             rw [ltB_f (by decide)]
             conv=>whnf
             refine ⟨fun m hm=>by rw [List.mem_singleton.1 hm]; rfl,?_⟩
             conv=>whnf
             refine ⟨by show 1*24≤_; omega,.inr ⟨(by intro e; cases e),?_⟩⟩
             conv=>whnf
             refine ⟨n - 1,by omega,some [0,1,4],?_⟩
             conv=>whnf
             refine ⟨i+1,[⟨[],false,false⟩],by omega,by omega,htk.symm,by simp,⟨rfl,rfl,rfl,congrArg (V.int .i64) wi,trivial⟩,?_⟩
             rfl
           | cons x0 xs =>
             conv=>whnf
             rw [ltB_t (by rw [hl]; omega)]
             conv=>whnf
             refine ⟨by omega,R,_,1,rfl,hgi,rfl,rfl,?_⟩
             conv=>whnf
             rw [ltB_f (by decide)]
             conv=>whnf
             rw [ltB_f (by decide)]
             conv=>whnf
             refine ⟨fun m hm=>by rw [List.mem_singleton.1 hm]; rfl,?_⟩
             conv=>whnf
             refine ⟨by
              show ((rws It.cells (x0::xs)).length+1)*24≤_
              rw [rws_len]; omega,?_⟩
             conv=>whnf
             refine ⟨n - 1,by omega,some [0,1,5],?_⟩
             conv=>whnf
             refine ⟨i+1,(x0::xs)++[⟨[],false,false⟩],by omega,by omega,htk.symm,by simp at j3 ⊢; omega,⟨rfl,rfl,rfl,congrArg (V.int .i64) wi,trivial⟩,?_⟩
             show [rukS,rukO ([]:List UInt8) false (.own 2),⟨rws It.cells (x0::xs)++[It.cells ⟨[],false,false⟩],3,true,true,false,.cell⟩]=[rukS,rukO ([]:List UInt8) false (.own 2),⟨rws It.cells ((x0::xs)++[⟨[],false,false⟩]),3,true,true,false,.cell⟩]
             rw [rwsI_snoc]
         · have hvq:(v'++[c]).length=v'.length+1:=by simp
           have wv:IntKind.i64.wrap (((v'++[c]).length:Int) - 1)=(v'.length:Int):=by rw [wrap64 (by omega) (by omega)]; omega
           have hgc:(v'++[c])[v'.length]? = some c:=by simp
           have hvp:0 < (v'++[c]).length:=by simp
           have htv:List.drop 0 (List.take v'.length (v'++[c]))=v':=by rw [List.drop_zero,List.take_left]
           have hvl':v'.length≤(v'++[c]).length:=by simp
           by_cases c1:c=42
           · subst c1
             rw [wordI_star] at htk
             generalize v'++[42]=u at *
             cases xs with
             | nil =>
               conv=>whnf
               rw [ltB_t (by rw [hl]; omega)]
               conv=>whnf
               refine ⟨by omega,R,_,1,rfl,hgi,rfl,rfl,?_⟩
               conv=>whnf
               rw [ltB_t (by omega)]
               conv=>whnf
               rw [wv]
               refine ⟨by omega,_,hgc,?_⟩
               conv=>whnf
               rw [eqB_t (by decide)]
               conv=>whnf
               rw [wv]
               refine ⟨by omega,by show v'.length≤u.length; omega,?_⟩
               conv=>whnf
               refine ⟨fun m hm=>by rw [List.mem_singleton.1 hm]; rfl,?_⟩
               conv=>whnf
               refine ⟨by show 1*24≤_; omega,.inr ⟨(by intro e; cases e),?_⟩⟩
               conv=>whnf
               refine ⟨n - 1,by omega,some [0,1,4],?_⟩
               conv=>whnf
               refine ⟨i+1,[⟨v',true,false⟩],by omega,by omega,htk.symm,by simp,⟨rfl,rfl,rfl,congrArg (V.int .i64) wi,trivial⟩,?_⟩
               show [rukS,rukO ([]:List UInt8) false (.own 2),⟨[[.str (List.drop 0 (List.take v'.length u)),.bool true,.bool false]],3,true,true,false,.cell⟩]=_
               rw [htv]
               rfl
             | cons x0 xs =>
               conv=>whnf
               rw [ltB_t (by rw [hl]; omega)]
               conv=>whnf
               refine ⟨by omega,R,_,1,rfl,hgi,rfl,rfl,?_⟩
               conv=>whnf
               rw [ltB_t (by omega)]
               conv=>whnf
               rw [wv]
               refine ⟨by omega,_,hgc,?_⟩
               conv=>whnf
               rw [eqB_t (by decide)]
               conv=>whnf
               rw [wv]
               refine ⟨by omega,by show v'.length≤u.length; omega,?_⟩
               conv=>whnf
               refine ⟨fun m hm=>by rw [List.mem_singleton.1 hm]; rfl,?_⟩
               conv=>whnf
               refine ⟨by
                show ((rws It.cells (x0::xs)).length+1)*24≤_
                rw [rws_len]; omega,?_⟩
               conv=>whnf
               refine ⟨n - 1,by omega,some [0,1,5],?_⟩
               conv=>whnf
               refine ⟨i+1,(x0::xs)++[⟨v',true,false⟩],by omega,by omega,htk.symm,by simp at j3 ⊢; omega,⟨rfl,rfl,rfl,congrArg (V.int .i64) wi,trivial⟩,?_⟩
               show [rukS,rukO ([]:List UInt8) false (.own 2),⟨rws It.cells (x0::xs)++[[.str (List.drop 0 (List.take v'.length u)),.bool true,.bool false]],3,true,true,false,.cell⟩]=[rukS,rukO ([]:List UInt8) false (.own 2),⟨rws It.cells ((x0::xs)++[⟨v',true,false⟩]),3,true,true,false,.cell⟩]
               rw [htv,rwsI_snoc]
               rfl
           · have c1':((c.toNat:Nat):Int)≠42:=fun e=>c1 (UInt8.toNat_inj.1 (by rw [show (42:UInt8).toNat=42 from rfl]; omega))
             by_cases c2:c=63
             · subst c2
               rw [wordI_may] at htk
               generalize v'++[63]=u at *
               cases xs with
               | nil =>
                 conv=>whnf
                 rw [ltB_t (by rw [hl]; omega)]
                 conv=>whnf
                 refine ⟨by omega,R,_,1,rfl,hgi,rfl,rfl,?_⟩
                 conv=>whnf
                 rw [ltB_t (by omega)]
                 conv=>whnf
                 rw [wv]
                 refine ⟨by omega,_,hgc,?_⟩
                 conv=>whnf
                 rw [eqB_f (by first | exact c1' | decide)]
                 conv=>whnf
                 rw [ltB_t (by omega)]
                 conv=>whnf
                 rw [wv]
                 refine ⟨by omega,_,hgc,?_⟩
                 conv=>whnf
                 rw [eqB_t (by decide)]
                 conv=>whnf
                 rw [wv]
                 refine ⟨by omega,by show v'.length≤u.length; omega,?_⟩
                 conv=>whnf
                 refine ⟨fun m hm=>by rw [List.mem_singleton.1 hm]; rfl,?_⟩
                 conv=>whnf
                 refine ⟨by show 1*24≤_; omega,.inr ⟨(by intro e; cases e),?_⟩⟩
                 conv=>whnf
                 refine ⟨n - 1,by omega,some [0,1,4],?_⟩
                 conv=>whnf
                 refine ⟨i+1,[⟨v',false,true⟩],by omega,by omega,htk.symm,by simp,⟨rfl,rfl,rfl,congrArg (V.int .i64) wi,trivial⟩,?_⟩
                 show [rukS,rukO ([]:List UInt8) false (.own 2),⟨[[.str (List.drop 0 (List.take v'.length u)),.bool false,.bool true]],3,true,true,false,.cell⟩]=_
                 rw [htv]
                 rfl
               | cons x0 xs =>
                 conv=>whnf
                 rw [ltB_t (by rw [hl]; omega)]
                 conv=>whnf
                 refine ⟨by omega,R,_,1,rfl,hgi,rfl,rfl,?_⟩
                 conv=>whnf
                 rw [ltB_t (by omega)]
                 conv=>whnf
                 rw [wv]
                 refine ⟨by omega,_,hgc,?_⟩
                 conv=>whnf
                 rw [eqB_f (by first | exact c1' | decide)]
                 conv=>whnf
                 rw [ltB_t (by omega)]
                 conv=>whnf
                 rw [wv]
                 refine ⟨by omega,_,hgc,?_⟩
                 conv=>whnf
                 rw [eqB_t (by decide)]
                 conv=>whnf
                 rw [wv]
                 refine ⟨by omega,by show v'.length≤u.length; omega,?_⟩
                 conv=>whnf
                 refine ⟨fun m hm=>by rw [List.mem_singleton.1 hm]; rfl,?_⟩
                 conv=>whnf
                 refine ⟨by
                  show ((rws It.cells (x0::xs)).length+1)*24≤_
                  rw [rws_len]; omega,?_⟩
                 conv=>whnf
                 refine ⟨n - 1,by omega,some [0,1,5],?_⟩
                 conv=>whnf
                 refine ⟨i+1,(x0::xs)++[⟨v',false,true⟩],by omega,by omega,htk.symm,by simp at j3 ⊢; omega,⟨rfl,rfl,rfl,congrArg (V.int .i64) wi,trivial⟩,?_⟩
                 show [rukS,rukO ([]:List UInt8) false (.own 2),⟨rws It.cells (x0::xs)++[[.str (List.drop 0 (List.take v'.length u)),.bool false,.bool true]],3,true,true,false,.cell⟩]=[rukS,rukO ([]:List UInt8) false (.own 2),⟨rws It.cells ((x0::xs)++[⟨v',false,true⟩]),3,true,true,false,.cell⟩]
                 rw [htv,rwsI_snoc]
                 rfl
             · have c2':((c.toNat:Nat):Int)≠63:=fun e=>c2 (UInt8.toNat_inj.1 (by rw [show (63:UInt8).toNat=63 from rfl]; omega))
               rw [wordI_none v' c c1 c2] at htk
               generalize v'++[c]=u at *
               cases xs with
               | nil =>
                 conv=>whnf
                 rw [ltB_t (by rw [hl]; omega)]
                 conv=>whnf
                 refine ⟨by omega,R,_,1,rfl,hgi,rfl,rfl,?_⟩
                 conv=>whnf
                 rw [ltB_t (by omega)]
                 conv=>whnf
                 rw [wv]
                 refine ⟨by omega,_,hgc,?_⟩
                 conv=>whnf
                 rw [eqB_f (by first | exact c1' | decide)]
                 conv=>whnf
                 rw [ltB_t (by omega)]
                 conv=>whnf
                 rw [wv]
                 refine ⟨by omega,_,hgc,?_⟩
                 conv=>whnf
                 rw [eqB_f c2']
                 conv=>whnf
                 refine ⟨fun m hm=>by rw [List.mem_singleton.1 hm]; rfl,?_⟩
                 conv=>whnf
                 refine ⟨by show 1*24≤_; omega,.inr ⟨(by intro e; cases e),?_⟩⟩
                 conv=>whnf
                 refine ⟨n - 1,by omega,some [0,1,4],?_⟩
                 conv=>whnf
                 refine ⟨i+1,[⟨u,false,false⟩],by omega,by omega,htk.symm,by simp,⟨rfl,rfl,rfl,congrArg (V.int .i64) wi,trivial⟩,?_⟩
                 rfl
               | cons x0 xs =>
                 conv=>whnf
                 rw [ltB_t (by rw [hl]; omega)]
                 conv=>whnf
                 refine ⟨by omega,R,_,1,rfl,hgi,rfl,rfl,?_⟩
                 conv=>whnf
                 rw [ltB_t (by omega)]
                 conv=>whnf
                 rw [wv]
                 refine ⟨by omega,_,hgc,?_⟩
                 conv=>whnf
                 rw [eqB_f (by first | exact c1' | decide)]
                 conv=>whnf
                 rw [ltB_t (by omega)]
                 conv=>whnf
                 rw [wv]
                 refine ⟨by omega,_,hgc,?_⟩
                 conv=>whnf
                 rw [eqB_f c2']
                 conv=>whnf
                 refine ⟨fun m hm=>by rw [List.mem_singleton.1 hm]; rfl,?_⟩
                 conv=>whnf
                 refine ⟨by
                  show ((rws It.cells (x0::xs)).length+1)*24≤_
                  rw [rws_len]; omega,?_⟩
                 conv=>whnf
                 refine ⟨n - 1,by omega,some [0,1,5],?_⟩
                 conv=>whnf
                 refine ⟨i+1,(x0::xs)++[⟨u,false,false⟩],by omega,by omega,htk.symm,by simp at j3 ⊢; omega,⟨rfl,rfl,rfl,congrArg (V.int .i64) wi,trivial⟩,?_⟩
                 show [rukS,rukO ([]:List UInt8) false (.own 2),⟨rws It.cells (x0::xs)++[It.cells ⟨u,false,false⟩],3,true,true,false,.cell⟩]=[rukS,rukO ([]:List UInt8) false (.own 2),⟨rws It.cells ((x0::xs)++[⟨u,false,false⟩]),3,true,true,false,.cell⟩]
                 rw [rwsI_snoc]
       · obtain rfl:i=N:=by omega
         have hfin:xs=(([]::ws).drop 1).map wordI:=by rw [j2,hN,List.take_length]
         cases xs with
         | nil =>
           conv=>whnf
           rw [ltB_f (by rw [hl]; omega)]
           conv=>whnf
           show V.agg [.str ([]:List UInt8),.bool false,.sl (rws It.cells [])]=_
           rw [hfin]
           rfl
         | cons x0 xs =>
           conv=>whnf
           rw [ltB_f (by rw [hl]; omega)]
           conv=>whnf
           show V.agg [.str ([]:List UInt8),.bool false,.sl (rws It.cells (x0::xs))]=_
           rw [hfin]
           rfl
     · have hwz:(w'++[c0]).length=w'.length+1:=by simp
       have ww:IntKind.i64.wrap (((w'++[c0]).length:Int) - 1)=(w'.length:Int):=by rw [wrap64 (by omega) (by omega)]; omega
       have hdl:(w'++[c0]).dropLast=List.drop 0 (List.take w'.length (w'++[c0])):=by rw [List.drop_zero,List.take_left,List.dropLast_concat]
       have hwp:0 < (w'++[c0]).length:=by simp
       have hwq:w'.length≤(w'++[c0]).length:=by simp
       rw [hdl]
       generalize w'++[c0]=w at *
       rw [ltB_t (by omega)]
       conv=>whnf
       rw [ww]
       refine ⟨by omega,by show w'.length≤w.length; omega,?_⟩
       conv=>whnf
       refine ⟨(fun n fr st=>∃ (i:Nat) (xs:List It),n+i=N∧1≤i∧xs=(((w::ws).take i).drop 1).map wordI∧xs.length≤i∧Holds fr [(2,.ptr 0 0 0),(3,.sl R),(4,.ptr 1 0 0),(6,.int .i64 i)]∧st=[rukS,rukO (List.drop 0 (List.take w'.length w)) false (kidV xs)]++kidO xs),N - 1,true,none,?_,?_⟩
       · conv=>whnf
         refine ⟨1,[],by omega,Nat.le_refl _,?_,by simp,⟨rfl,rfl,rfl,rfl,trivial⟩,rfl⟩
         rw [List.drop_eq_nil_of_le (by rw [List.length_take]; omega)]
         rfl
       rintro n fr st ⟨i,xs,j1,j0,j2,j3,hh,rfl⟩
       obtain ⟨fr,rfl⟩:=hh.split
       clear hh
       by_cases hi:i < N
       · have hgi:=hg i (by omega)
         have hvl:=hm (w::ws)[i] (List.getElem_mem (by omega))
         have htk:(((w::ws).take (i+1)).drop 1).map wordI=xs++[wordI (w::ws)[i]]:=by
          rw [List.take_succ_eq_append_getElem (by omega),List.drop_append_of_le_length (by rw [List.length_take]; omega),List.map_append,← j2]
          rfl
         generalize (w::ws)[i]=v at *
         have wi:IntKind.i64.wrap ((i:Int)+1)=((i+1:Nat):Int):=by rw [wrap64 (by omega) (by omega)]; rfl
         rcases nil_or_snoc v with rfl | ⟨v',c,rfl⟩
         · rw [wordI_nil] at htk
           cases xs with
           | nil =>
             conv=>whnf
             rw [ltB_t (by rw [hl]; omega)]
             conv=>whnf
             refine ⟨by omega,R,_,1,rfl,hgi,rfl,rfl,?_⟩
             conv=>whnf
             rw [ltB_f (by decide)]
             conv=>whnf
             rw [ltB_f (by decide)]
             conv=>whnf
             refine ⟨fun m hm=>by rw [List.mem_singleton.1 hm]; rfl,?_⟩
             conv=>whnf
             refine ⟨by show 1*24≤_; omega,.inr ⟨(by intro e; cases e),?_⟩⟩
             conv=>whnf
             refine ⟨n - 1,by omega,some [0,1,4],?_⟩
             conv=>whnf
             refine ⟨i+1,[⟨[],false,false⟩],by omega,by omega,htk.symm,by simp,⟨rfl,rfl,rfl,congrArg (V.int .i64) wi,trivial⟩,?_⟩
             rfl
           | cons x0 xs =>
             conv=>whnf
             rw [ltB_t (by rw [hl]; omega)]
             conv=>whnf
             refine ⟨by omega,R,_,1,rfl,hgi,rfl,rfl,?_⟩
             conv=>whnf
             rw [ltB_f (by decide)]
             conv=>whnf
             rw [ltB_f (by decide)]
             conv=>whnf
             refine ⟨fun m hm=>by rw [List.mem_singleton.1 hm]; rfl,?_⟩
             conv=>whnf
             refine ⟨by
              show ((rws It.cells (x0::xs)).length+1)*24≤_
              rw [rws_len]; omega,?_⟩
             conv=>whnf
             refine ⟨n - 1,by omega,some [0,1,5],?_⟩
             conv=>whnf
             refine ⟨i+1,(x0::xs)++[⟨[],false,false⟩],by omega,by omega,htk.symm,by simp at j3 ⊢; omega,⟨rfl,rfl,rfl,congrArg (V.int .i64) wi,trivial⟩,?_⟩
             show [rukS,rukO (List.drop 0 (List.take w'.length w)) false (.own 2),⟨rws It.cells (x0::xs)++[It.cells ⟨[],false,false⟩],3,true,true,false,.cell⟩]=[rukS,rukO (List.drop 0 (List.take w'.length w)) false (.own 2),⟨rws It.cells ((x0::xs)++[⟨[],false,false⟩]),3,true,true,false,.cell⟩]
             rw [rwsI_snoc]
         · have hvq:(v'++[c]).length=v'.length+1:=by simp
           have wv:IntKind.i64.wrap (((v'++[c]).length:Int) - 1)=(v'.length:Int):=by rw [wrap64 (by omega) (by omega)]; omega
           have hgc:(v'++[c])[v'.length]? = some c:=by simp
           have hvp:0 < (v'++[c]).length:=by simp
           have htv:List.drop 0 (List.take v'.length (v'++[c]))=v':=by rw [List.drop_zero,List.take_left]
           have hvl':v'.length≤(v'++[c]).length:=by simp
           by_cases c1:c=42
           · subst c1
             rw [wordI_star] at htk
             generalize v'++[42]=u at *
             cases xs with
             | nil =>
               conv=>whnf
               rw [ltB_t (by rw [hl]; omega)]
               conv=>whnf
               refine ⟨by omega,R,_,1,rfl,hgi,rfl,rfl,?_⟩
               conv=>whnf
               rw [ltB_t (by omega)]
               conv=>whnf
               rw [wv]
               refine ⟨by omega,_,hgc,?_⟩
               conv=>whnf
               rw [eqB_t (by decide)]
               conv=>whnf
               rw [wv]
               refine ⟨by omega,by show v'.length≤u.length; omega,?_⟩
               conv=>whnf
               refine ⟨fun m hm=>by rw [List.mem_singleton.1 hm]; rfl,?_⟩
               conv=>whnf
               refine ⟨by show 1*24≤_; omega,.inr ⟨(by intro e; cases e),?_⟩⟩
               conv=>whnf
               refine ⟨n - 1,by omega,some [0,1,4],?_⟩
               conv=>whnf
               refine ⟨i+1,[⟨v',true,false⟩],by omega,by omega,htk.symm,by simp,⟨rfl,rfl,rfl,congrArg (V.int .i64) wi,trivial⟩,?_⟩
               show [rukS,rukO (List.drop 0 (List.take w'.length w)) false (.own 2),⟨[[.str (List.drop 0 (List.take v'.length u)),.bool true,.bool false]],3,true,true,false,.cell⟩]=_
               rw [htv]
               rfl
             | cons x0 xs =>
               conv=>whnf
               rw [ltB_t (by rw [hl]; omega)]
               conv=>whnf
               refine ⟨by omega,R,_,1,rfl,hgi,rfl,rfl,?_⟩
               conv=>whnf
               rw [ltB_t (by omega)]
               conv=>whnf
               rw [wv]
               refine ⟨by omega,_,hgc,?_⟩
               conv=>whnf
               rw [eqB_t (by decide)]
               conv=>whnf
               rw [wv]
               refine ⟨by omega,by show v'.length≤u.length; omega,?_⟩
               conv=>whnf
               refine ⟨fun m hm=>by rw [List.mem_singleton.1 hm]; rfl,?_⟩
               conv=>whnf
               refine ⟨by
                show ((rws It.cells (x0::xs)).length+1)*24≤_
                rw [rws_len]; omega,?_⟩
               conv=>whnf
               refine ⟨n - 1,by omega,some [0,1,5],?_⟩
               conv=>whnf
               refine ⟨i+1,(x0::xs)++[⟨v',true,false⟩],by omega,by omega,htk.symm,by simp at j3 ⊢; omega,⟨rfl,rfl,rfl,congrArg (V.int .i64) wi,trivial⟩,?_⟩
               show [rukS,rukO (List.drop 0 (List.take w'.length w)) false (.own 2),⟨rws It.cells (x0::xs)++[[.str (List.drop 0 (List.take v'.length u)),.bool true,.bool false]],3,true,true,false,.cell⟩]=[rukS,rukO (List.drop 0 (List.take w'.length w)) false (.own 2),⟨rws It.cells ((x0::xs)++[⟨v',true,false⟩]),3,true,true,false,.cell⟩]
               rw [htv,rwsI_snoc]
               rfl
           · have c1':((c.toNat:Nat):Int)≠42:=fun e=>c1 (UInt8.toNat_inj.1 (by rw [show (42:UInt8).toNat=42 from rfl]; omega))
             by_cases c2:c=63
             · subst c2
               rw [wordI_may] at htk
               generalize v'++[63]=u at *
               cases xs with
               | nil =>
                 conv=>whnf
                 rw [ltB_t (by rw [hl]; omega)]
                 conv=>whnf
                 refine ⟨by omega,R,_,1,rfl,hgi,rfl,rfl,?_⟩
                 conv=>whnf
                 rw [ltB_t (by omega)]
                 conv=>whnf
                 rw [wv]
                 refine ⟨by omega,_,hgc,?_⟩
                 conv=>whnf
                 rw [eqB_f (by first | exact c1' | decide)]
                 conv=>whnf
                 rw [ltB_t (by omega)]
                 conv=>whnf
                 rw [wv]
                 refine ⟨by omega,_,hgc,?_⟩
                 conv=>whnf
                 rw [eqB_t (by decide)]
                 conv=>whnf
                 rw [wv]
                 refine ⟨by omega,by show v'.length≤u.length; omega,?_⟩
                 conv=>whnf
                 refine ⟨fun m hm=>by rw [List.mem_singleton.1 hm]; rfl,?_⟩
                 conv=>whnf
                 refine ⟨by show 1*24≤_; omega,.inr ⟨(by intro e; cases e),?_⟩⟩
                 conv=>whnf
                 refine ⟨n - 1,by omega,some [0,1,4],?_⟩
                 conv=>whnf
                 refine ⟨i+1,[⟨v',false,true⟩],by omega,by omega,htk.symm,by simp,⟨rfl,rfl,rfl,congrArg (V.int .i64) wi,trivial⟩,?_⟩
                 show [rukS,rukO (List.drop 0 (List.take w'.length w)) false (.own 2),⟨[[.str (List.drop 0 (List.take v'.length u)),.bool false,.bool true]],3,true,true,false,.cell⟩]=_
                 rw [htv]
                 rfl
               | cons x0 xs =>
                 conv=>whnf
                 rw [ltB_t (by rw [hl]; omega)]
                 conv=>whnf
                 refine ⟨by omega,R,_,1,rfl,hgi,rfl,rfl,?_⟩
                 conv=>whnf
                 rw [ltB_t (by omega)]
                 conv=>whnf
                 rw [wv]
                 refine ⟨by omega,_,hgc,?_⟩
                 conv=>whnf
                 rw [eqB_f (by first | exact c1' | decide)]
                 conv=>whnf
                 rw [ltB_t (by omega)]
                 conv=>whnf
                 rw [wv]
                 refine ⟨by omega,_,hgc,?_⟩
                 conv=>whnf
                 rw [eqB_t (by decide)]
                 conv=>whnf
                 rw [wv]
                 refine ⟨by omega,by show v'.length≤u.length; omega,?_⟩
                 conv=>whnf
                 refine ⟨fun m hm=>by rw [List.mem_singleton.1 hm]; rfl,?_⟩
                 conv=>whnf
                 refine ⟨by
                  show ((rws It.cells (x0::xs)).length+1)*24≤_
                  rw [rws_len]; omega,?_⟩
                 conv=>whnf
                 refine ⟨n - 1,by omega,some [0,1,5],?_⟩
                 conv=>whnf
                 refine ⟨i+1,(x0::xs)++[⟨v',false,true⟩],by omega,by omega,htk.symm,by simp at j3 ⊢; omega,⟨rfl,rfl,rfl,congrArg (V.int .i64) wi,trivial⟩,?_⟩
                 show [rukS,rukO (List.drop 0 (List.take w'.length w)) false (.own 2),⟨rws It.cells (x0::xs)++[[.str (List.drop 0 (List.take v'.length u)),.bool false,.bool true]],3,true,true,false,.cell⟩]=[rukS,rukO (List.drop 0 (List.take w'.length w)) false (.own 2),⟨rws It.cells ((x0::xs)++[⟨v',false,true⟩]),3,true,true,false,.cell⟩]
                 rw [htv,rwsI_snoc]
                 rfl
             · have c2':((c.toNat:Nat):Int)≠63:=fun e=>c2 (UInt8.toNat_inj.1 (by rw [show (63:UInt8).toNat=63 from rfl]; omega))
               rw [wordI_none v' c c1 c2] at htk
               generalize v'++[c]=u at *
               cases xs with
               | nil =>
                 conv=>whnf
                 rw [ltB_t (by rw [hl]; omega)]
                 conv=>whnf
                 refine ⟨by omega,R,_,1,rfl,hgi,rfl,rfl,?_⟩
                 conv=>whnf
                 rw [ltB_t (by omega)]
                 conv=>whnf
                 rw [wv]
                 refine ⟨by omega,_,hgc,?_⟩
                 conv=>whnf
                 rw [eqB_f (by first | exact c1' | decide)]
                 conv=>whnf
                 rw [ltB_t (by omega)]
                 conv=>whnf
                 rw [wv]
                 refine ⟨by omega,_,hgc,?_⟩
                 conv=>whnf
                 rw [eqB_f c2']
                 conv=>whnf
                 refine ⟨fun m hm=>by rw [List.mem_singleton.1 hm]; rfl,?_⟩
                 conv=>whnf
                 refine ⟨by show 1*24≤_; omega,.inr ⟨(by intro e; cases e),?_⟩⟩
                 conv=>whnf
                 refine ⟨n - 1,by omega,some [0,1,4],?_⟩
                 conv=>whnf
                 refine ⟨i+1,[⟨u,false,false⟩],by omega,by omega,htk.symm,by simp,⟨rfl,rfl,rfl,congrArg (V.int .i64) wi,trivial⟩,?_⟩
                 rfl
               | cons x0 xs =>
                 conv=>whnf
                 rw [ltB_t (by rw [hl]; omega)]
                 conv=>whnf
                 refine ⟨by omega,R,_,1,rfl,hgi,rfl,rfl,?_⟩
                 conv=>whnf
                 rw [ltB_t (by omega)]
                 conv=>whnf
                 rw [wv]
                 refine ⟨by omega,_,hgc,?_⟩
                 conv=>whnf
                 rw [eqB_f (by first | exact c1' | decide)]
                 conv=>whnf
                 rw [ltB_t (by omega)]
                 conv=>whnf
                 rw [wv]
                 refine ⟨by omega,_,hgc,?_⟩
                 conv=>whnf
                 rw [eqB_f c2']
                 conv=>whnf
                 refine ⟨fun m hm=>by rw [List.mem_singleton.1 hm]; rfl,?_⟩
                 conv=>whnf
                 refine ⟨by
                  show ((rws It.cells (x0::xs)).length+1)*24≤_
                  rw [rws_len]; omega,?_⟩
                 conv=>whnf
                 refine ⟨n - 1,by omega,some [0,1,5],?_⟩
                 conv=>whnf
                 refine ⟨i+1,(x0::xs)++[⟨u,false,false⟩],by omega,by omega,htk.symm,by simp at j3 ⊢; omega,⟨rfl,rfl,rfl,congrArg (V.int .i64) wi,trivial⟩,?_⟩
                 show [rukS,rukO (List.drop 0 (List.take w'.length w)) false (.own 2),⟨rws It.cells (x0::xs)++[It.cells ⟨u,false,false⟩],3,true,true,false,.cell⟩]=[rukS,rukO (List.drop 0 (List.take w'.length w)) false (.own 2),⟨rws It.cells ((x0::xs)++[⟨u,false,false⟩]),3,true,true,false,.cell⟩]
                 rw [rwsI_snoc]
       · obtain rfl:i=N:=by omega
         have hfin:xs=((w::ws).drop 1).map wordI:=by rw [j2,hN,List.take_length]
         cases xs with
         | nil =>
           conv=>whnf
           rw [ltB_f (by rw [hl]; omega)]
           conv=>whnf
           show V.agg [.str (List.drop 0 (List.take w'.length w)),.bool false,.sl (rws It.cells [])]=_
           rw [hfin]
           rfl
         | cons x0 xs =>
           conv=>whnf
           rw [ltB_f (by rw [hl]; omega)]
           conv=>whnf
           show V.agg [.str (List.drop 0 (List.take w'.length w)),.bool false,.sl (rws It.cells (x0::xs))]=_
           rw [hfin]
           rfl
   · rw [ltB_f (by rw [hl]; omega)]
     conv=>whnf
     rcases nil_or_snoc w with rfl | ⟨w',c0,rfl⟩
     · rw [ltB_f (by decide)]
       conv=>whnf
       refine ⟨(fun n fr st=>∃ (i:Nat) (xs:List It),n+i=N∧1≤i∧xs=((([]::ws).take i).drop 1).map wordI∧xs.length≤i∧Holds fr [(2,.ptr 0 0 0),(3,.sl R),(4,.ptr 1 0 0),(6,.int .i64 i)]∧st=[rukS,rukO ([]:List UInt8) false (kidV xs)]++kidO xs),N - 1,true,none,?_,?_⟩
       · conv=>whnf
         refine ⟨1,[],by omega,Nat.le_refl _,?_,by simp,⟨rfl,rfl,rfl,rfl,trivial⟩,rfl⟩
         rw [List.drop_eq_nil_of_le (by rw [List.length_take]; omega)]
         rfl
       rintro n fr st ⟨i,xs,j1,j0,j2,j3,hh,rfl⟩
       obtain ⟨fr,rfl⟩:=hh.split
       clear hh
       by_cases hi:i < N
       · have hgi:=hg i (by omega)
         have hvl:=hm ([]::ws)[i] (List.getElem_mem (by omega))
         have htk:((([]::ws).take (i+1)).drop 1).map wordI=xs++[wordI ([]::ws)[i]]:=by
          rw [List.take_succ_eq_append_getElem (by omega),List.drop_append_of_le_length (by rw [List.length_take]; omega),List.map_append,← j2]
          rfl
         generalize ([]::ws)[i]=v at *
         have wi:IntKind.i64.wrap ((i:Int)+1)=((i+1:Nat):Int):=by rw [wrap64 (by omega) (by omega)]; rfl
         rcases nil_or_snoc v with rfl | ⟨v',c,rfl⟩
         · rw [wordI_nil] at htk
           cases xs with
           | nil =>
             conv=>whnf
             rw [ltB_t (by rw [hl]; omega)]
             conv=>whnf
             refine ⟨by omega,R,_,1,rfl,hgi,rfl,rfl,?_⟩
             conv=>whnf
             rw [ltB_f (by decide)]
             conv=>whnf
             rw [ltB_f (by decide)]
             conv=>whnf
             refine ⟨fun m hm=>by rw [List.mem_singleton.1 hm]; rfl,?_⟩
             conv=>whnf
             refine ⟨by show 1*24≤_; omega,.inr ⟨(by intro e; cases e),?_⟩⟩
             conv=>whnf
             refine ⟨n - 1,by omega,some [0,1,4],?_⟩
             conv=>whnf
             refine ⟨i+1,[⟨[],false,false⟩],by omega,by omega,htk.symm,by simp,⟨rfl,rfl,rfl,congrArg (V.int .i64) wi,trivial⟩,?_⟩
             rfl
           | cons x0 xs =>
             conv=>whnf
             rw [ltB_t (by rw [hl]; omega)]
             conv=>whnf
             refine ⟨by omega,R,_,1,rfl,hgi,rfl,rfl,?_⟩
             conv=>whnf
             rw [ltB_f (by decide)]
             conv=>whnf
             rw [ltB_f (by decide)]
             conv=>whnf
             refine ⟨fun m hm=>by rw [List.mem_singleton.1 hm]; rfl,?_⟩
             conv=>whnf
             refine ⟨by
              show ((rws It.cells (x0::xs)).length+1)*24≤_
              rw [rws_len]; omega,?_⟩
             conv=>whnf
             refine ⟨n - 1,by omega,some [0,1,5],?_⟩
             conv=>whnf
             refine ⟨i+1,(x0::xs)++[⟨[],false,false⟩],by omega,by omega,htk.symm,by simp at j3 ⊢; omega,⟨rfl,rfl,rfl,congrArg (V.int .i64) wi,trivial⟩,?_⟩
             show [rukS,rukO ([]:List UInt8) false (.own 2),⟨rws It.cells (x0::xs)++[It.cells ⟨[],false,false⟩],3,true,true,false,.cell⟩]=[rukS,rukO ([]:List UInt8) false (.own 2),⟨rws It.cells ((x0::xs)++[⟨[],false,false⟩]),3,true,true,false,.cell⟩]
             rw [rwsI_snoc]
         · have hvq:(v'++[c]).length=v'.length+1:=by simp
           have wv:IntKind.i64.wrap (((v'++[c]).length:Int) - 1)=(v'.length:Int):=by rw [wrap64 (by omega) (by omega)]; omega
           have hgc:(v'++[c])[v'.length]? = some c:=by simp
           have hvp:0 < (v'++[c]).length:=by simp
           have htv:List.drop 0 (List.take v'.length (v'++[c]))=v':=by rw [List.drop_zero,List.take_left]
           have hvl':v'.length≤(v'++[c]).length:=by simp
           by_cases c1:c=42
           · subst c1
             rw [wordI_star] at htk
             generalize v'++[42]=u at *
             cases xs with
             | nil =>
               conv=>whnf
               rw [ltB_t (by rw [hl]; omega)]
               conv=>whnf
               refine ⟨by omega,R,_,1,rfl,hgi,rfl,rfl,?_⟩
               conv=>whnf
               rw [ltB_t (by omega)]
               conv=>whnf
               rw [wv]
               refine ⟨by omega,_,hgc,?_⟩
               conv=>whnf
               rw [eqB_t (by decide)]
               conv=>whnf
               rw [wv]
               refine ⟨by omega,by show v'.length≤u.length; omega,?_⟩
               conv=>whnf
               refine ⟨fun m hm=>by rw [List.mem_singleton.1 hm]; rfl,?_⟩
               conv=>whnf
               refine ⟨by show 1*24≤_; omega,.inr ⟨(by intro e; cases e),?_⟩⟩
               conv=>whnf
               refine ⟨n - 1,by omega,some [0,1,4],?_⟩
               conv=>whnf
               refine ⟨i+1,[⟨v',true,false⟩],by omega,by omega,htk.symm,by simp,⟨rfl,rfl,rfl,congrArg (V.int .i64) wi,trivial⟩,?_⟩
               show [rukS,rukO ([]:List UInt8) false (.own 2),⟨[[.str (List.drop 0 (List.take v'.length u)),.bool true,.bool false]],3,true,true,false,.cell⟩]=_
               rw [htv]
               rfl
             | cons x0 xs =>
               conv=>whnf
               rw [ltB_t (by rw [hl]; omega)]
               conv=>whnf
               refine ⟨by omega,R,_,1,rfl,hgi,rfl,rfl,?_⟩
               conv=>whnf
               rw [ltB_t (by omega)]
               conv=>whnf
               rw [wv]
               refine ⟨by omega,_,hgc,?_⟩
               conv=>whnf
               rw [eqB_t (by decide)]
               conv=>whnf
               rw [wv]
               refine ⟨by omega,by show v'.length≤u.length; omega,?_⟩
               conv=>whnf
               refine ⟨fun m hm=>by rw [List.mem_singleton.1 hm]; rfl,?_⟩
               conv=>whnf
               refine ⟨by
                show ((rws It.cells (x0::xs)).length+1)*24≤_
                rw [rws_len]; omega,?_⟩
               conv=>whnf
               refine ⟨n - 1,by omega,some [0,1,5],?_⟩
               conv=>whnf
               refine ⟨i+1,(x0::xs)++[⟨v',true,false⟩],by omega,by omega,htk.symm,by simp at j3 ⊢; omega,⟨rfl,rfl,rfl,congrArg (V.int .i64) wi,trivial⟩,?_⟩
               show [rukS,rukO ([]:List UInt8) false (.own 2),⟨rws It.cells (x0::xs)++[[.str (List.drop 0 (List.take v'.length u)),.bool true,.bool false]],3,true,true,false,.cell⟩]=[rukS,rukO ([]:List UInt8) false (.own 2),⟨rws It.cells ((x0::xs)++[⟨v',true,false⟩]),3,true,true,false,.cell⟩]
               rw [htv,rwsI_snoc]
               rfl
           · have c1':((c.toNat:Nat):Int)≠42:=fun e=>c1 (UInt8.toNat_inj.1 (by rw [show (42:UInt8).toNat=42 from rfl]; omega))
             by_cases c2:c=63
             · subst c2
               rw [wordI_may] at htk
               generalize v'++[63]=u at *
               cases xs with
               | nil =>
                 conv=>whnf
                 rw [ltB_t (by rw [hl]; omega)]
                 conv=>whnf
                 refine ⟨by omega,R,_,1,rfl,hgi,rfl,rfl,?_⟩
                 conv=>whnf
                 rw [ltB_t (by omega)]
                 conv=>whnf
                 rw [wv]
                 refine ⟨by omega,_,hgc,?_⟩
                 conv=>whnf
                 rw [eqB_f (by first | exact c1' | decide)]
                 conv=>whnf
                 rw [ltB_t (by omega)]
                 conv=>whnf
                 rw [wv]
                 refine ⟨by omega,_,hgc,?_⟩
                 conv=>whnf
                 rw [eqB_t (by decide)]
                 conv=>whnf
                 rw [wv]
                 refine ⟨by omega,by show v'.length≤u.length; omega,?_⟩
                 conv=>whnf
                 refine ⟨fun m hm=>by rw [List.mem_singleton.1 hm]; rfl,?_⟩
                 conv=>whnf
                 refine ⟨by show 1*24≤_; omega,.inr ⟨(by intro e; cases e),?_⟩⟩
                 conv=>whnf
                 refine ⟨n - 1,by omega,some [0,1,4],?_⟩
                 conv=>whnf
                 refine ⟨i+1,[⟨v',false,true⟩],by omega,by omega,htk.symm,by simp,⟨rfl,rfl,rfl,congrArg (V.int .i64) wi,trivial⟩,?_⟩
                 show [rukS,rukO ([]:List UInt8) false (.own 2),⟨[[.str (List.drop 0 (List.take v'.length u)),.bool false,.bool true]],3,true,true,false,.cell⟩]=_
                 rw [htv]
                 rfl
               | cons x0 xs =>
                 conv=>whnf
                 rw [ltB_t (by rw [hl]; omega)]
                 conv=>whnf
                 refine ⟨by omega,R,_,1,rfl,hgi,rfl,rfl,?_⟩
                 conv=>whnf
                 rw [ltB_t (by omega)]
                 conv=>whnf
                 rw [wv]
                 refine ⟨by omega,_,hgc,?_⟩
                 conv=>whnf
                 rw [eqB_f (by first | exact c1' | decide)]
                 conv=>whnf
                 rw [ltB_t (by omega)]
                 conv=>whnf
                 rw [wv]
                 refine ⟨by omega,_,hgc,?_⟩
                 conv=>whnf
                 rw [eqB_t (by decide)]
                 conv=>whnf
                 rw [wv]
                 refine ⟨by omega,by show v'.length≤u.length; omega,?_⟩
                 conv=>whnf
                 refine ⟨fun m hm=>by rw [List.mem_singleton.1 hm]; rfl,?_⟩
                 conv=>whnf
                 refine ⟨by
                  show ((rws It.cells (x0::xs)).length+1)*24≤_
                  rw [rws_len]; omega,?_⟩
                 conv=>whnf
                 refine ⟨n - 1,by omega,some [0,1,5],?_⟩
                 conv=>whnf
                 refine ⟨i+1,(x0::xs)++[⟨v',false,true⟩],by omega,by omega,htk.symm,by simp at j3 ⊢; omega,⟨rfl,rfl,rfl,congrArg (V.int .i64) wi,trivial⟩,?_⟩
                 show [rukS,rukO ([]:List UInt8) false (.own 2),⟨rws It.cells (x0::xs)++[[.str (List.drop 0 (List.take v'.length u)),.bool false,.bool true]],3,true,true,false,.cell⟩]=[rukS,rukO ([]:List UInt8) false (.own 2),⟨rws It.cells ((x0::xs)++[⟨v',false,true⟩]),3,true,true,false,.cell⟩]
                 rw [htv,rwsI_snoc]
                 rfl
             · have c2':((c.toNat:Nat):Int)≠63:=fun e=>c2 (UInt8.toNat_inj.1 (by rw [show (63:UInt8).toNat=63 from rfl]; omega))
               rw [wordI_none v' c c1 c2] at htk
               generalize v'++[c]=u at *
               cases xs with
               | nil =>
                 conv=>whnf
                 rw [ltB_t (by rw [hl]; omega)]
                 conv=>whnf
                 refine ⟨by omega,R,_,1,rfl,hgi,rfl,rfl,?_⟩
                 conv=>whnf
                 rw [ltB_t (by omega)]
                 conv=>whnf
                 rw [wv]
                 refine ⟨by omega,_,hgc,?_⟩
                 conv=>whnf
                 rw [eqB_f (by first | exact c1' | decide)]
                 conv=>whnf
                 rw [ltB_t (by omega)]
                 conv=>whnf
                 rw [wv]
                 refine ⟨by omega,_,hgc,?_⟩
                 conv=>whnf
                 rw [eqB_f c2']
                 conv=>whnf
                 refine ⟨fun m hm=>by rw [List.mem_singleton.1 hm]; rfl,?_⟩
                 conv=>whnf
                 refine ⟨by show 1*24≤_; omega,.inr ⟨(by intro e; cases e),?_⟩⟩
                 conv=>whnf
                 refine ⟨n - 1,by omega,some [0,1,4],?_⟩
                 conv=>whnf
                 refine ⟨i+1,[⟨u,false,false⟩],by omega,by omega,htk.symm,by simp,⟨rfl,rfl,rfl,congrArg (V.int .i64) wi,trivial⟩,?_⟩
                 rfl
               | cons x0 xs =>
                 conv=>whnf
                 rw [ltB_t (by rw [hl]; omega)]
                 conv=>whnf
                 refine ⟨by omega,R,_,1,rfl,hgi,rfl,rfl,?_⟩
                 conv=>whnf
                 rw [ltB_t (by omega)]
                 conv=>whnf
                 rw [wv]
                 refine ⟨by omega,_,hgc,?_⟩
                 conv=>whnf
                 rw [eqB_f (by first | exact c1' | decide)]
                 conv=>whnf
                 rw [ltB_t (by omega)]
                 conv=>whnf
                 rw [wv]
                 refine ⟨by omega,_,hgc,?_⟩
                 conv=>whnf
                 rw [eqB_f c2']
                 conv=>whnf
                 refine ⟨fun m hm=>by rw [List.mem_singleton.1 hm]; rfl,?_⟩
                 conv=>whnf
                 refine ⟨by
                  show ((rws It.cells (x0::xs)).length+1)*24≤_
                  rw [rws_len]; omega,?_⟩
                 conv=>whnf
                 refine ⟨n - 1,by omega,some [0,1,5],?_⟩
                 conv=>whnf
                 refine ⟨i+1,(x0::xs)++[⟨u,false,false⟩],by omega,by omega,htk.symm,by simp at j3 ⊢; omega,⟨rfl,rfl,rfl,congrArg (V.int .i64) wi,trivial⟩,?_⟩
                 show [rukS,rukO ([]:List UInt8) false (.own 2),⟨rws It.cells (x0::xs)++[It.cells ⟨u,false,false⟩],3,true,true,false,.cell⟩]=[rukS,rukO ([]:List UInt8) false (.own 2),⟨rws It.cells ((x0::xs)++[⟨u,false,false⟩]),3,true,true,false,.cell⟩]
                 rw [rwsI_snoc]
       · obtain rfl:i=N:=by omega
         have hfin:xs=(([]::ws).drop 1).map wordI:=by rw [j2,hN,List.take_length]
         cases xs with
         | nil =>
           conv=>whnf
           rw [ltB_f (by rw [hl]; omega)]
           conv=>whnf
           show V.agg [.str ([]:List UInt8),.bool false,.sl (rws It.cells [])]=_
           rw [hfin]
           rfl
         | cons x0 xs =>
           conv=>whnf
           rw [ltB_f (by rw [hl]; omega)]
           conv=>whnf
           show V.agg [.str ([]:List UInt8),.bool false,.sl (rws It.cells (x0::xs))]=_
           rw [hfin]
           rfl
     · have hwz:(w'++[c0]).length=w'.length+1:=by simp
       have ww:IntKind.i64.wrap (((w'++[c0]).length:Int) - 1)=(w'.length:Int):=by rw [wrap64 (by omega) (by omega)]; omega
       have hdl:(w'++[c0]).dropLast=List.drop 0 (List.take w'.length (w'++[c0])):=by rw [List.drop_zero,List.take_left,List.dropLast_concat]
       have hwp:0 < (w'++[c0]).length:=by simp
       have hwq:w'.length≤(w'++[c0]).length:=by simp
       rw [hdl]
       generalize w'++[c0]=w at *
       rw [ltB_t (by omega)]
       conv=>whnf
       rw [ww]
       refine ⟨by omega,by show w'.length≤w.length; omega,?_⟩
       conv=>whnf
       refine ⟨(fun n fr st=>∃ (i:Nat) (xs:List It),n+i=N∧1≤i∧xs=(((w::ws).take i).drop 1).map wordI∧xs.length≤i∧Holds fr [(2,.ptr 0 0 0),(3,.sl R),(4,.ptr 1 0 0),(6,.int .i64 i)]∧st=[rukS,rukO (List.drop 0 (List.take w'.length w)) false (kidV xs)]++kidO xs),N - 1,true,none,?_,?_⟩
       · conv=>whnf
         refine ⟨1,[],by omega,Nat.le_refl _,?_,by simp,⟨rfl,rfl,rfl,rfl,trivial⟩,rfl⟩
         rw [List.drop_eq_nil_of_le (by rw [List.length_take]; omega)]
         rfl
       rintro n fr st ⟨i,xs,j1,j0,j2,j3,hh,rfl⟩
       obtain ⟨fr,rfl⟩:=hh.split
       clear hh
       by_cases hi:i < N
       · have hgi:=hg i (by omega)
         have hvl:=hm (w::ws)[i] (List.getElem_mem (by omega))
         have htk:(((w::ws).take (i+1)).drop 1).map wordI=xs++[wordI (w::ws)[i]]:=by
          rw [List.take_succ_eq_append_getElem (by omega),List.drop_append_of_le_length (by rw [List.length_take]; omega),List.map_append,← j2]
          rfl
         generalize (w::ws)[i]=v at *
         have wi:IntKind.i64.wrap ((i:Int)+1)=((i+1:Nat):Int):=by rw [wrap64 (by omega) (by omega)]; rfl
         rcases nil_or_snoc v with rfl | ⟨v',c,rfl⟩
         · rw [wordI_nil] at htk
           cases xs with
           | nil =>
             conv=>whnf
             rw [ltB_t (by rw [hl]; omega)]
             conv=>whnf
             refine ⟨by omega,R,_,1,rfl,hgi,rfl,rfl,?_⟩
             conv=>whnf
             rw [ltB_f (by decide)]
             conv=>whnf
             rw [ltB_f (by decide)]
             conv=>whnf
             refine ⟨fun m hm=>by rw [List.mem_singleton.1 hm]; rfl,?_⟩
             conv=>whnf
             refine ⟨by show 1*24≤_; omega,.inr ⟨(by intro e; cases e),?_⟩⟩
             conv=>whnf
             refine ⟨n - 1,by omega,some [0,1,4],?_⟩
             conv=>whnf
             refine ⟨i+1,[⟨[],false,false⟩],by omega,by omega,htk.symm,by simp,⟨rfl,rfl,rfl,congrArg (V.int .i64) wi,trivial⟩,?_⟩
             rfl
           | cons x0 xs =>
             conv=>whnf
             rw [ltB_t (by rw [hl]; omega)]
             conv=>whnf
             refine ⟨by omega,R,_,1,rfl,hgi,rfl,rfl,?_⟩
             conv=>whnf
             rw [ltB_f (by decide)]
             conv=>whnf
             rw [ltB_f (by decide)]
             conv=>whnf
             refine ⟨fun m hm=>by rw [List.mem_singleton.1 hm]; rfl,?_⟩
             conv=>whnf
             refine ⟨by
              show ((rws It.cells (x0::xs)).length+1)*24≤_
              rw [rws_len]; omega,?_⟩
             conv=>whnf
             refine ⟨n - 1,by omega,some [0,1,5],?_⟩
             conv=>whnf
             refine ⟨i+1,(x0::xs)++[⟨[],false,false⟩],by omega,by omega,htk.symm,by simp at j3 ⊢; omega,⟨rfl,rfl,rfl,congrArg (V.int .i64) wi,trivial⟩,?_⟩
             show [rukS,rukO (List.drop 0 (List.take w'.length w)) false (.own 2),⟨rws It.cells (x0::xs)++[It.cells ⟨[],false,false⟩],3,true,true,false,.cell⟩]=[rukS,rukO (List.drop 0 (List.take w'.length w)) false (.own 2),⟨rws It.cells ((x0::xs)++[⟨[],false,false⟩]),3,true,true,false,.cell⟩]
             rw [rwsI_snoc]
         · have hvq:(v'++[c]).length=v'.length+1:=by simp
           have wv:IntKind.i64.wrap (((v'++[c]).length:Int) - 1)=(v'.length:Int):=by rw [wrap64 (by omega) (by omega)]; omega
           have hgc:(v'++[c])[v'.length]? = some c:=by simp
           have hvp:0 < (v'++[c]).length:=by simp
           have htv:List.drop 0 (List.take v'.length (v'++[c]))=v':=by rw [List.drop_zero,List.take_left]
           have hvl':v'.length≤(v'++[c]).length:=by simp
           by_cases c1:c=42
           · subst c1
             rw [wordI_star] at htk
             generalize v'++[42]=u at *
             cases xs with
             | nil =>
               conv=>whnf
               rw [ltB_t (by rw [hl]; omega)]
               conv=>whnf
               refine ⟨by omega,R,_,1,rfl,hgi,rfl,rfl,?_⟩
               conv=>whnf
               rw [ltB_t (by omega)]
               conv=>whnf
               rw [wv]
               refine ⟨by omega,_,hgc,?_⟩
               conv=>whnf
               rw [eqB_t (by decide)]
               conv=>whnf
               rw [wv]
               refine ⟨by omega,by show v'.length≤u.length; omega,?_⟩
               conv=>whnf
               refine ⟨fun m hm=>by rw [List.mem_singleton.1 hm]; rfl,?_⟩
               conv=>whnf
               refine ⟨by show 1*24≤_; omega,.inr ⟨(by intro e; cases e),?_⟩⟩
               conv=>whnf
               refine ⟨n - 1,by omega,some [0,1,4],?_⟩
               conv=>whnf
               refine ⟨i+1,[⟨v',true,false⟩],by omega,by omega,htk.symm,by simp,⟨rfl,rfl,rfl,congrArg (V.int .i64) wi,trivial⟩,?_⟩
               show [rukS,rukO (List.drop 0 (List.take w'.length w)) false (.own 2),⟨[[.str (List.drop 0 (List.take v'.length u)),.bool true,.bool false]],3,true,true,false,.cell⟩]=_
               rw [htv]
               rfl
             | cons x0 xs =>
               conv=>whnf
               rw [ltB_t (by rw [hl]; omega)]
               conv=>whnf
               refine ⟨by omega,R,_,1,rfl,hgi,rfl,rfl,?_⟩
               conv=>whnf
               rw [ltB_t (by omega)]
               conv=>whnf
               rw [wv]
               refine ⟨by omega,_,hgc,?_⟩
               conv=>whnf
               rw [eqB_t (by decide)]
               conv=>whnf
               rw [wv]
               refine ⟨by omega,by show v'.length≤u.length; omega,?_⟩
               conv=>whnf
               refine ⟨fun m hm=>by rw [List.mem_singleton.1 hm]; rfl,?_⟩
               conv=>whnf
               refine ⟨by
                show ((rws It.cells (x0::xs)).length+1)*24≤_
                rw [rws_len]; omega,?_⟩
               conv=>whnf
               refine ⟨n - 1,by omega,some [0,1,5],?_⟩
               conv=>whnf
               refine ⟨i+1,(x0::xs)++[⟨v',true,false⟩],by omega,by omega,htk.symm,by simp at j3 ⊢; omega,⟨rfl,rfl,rfl,congrArg (V.int .i64) wi,trivial⟩,?_⟩
               show [rukS,rukO (List.drop 0 (List.take w'.length w)) false (.own 2),⟨rws It.cells (x0::xs)++[[.str (List.drop 0 (List.take v'.length u)),.bool true,.bool false]],3,true,true,false,.cell⟩]=[rukS,rukO (List.drop 0 (List.take w'.length w)) false (.own 2),⟨rws It.cells ((x0::xs)++[⟨v',true,false⟩]),3,true,true,false,.cell⟩]
               rw [htv,rwsI_snoc]
               rfl
           · have c1':((c.toNat:Nat):Int)≠42:=fun e=>c1 (UInt8.toNat_inj.1 (by rw [show (42:UInt8).toNat=42 from rfl]; omega))
             by_cases c2:c=63
             · subst c2
               rw [wordI_may] at htk
               generalize v'++[63]=u at *
               cases xs with
               | nil =>
                 conv=>whnf
                 rw [ltB_t (by rw [hl]; omega)]
                 conv=>whnf
                 refine ⟨by omega,R,_,1,rfl,hgi,rfl,rfl,?_⟩
                 conv=>whnf
                 rw [ltB_t (by omega)]
                 conv=>whnf
                 rw [wv]
                 refine ⟨by omega,_,hgc,?_⟩
                 conv=>whnf
                 rw [eqB_f (by first | exact c1' | decide)]
                 conv=>whnf
                 rw [ltB_t (by omega)]
                 conv=>whnf
                 rw [wv]
                 refine ⟨by omega,_,hgc,?_⟩
                 conv=>whnf
                 rw [eqB_t (by decide)]
                 conv=>whnf
                 rw [wv]
                 refine ⟨by omega,by show v'.length≤u.length; omega,?_⟩
                 conv=>whnf
                 refine ⟨fun m hm=>by rw [List.mem_singleton.1 hm]; rfl,?_⟩
                 conv=>whnf
                 refine ⟨by show 1*24≤_; omega,.inr ⟨(by intro e; cases e),?_⟩⟩
                 conv=>whnf
                 refine ⟨n - 1,by omega,some [0,1,4],?_⟩
                 conv=>whnf
                 refine ⟨i+1,[⟨v',false,true⟩],by omega,by omega,htk.symm,by simp,⟨rfl,rfl,rfl,congrArg (V.int .i64) wi,trivial⟩,?_⟩
                 show [rukS,rukO (List.drop 0 (List.take w'.length w)) false (.own 2),⟨[[.str (List.drop 0 (List.take v'.length u)),.bool false,.bool true]],3,true,true,false,.cell⟩]=_
                 rw [htv]
                 rfl
               | cons x0 xs =>
                 conv=>whnf
                 rw [ltB_t (by rw [hl]; omega)]
                 conv=>whnf
                 refine ⟨by omega,R,_,1,rfl,hgi,rfl,rfl,?_⟩
                 conv=>whnf
                 rw [ltB_t (by omega)]
                 conv=>whnf
                 rw [wv]
                 refine ⟨by omega,_,hgc,?_⟩
                 conv=>whnf
                 rw [eqB_f (by first | exact c1' | decide)]
                 conv=>whnf
                 rw [ltB_t (by omega)]
                 conv=>whnf
                 rw [wv]
                 refine ⟨by omega,_,hgc,?_⟩
                 conv=>whnf
                 rw [eqB_t (by decide)]
                 conv=>whnf
                 rw [wv]
                 refine ⟨by omega,by show v'.length≤u.length; omega,?_⟩
                 conv=>whnf
                 refine ⟨fun m hm=>by rw [List.mem_singleton.1 hm]; rfl,?_⟩
                 conv=>whnf
                 refine ⟨by
                  show ((rws It.cells (x0::xs)).length+1)*24≤_
                  rw [rws_len]; omega,?_⟩
                 conv=>whnf
                 refine ⟨n - 1,by omega,some [0,1,5],?_⟩
                 conv=>whnf
                 refine ⟨i+1,(x0::xs)++[⟨v',false,true⟩],by omega,by omega,htk.symm,by simp at j3 ⊢; omega,⟨rfl,rfl,rfl,congrArg (V.int .i64) wi,trivial⟩,?_⟩
                 show [rukS,rukO (List.drop 0 (List.take w'.length w)) false (.own 2),⟨rws It.cells (x0::xs)++[[.str (List.drop 0 (List.take v'.length u)),.bool false,.bool true]],3,true,true,false,.cell⟩]=[rukS,rukO (List.drop 0 (List.take w'.length w)) false (.own 2),⟨rws It.cells ((x0::xs)++[⟨v',false,true⟩]),3,true,true,false,.cell⟩]
                 rw [htv,rwsI_snoc]
                 rfl
             · have c2':((c.toNat:Nat):Int)≠63:=fun e=>c2 (UInt8.toNat_inj.1 (by rw [show (63:UInt8).toNat=63 from rfl]; omega))
               rw [wordI_none v' c c1 c2] at htk
               generalize v'++[c]=u at *
               cases xs with
               | nil =>
                 conv=>whnf
                 rw [ltB_t (by rw [hl]; omega)]
                 conv=>whnf
                 refine ⟨by omega,R,_,1,rfl,hgi,rfl,rfl,?_⟩
                 conv=>whnf
                 rw [ltB_t (by omega)]
                 conv=>whnf
                 rw [wv]
                 refine ⟨by omega,_,hgc,?_⟩
                 conv=>whnf
                 rw [eqB_f (by first | exact c1' | decide)]
                 conv=>whnf
                 rw [ltB_t (by omega)]
                 conv=>whnf
                 rw [wv]
                 refine ⟨by omega,_,hgc,?_⟩
                 conv=>whnf
                 rw [eqB_f c2']
                 conv=>whnf
                 refine ⟨fun m hm=>by rw [List.mem_singleton.1 hm]; rfl,?_⟩
                 conv=>whnf
                 refine ⟨by show 1*24≤_; omega,.inr ⟨(by intro e; cases e),?_⟩⟩
                 conv=>whnf
                 refine ⟨n - 1,by omega,some [0,1,4],?_⟩
                 conv=>whnf
                 refine ⟨i+1,[⟨u,false,false⟩],by omega,by omega,htk.symm,by simp,⟨rfl,rfl,rfl,congrArg (V.int .i64) wi,trivial⟩,?_⟩
                 rfl
               | cons x0 xs =>
                 conv=>whnf
                 rw [ltB_t (by rw [hl]; omega)]
                 conv=>whnf
                 refine ⟨by omega,R,_,1,rfl,hgi,rfl,rfl,?_⟩
                 conv=>whnf
                 rw [ltB_t (by omega)]
                 conv=>whnf
                 rw [wv]
                 refine ⟨by omega,_,hgc,?_⟩
                 conv=>whnf
                 rw [eqB_f (by first | exact c1' | decide)]
                 conv=>whnf
                 rw [ltB_t (by omega)]
                 conv=>whnf
                 rw [wv]
                 refine ⟨by omega,_,hgc,?_⟩
                 conv=>whnf
                 rw [eqB_f c2']
                 conv=>whnf
                 refine ⟨fun m hm=>by rw [List.mem_singleton.1 hm]; rfl,?_⟩
                 conv=>whnf
                 refine ⟨by
                  show ((rws It.cells (x0::xs)).length+1)*24≤_
                  rw [rws_len]; omega,?_⟩
                 conv=>whnf
                 refine ⟨n - 1,by omega,some [0,1,5],?_⟩
                 conv=>whnf
                 refine ⟨i+1,(x0::xs)++[⟨u,false,false⟩],by omega,by omega,htk.symm,by simp at j3 ⊢; omega,⟨rfl,rfl,rfl,congrArg (V.int .i64) wi,trivial⟩,?_⟩
                 show [rukS,rukO (List.drop 0 (List.take w'.length w)) false (.own 2),⟨rws It.cells (x0::xs)++[It.cells ⟨u,false,false⟩],3,true,true,false,.cell⟩]=[rukS,rukO (List.drop 0 (List.take w'.length w)) false (.own 2),⟨rws It.cells ((x0::xs)++[⟨u,false,false⟩]),3,true,true,false,.cell⟩]
                 rw [rwsI_snoc]
       · obtain rfl:i=N:=by omega
         have hfin:xs=((w::ws).drop 1).map wordI:=by rw [j2,hN,List.take_length]
         cases xs with
         | nil =>
           conv=>whnf
           rw [ltB_f (by rw [hl]; omega)]
           conv=>whnf
           show V.agg [.str (List.drop 0 (List.take w'.length w)),.bool false,.sl (rws It.cells [])]=_
           rw [hfin]
           rfl
         | cons x0 xs =>
           conv=>whnf
           rw [ltB_f (by rw [hl]; omega)]
           conv=>whnf
           show V.agg [.str (List.drop 0 (List.take w'.length w)),.bool false,.sl (rws It.cells (x0::xs))]=_
           rw [hfin]
           rfl
end Go.Cod
set_option linter.all false
namespace Go.Cod
variable [Adr]
open Go Go.Proofs
set_option linter.all false
set_option maxRecDepth 10000
def ZSc:Sc:=⟨[],[]⟩
def SpV (s:List UInt8):V:=match specS s with
 | none=>.tup [.agg ZSc.cells,.bool false]
 | some c=>.tup [.agg c.cells,.bool true]
def rkV (rs:List Ru):V:=match rs with
 | []=>.nils
 | _::_=>.own 2
def rkO (rs:List Ru):List O:=match rs with
 | []=>[]
 | _::_=>[⟨rws Ru.cells rs,3,true,true,false,.cell⟩]
def scX (root:List UInt8) (v:V):O:=⟨[[.str root,v]],2,true,true,true,.cell⟩
theorem rwsR_snoc (xs:List Ru) (x:Ru):rws Ru.cells (xs++[x])=rws Ru.cells xs++[x.cells]:=by simp [rws]
theorem wordsR_sm (n:Nat):∀ ws:List (List UInt8),(∀ w∈ws,w.length≤n)→n≤1048576→ws.length≤1048577→(wordsR ws).Sm
 | [],_,_,_=>⟨by simp [wordsR],by simp [wordsR],fun x hx=>by simp [wordsR] at hx⟩
 | w::ws,h,hn,hl=>by
   have hw:=h w (by simp)
   have hi:∀ v∈ws,It.Sm (wordI v):=fun v hv=>by
    have:=h v (by simp [hv])
    unfold It.Sm wordI
    split
    · simp; omega
    · split
      · simp; omega
      · simp; omega
   simp only [List.length_cons] at hl
   rw [wordsR]
   by_cases hx:ws.head? = some textC
   · rw [if_pos hx]
     refine ⟨by simp only; omega,by simp only [List.length_map,List.length_drop]; omega,fun x hx=>?_⟩
     obtain ⟨v,hv,rfl⟩:=List.mem_map.1 hx
     exact hi v (List.mem_of_mem_drop hv)
   · rw [if_neg hx]
     refine ⟨by simp only [List.length_dropLast]; omega,by simp only [List.length_map]; omega,fun x hx=>?_⟩
     obtain ⟨v,hv,rfl⟩:=List.mem_map.1 hx
     exact hi v hv
theorem lineS_sm {l:List UInt8} (h:l.length≤1048576):(lineS l).Sm:=wordsR_sm l.length _ (cutB_mem 32 l) h (by have:=cutB_count 32 l; omega)
set_option maxHeartbeats 8000000 in
theorem specSchemaRead_pure (s:List UInt8) (hs:s.length≤1048576):Pure Tryd.prog 7 [.str s] (·=SpV s):=by
 have hc:=cut_pure 10 s hs
 obtain ⟨w,ws,hw⟩:=cutB_ne 10 s
 have hm:=cutB_mem 10 s
 have hcnt:=cutB_count 10 s
 unfold SpV specS
 rw [hw] at hc hm hcnt ⊢
 have hl:=srows_len (w::ws)
 have hg:=fun i h=>srows_get (w::ws) i h
 have hg0:(srows (w::ws))[0]? = some [.str w]:=rfl
 have hwl:=hm w (by simp)
 obtain ⟨N,hN⟩:∃ N,N=ws.length:=⟨_,rfl⟩
 have hl:(srows (w::ws)).length=N+1:=by rw [hl,hN]; rfl
 refine pure_of_awp good Tryd.func7 rfl (by kernel_rfl) (by decide) ?_
 conv=>whnf
 refine .inl (hc.mono ?_)
 rintro r rfl
 obtain ⟨R,hR⟩:∃ R,R=srows (w::ws):=⟨_,rfl⟩
 rw [← hR] at hl hg0 ⊢
 simp only [← hR] at hg
 conv=>whnf
 by_cases h8:8 < R.length
 · rw [ltB_t (by omega)]
   have hh:¬ (headOk (w::ws)=true∧writeS (linesS (w::ws))=s):=fun h=>by
    have:=h.1
    unfold headOk at this
    simp only [Bool.and_eq_true,decide_eq_true_eq] at this
    omega
   rw [if_neg hh]
   conv=>whnf
   rfl
 rw [ltB_f (by omega)]
 conv=>whnf
 refine ⟨by omega,R,_,1,rfl,hg0,rfl,rfl,?_⟩
 conv=>whnf
 by_cases h6:w.length < 6
 · rw [ltB_t (by omega)]
   have hh:¬ (headOk (w::ws)=true∧writeS (linesS (w::ws))=s):=fun h=>by
    have:=h.1
    unfold headOk at this
    simp only [Bool.and_eq_true,decide_eq_true_eq] at this
    omega
   rw [if_neg hh]
   conv=>whnf
   rfl
 rw [ltB_f (by omega)]
 conv=>whnf
 refine ⟨by omega,R,_,1,rfl,hg0,rfl,rfl,?_⟩
 conv=>whnf
 refine ⟨by omega,by show 5≤w.length; omega,?_⟩
 conv=>whnf
 by_cases hr:w.take 5=rootW
 case neg =>
  have he:eqS (List.drop 0 (List.take 5 w)) (⟨#[114,111,111,116,32]⟩:ByteArray).data.toList=false:=eqS_f (by rw [List.drop_zero]; exact hr)
  rw [show eqS (List.drop 0 (List.take (Int.toNat 5) w)) (⟨#[114,111,111,116,32]⟩:ByteArray).data.toList=false from he]
  have hh:¬ (headOk (w::ws)=true∧writeS (linesS (w::ws))=s):=fun h=>by
   have:=h.1
   unfold headOk at this
   simp only [Bool.and_eq_true,decide_eq_true_eq] at this
   exact hr this.2
  rw [if_neg hh]
  conv=>whnf
  rfl
 have he:eqS (List.drop 0 (List.take (Int.toNat 5) w)) (⟨#[114,111,111,116,32]⟩:ByteArray).data.toList=true:=eqS_t (by rw [List.drop_zero]; exact hr)
 rw [he]
 conv=>whnf
 refine ⟨by omega,R,_,1,rfl,hg0,rfl,rfl,?_⟩
 conv=>whnf
 refine ⟨by omega,by show 5≤w.length; omega,?_⟩
 have hd5:List.drop (Int.toNat 5) (List.take w.length w)=w.drop 5:=by rw [List.take_length]; rfl
 conv=>whnf
 have wN:IntKind.i64.wrap ((R.length:Int) - 1)=(N:Int):=by rw [hl,wrap64 (by omega) (by omega)]; omega
 refine ⟨(fun n fr st=>∃ (i:Nat) (rs:List Ru),n+i=N+1∧1≤i∧(i≤N∨i=1)∧rs=(((w::ws).take i).drop 1).map lineS∧rs.length≤i∧(∀ r∈rs,r.Sm) ∧
   Holds fr [(0,.str s),(2,.ptr 0 0 0),(4,.ptr 1 0 0),(5,.sl R),(6,.int .i64 i)]∧st=[scX [] .nils,scX (w.drop 5) (rkV rs)]++rkO rs),N,true,none,?_,?_⟩
 · conv=>whnf
   refine ⟨1,[],rfl,Nat.le_refl _,.inr rfl,rfl,by simp,(fun r h=>by cases h),⟨rfl,rfl,rfl,rfl,rfl,trivial⟩,?_⟩
   rw [← hd5]
   rfl
 rintro n fr st ⟨i,rs,j1,j0,j00,j2,j3,j4,hh,rfl⟩
 obtain ⟨fr,rfl⟩:=hh.split
 clear hh
 by_cases hi:i < N
 · have hil:i < (w::ws).length:=by rw [List.length_cons]; omega
   have hgi:=hg i hil
   have hvl:=hm (w::ws)[i] (List.getElem_mem hil)
   have htk:(((w::ws).take (i+1)).drop 1).map lineS=rs++[lineS (w::ws)[i]]:=by
    rw [List.take_succ_eq_append_getElem hil,List.drop_append_of_le_length (by rw [List.length_take]; omega),List.map_append,← j2]
    rfl
   generalize (w::ws)[i]=v at *
   have hlp:=line_pure v (by omega)
   have hsm:(lineS v).Sm:=lineS_sm (by omega)
   generalize lineS v=x at *
   have wi:IntKind.i64.wrap ((i:Int)+1)=((i+1:Nat):Int):=by rw [wrap64 (by omega) (by omega)]; rfl
   have hsm':∀ r∈rs++[x],r.Sm:=fun r hr=>by
    rcases List.mem_append.1 hr with hr | hr
    · exact j4 r hr
    · rw [List.mem_singleton.1 hr]; exact hsm
   cases rs with
   | nil =>
     conv=>whnf
     rw [wN,ltB_t (by omega)]
     conv=>whnf
     refine ⟨by omega,R,_,1,rfl,hgi,rfl,rfl,?_⟩
     conv=>whnf
     refine ⟨_,.inl hlp,?_⟩
     conv=>whnf
     repeat
      refine And.intro (by (conv=>whnf); first | rfl | exact rfl) ?_
      conv=>whnf
     refine ⟨fun m hm=>by rw [List.mem_singleton.1 hm]; rfl,?_⟩
     conv=>whnf
     refine ⟨by show 1*48≤_; omega,.inr ⟨(by intro e; cases e),?_⟩⟩
     conv=>whnf
     repeat
      refine And.intro (by (conv=>whnf); first | rfl | exact rfl) ?_
      conv=>whnf
     refine ⟨n - 1,by omega,some [0,1,3],?_⟩
     conv=>whnf
     refine ⟨i+1,[x],by omega,by omega,.inl (by omega),htk.symm,by simp,hsm',⟨rfl,rfl,rfl,rfl,congrArg (V.int .i64) wi,trivial⟩,?_⟩
     rfl
   | cons r0 rs =>
     conv=>whnf
     rw [wN,ltB_t (by omega)]
     conv=>whnf
     refine ⟨by omega,R,_,1,rfl,hgi,rfl,rfl,?_⟩
     conv=>whnf
     refine ⟨_,.inl hlp,?_⟩
     conv=>whnf
     repeat
      refine And.intro (by (conv=>whnf); first | rfl | exact rfl) ?_
      conv=>whnf
     refine ⟨fun m hm=>by rw [List.mem_singleton.1 hm]; rfl,?_⟩
     conv=>whnf
     refine ⟨by
      show ((rws Ru.cells (r0::rs)).length+1)*48≤_
      rw [rws_len]; omega,?_⟩
     conv=>whnf
     repeat
      refine And.intro (by (conv=>whnf); first | rfl | exact rfl) ?_
      conv=>whnf
     refine ⟨n - 1,by omega,some [0,1,4],?_⟩
     conv=>whnf
     refine ⟨i+1,(r0::rs)++[x],by omega,by omega,.inl (by omega),htk.symm,by simp at j3 ⊢; omega,hsm',⟨rfl,rfl,rfl,rfl,congrArg (V.int .i64) wi,trivial⟩,?_⟩
     show [scX [] .nils,scX (w.drop 5) (.own 2),⟨rws Ru.cells (r0::rs)++[x.cells],3,true,true,false,.cell⟩]=[scX [] .nils,scX (w.drop 5) (.own 2),⟨rws Ru.cells ((r0::rs)++[x]),3,true,true,false,.cell⟩]
     rw [rwsR_snoc]
 · have hfin:(⟨w.drop 5,rs⟩:Sc)=linesS (w::ws):=by
    rw [linesS,j2]
    congr 1
    rcases j00 with h | rfl
    · obtain rfl:i=N:=by omega
      rw [List.dropLast_eq_take,← hN]
      cases i with
      | zero=>omega
      | succ k=>rw [List.take_succ_cons,List.drop_one,List.tail_cons,Nat.add_sub_cancel]
    · rw [List.dropLast_eq_take,← hN,show N - 1=0 by omega]
      rfl
   have hscm:(⟨w.drop 5,rs⟩:Sc).Sm:=⟨by rw [List.length_drop]; omega,by show rs.length≤1048576; omega,j4⟩
   have f0:=specSchemaOk_pure ⟨w.drop 5,rs⟩ hscm
   have f1:=specSchemaWrite_pure ⟨w.drop 5,rs⟩ _ f0 hscm.2.1 hscm.1 (fun ho r hr=>⟨((okS_parts ho).2.2 r hr).2.2.1,(hscm.2.2 r hr).2.2,(hscm.2.2 r hr).1⟩)
   have hW:(if okS ⟨w.drop 5,rs⟩=true then scW ⟨w.drop 5,rs⟩ else [])=writeS ⟨w.drop 5,rs⟩:=rfl
   rw [hW] at f1
   rw [← hfin]
   have hho:headOk (w::ws)=true:=by
    unfold headOk
    simp only [Bool.and_eq_true,decide_eq_true_eq]
    exact ⟨⟨by omega,by omega⟩,hr⟩
   rw [hho]
   generalize writeS ⟨w.drop 5,rs⟩=W at *
   have f1:Pure Tryd.prog 11 [.agg [.str (w.drop 5),.sl (rws Ru.cells rs)]] (·=.str W):=f1
   clear f0 hW hfin
   by_cases hEq:W=s
   · rw [if_pos ⟨rfl,hEq⟩]
     have hne:eqS W s=true:=eqS_t hEq
     cases rs with
     | nil =>
       conv=>whnf
       rw [wN,ltB_f (by omega)]
       conv=>whnf
       refine .inl (f1.mono ?_)
       rintro r rfl
       conv=>whnf
       rw [hne]
       conv=>whnf
       rfl
     | cons r0 rs =>
       conv=>whnf
       rw [wN,ltB_f (by omega)]
       conv=>whnf
       refine ⟨[],false,?_⟩
       conv=>whnf
       refine Full.mono f1 ?_
       rintro o st' ⟨rfl,r,rfl,rfl⟩
       conv=>whnf
       rw [hne]
       conv=>whnf
       rfl
   · rw [if_neg (fun h=>hEq h.2)]
     have hne:eqS W s=false:=eqS_f hEq
     cases rs with
     | nil =>
       conv=>whnf
       rw [wN,ltB_f (by omega)]
       conv=>whnf
       refine .inl (f1.mono ?_)
       rintro r rfl
       conv=>whnf
       rw [hne]
       conv=>whnf
       rfl
     | cons r0 rs =>
       conv=>whnf
       rw [wN,ltB_f (by omega)]
       conv=>whnf
       refine ⟨[],false,?_⟩
       conv=>whnf
       refine Full.mono f1 ?_
       rintro o st' ⟨rfl,r,rfl,rfl⟩
       conv=>whnf
       rw [hne]
       conv=>whnf
       rfl
end Go.Cod
set_option linter.all false
namespace Go.Cod
variable [Adr]
open Go Go.Proofs
set_option linter.all false
set_option maxRecDepth 10000
def digs (k:Nat) (acc:List UInt8):List UInt8:=if h:k=0 then acc else digs (k / 10) (UInt8.ofNat (48+k % 10)::acc)
termination_by k
decreasing_by omega
def mt (k:Int):List UInt8:=if k≤0 then [109,48] else 109::digs k.toNat []
theorem markText_pure (k:Int) (h1:k≤4611686018427387904):Pure Tryd.prog 52 [.int .i64 k] (·=.str (mt k)):=by
 refine pure_of_awp good Tryd.func52 rfl (by kernel_rfl) (by decide) ?_
 conv=>whnf
 by_cases h0:k≤0
 · rw [leB_t (by omega)]
   conv=>whnf
   rw [mt,if_pos h0]
 rw [leB_f (by omega)]
 conv=>whnf
 refine loop_drop (fun n fr st=>∃ (k':Int) (acc:List UInt8),0≤k'∧n=k'.toNat∧digs k'.toNat acc=digs k.toNat []∧acc.length+k'≤k∧st=[]∧Holds fr [(0,.int .i64 k'),(3,.str acc)]) k.toNat none
  ⟨k,[],by omega,rfl,rfl,by simp,rfl,rfl,rfl,trivial⟩ ?_
 rintro n fr st ⟨k',acc,g0,rfl,g1,g2,rfl,hh⟩
 obtain ⟨fr,rfl⟩:=hh.split
 clear hh
 conv=>whnf
 by_cases hlt:0 < k'
 · rw [ltB_t hlt]
   conv=>whnf
   refine ⟨by decide,?_⟩
   conv=>whnf
   have e1:k'.tmod 10=((k'.toNat % 10:Nat):Int):=by
    rw [Int.tmod_eq_emod_of_nonneg (by omega)]; omega
   have e2:IntKind.i64.wrap (48+k'.tmod 10)=((48+k'.toNat % 10:Nat):Int):=by
    rw [e1,wrap64 (by omega) (by omega)]; omega
   have e3:IntKind.u8.wrap (IntKind.i64.wrap (48+k'.tmod 10))=((UInt8.ofNat (48+k'.toNat % 10)).toNat:Int):=by
    rw [e2]
    have:(UInt8.ofNat (48+k'.toNat % 10)).toNat=48+k'.toNat % 10:=by
     rw [UInt8.toNat_ofNat']; omega
    rw [this]
    rw [IntKind.wrap_u8]; omega
   rw [e3]
   refine ⟨[UInt8.ofNat (48+k'.toNat % 10)],rfl,?_⟩
   conv=>whnf
   refine ⟨by simp; omega,?_⟩
   conv=>whnf
   refine ⟨by decide,?_⟩
   conv=>whnf
   have e4:IntKind.i64.wrap (k'.tdiv 10)=((k'.toNat / 10:Nat):Int):=by
    rw [Int.tdiv_eq_ediv_of_nonneg (by omega),wrap64 (by omega) (by omega)]; omega
   refine ⟨(k'.toNat / 10),by omega,some [],?_⟩
   conv=>whnf
   refine ⟨((k'.toNat / 10:Nat):Int),UInt8.ofNat (48+k'.toNat % 10)::acc,by omega,(Int.toNat_natCast _).symm,?_,?_,rfl,?_,rfl,trivial⟩
   · rw [← g1]
     conv=>rhs; rw [digs]
     rw [dif_neg (by omega),Int.toNat_natCast]
   · simp; omega
   · show V.int .i64 (IntKind.i64.wrap (k'.tdiv 10))=_
     rw [e4]
 · rw [ltB_f (by omega)]
   conv=>whnf
   refine ⟨by simp; omega,?_⟩
   conv=>whnf
   have:k'.toNat=0:=by omega
   rw [this] at g1
   rw [digs,dif_pos rfl] at g1
   rw [mt,if_neg h0,← g1]
   rfl
def mI (k:Int):It:=⟨mt k,eqB ((k+1).tmod 3) 0,eqB ((k+2).tmod 3) 0⟩
def mIs (n:Nat) (k:Int):List It:=(List.range n).map fun (i:Nat)=>mI (k+3*(i:Int))
theorem mIs_len (n:Nat) (k:Int):(mIs n k).length=n:=by simp [mIs]
theorem mIs_succ (n:Nat) (k:Int):mIs (n+1) k=mIs n k++[mI (k+3*(n:Int))]:=by simp [mIs,List.range_succ]
theorem mIs_get (n:Nat) (k:Int) (i:Nat) (h:i < n):(rws It.cells (mIs n k))[i]? = some (mI (k+3*(i:Int))).cells:=by
 simp [rws,mIs,h]
def Oth (b:Nat) (es es':List (List V)):Prop:=∀ e∈es,labOf e≠b→e∈es'
theorem Oth.put {b:Nat} {es es':List (List V)} (h:Oth b es es') (r:List (List V)):Oth b es (putEnt b r es'):=fun e he hb=>putEnt_other (h e he hb) hb
theorem set_mid {α:Type} (c:α→List V) (A B:List α) (x y:α):(rws c (A++x::B)).set A.length (c y)=rws c (A++y::B):=by
 unfold rws
 rw [List.map_append,List.map_append,List.map_cons,List.map_cons,List.set_append_right _ _ (by simp),List.length_map,Nat.sub_self]
 rfl
theorem get_mid {α:Type} (c:α→List V) (A B:List α) (x:α):(rws c (A++x::B))[A.length]? = some (c x):=by
 unfold rws
 rw [List.map_append,List.map_cons,List.getElem?_append_right (by simp),List.length_map,Nat.sub_self]
 rfl
def MiR (xs:List It) (h:Option (Nat × Nat)) (es:List (List V)) (k:Int) (o:Out) (st':St):Prop:=∃ es':List (List V),(match h with
 | none=>es'=es
 | some (b,c)=>Oth b es es'∧ent b c 3 (rws It.cells (mIs xs.length k))∈es')∧o=.ret (.int .i64 (k+3*(xs.length:Int)))∧st'=[poolO es']
set_option maxHeartbeats 8000000 in
theorem markItems_full (xs:List It) (h:Option (Nat × Nat)) (es:List (List V)) (k:Int) (hp:PlIn es 3 h (rws It.cells xs)) (hl:xs.length≤1000000) (h0:0≤k) (h1:k≤1000000000) :
  Full Tryd.prog noY 53 [hdV h xs.length,.int .i64 k] [poolO es] (MiR xs h es k):=by
 rcases h with _ | ⟨b,c⟩
 · have hx:xs=[]:=List.map_eq_nil_iff.1 hp
   subst hx
   refine full_of_awp good Tryd.func53 rfl (by kernel_rfl) (by decide) ?_
   conv=>whnf
   refine ⟨(fun n fr st=>n=0∧Holds fr [(0,.nils),(1,.int .i64 k),(5,.int .i64 0)]∧st=[poolO es]),0,true,none,?_,?_⟩
   · conv=>whnf
     exact ⟨rfl,⟨rfl,rfl,rfl,trivial⟩,rfl⟩
   rintro n fr st ⟨rfl,hh,rfl⟩
   obtain ⟨fr,rfl⟩:=hh.split
   clear hh
   conv=>whnf
   rw [ltB_f (by decide)]
   conv=>whnf
   refine ⟨[],true,?_⟩
   conv=>whnf
   exact ⟨es,rfl,by simp,rfl⟩
 · have hp:ent b c 3 (rws It.cells xs)∈es:=hp
   refine full_of_awp good Tryd.func53 rfl (by kernel_rfl) (by decide) ?_
   conv=>whnf
   refine ⟨(fun n fr st=>∃ (i:Nat) (B:List It) (es1:List (List V)),n+i=xs.length∧B.length=n∧Oth b es es1∧ent b c 3 (rws It.cells (mIs i k++B))∈es1 ∧
     Holds fr [(0,.dref b xs.length c),(1,.int .i64 (k+3*(i:Int))),(5,.int .i64 i)]∧st=[poolO es1]),xs.length,true,none,?_,?_⟩
   · conv=>whnf
     refine ⟨0,xs,es,rfl,rfl,(fun e he _=>he),hp,⟨rfl,?_,rfl,trivial⟩,rfl⟩
     show V.int .i64 k=_
     simp
   rintro n fr st ⟨i,B,es1,j1,j2,j3,j4,hh,rfl⟩
   obtain ⟨fr,rfl⟩:=hh.split
   clear hh
   conv=>whnf
   by_cases hi:i < xs.length
   · rw [ltB_t (by omega)]
     obtain ⟨x,B',rfl⟩:∃ x B',B=x::B':=by
      cases B with
      | nil=>simp at j2; omega
      | cons x B'=>exact ⟨x,B',rfl⟩
     obtain ⟨xk,xm,xy⟩:=x
     have hml:=mIs_len i k
     have hms:=mIs_succ i k
     generalize hkk:k+3*(i:Int)=kk at *
     have q1:IntKind.i64.wrap (kk+1)=kk+1:=wrap64 (by omega) (by omega)
     have q2:IntKind.i64.wrap (kk+1+1)=kk+2:=by rw [wrap64 (by omega) (by omega)]; omega
     have q3:IntKind.i64.wrap (kk+2+1)=kk+3:=by rw [wrap64 (by omega) (by omega)]; omega
     have wi:IntKind.i64.wrap ((i:Int)+1)=((i+1:Nat):Int):=by rw [wrap64 (by omega) (by omega)]; rfl
     have r0:=get_mid It.cells (mIs i k) B' ⟨xk,xm,xy⟩
     have r1:=get_mid It.cells (mIs i k) B' ⟨mt kk,xm,xy⟩
     have r2:=get_mid It.cells (mIs i k) B' ⟨mt kk,eqB ((kk+1).tmod 3) 0,xy⟩
     have s0:=set_mid It.cells (mIs i k) B' ⟨xk,xm,xy⟩ ⟨mt kk,xm,xy⟩
     have s1:=set_mid It.cells (mIs i k) B' ⟨mt kk,xm,xy⟩ ⟨mt kk,eqB ((kk+1).tmod 3) 0,xy⟩
     have s2:=set_mid It.cells (mIs i k) B' ⟨mt kk,eqB ((kk+1).tmod 3) 0,xy⟩ (mI kk)
     rw [hml] at r0 r1 r2 s0 s1 s2
     have hfin:mIs i k++mI kk::B'=mIs (i+1) k++B':=by rw [hms]; simp
     rw [hfin] at s2
     generalize rws It.cells (mIs i k++⟨xk,xm,xy⟩::B')=R0 at *
     generalize rws It.cells (mIs i k++⟨mt kk,xm,xy⟩::B')=R1 at *
     generalize rws It.cells (mIs i k++⟨mt kk,eqB ((kk+1).tmod 3) 0,xy⟩::B')=R2 at *
     generalize hR3:rws It.cells (mIs (i+1) k++B')=R3 at *
     conv=>whnf
     refine .inl ((markText_pure kk (by omega)).mono ?_)
     rintro r rfl
     conv=>whnf
     refine ⟨by omega,by omega,?_⟩
     conv=>whnf
     refine ⟨0,c,R0,_,putEnt b R1 es1,j4,r0,by rw [← s0]; rfl,?_⟩
     have s1':R1.set i [.str (mt kk),.bool (eqB ((IntKind.i64.wrap (kk+1)).tmod 3) 0),.bool xy]=R2:=by rw [q1]; exact s1
     have s2':R2.set i [.str (mt kk),.bool (eqB ((kk+1).tmod 3) 0),.bool (eqB ((IntKind.i64.wrap (IntKind.i64.wrap (kk+1)+1)).tmod 3) 0)]=R3:=by rw [q1,q2]; exact s2
     have q3':IntKind.i64.wrap (IntKind.i64.wrap (IntKind.i64.wrap (kk+1)+1)+1)=k+3*((i+1:Nat):Int):=by rw [q1,q2,q3]; omega
     conv=>whnf
     refine ⟨by decide,?_⟩
     conv=>whnf
     refine ⟨by omega,by omega,?_⟩
     conv=>whnf
     refine ⟨0,c,R1,_,putEnt b R2 (putEnt b R1 es1),putEnt_mem j4,r1,by rw [← s1']; rfl,?_⟩
     conv=>whnf
     refine ⟨by decide,?_⟩
     conv=>whnf
     refine ⟨by omega,by omega,?_⟩
     conv=>whnf
     refine ⟨0,c,R2,_,putEnt b R3 (putEnt b R2 (putEnt b R1 es1)),putEnt_mem (putEnt_mem j4),r2,by rw [← s2']; rfl,?_⟩
     conv=>whnf
     refine ⟨n - 1,by omega,some [0],?_⟩
     conv=>whnf
     refine ⟨i+1,B',_,by omega,by simp at j2; omega,((j3.put R1).put R2).put R3,?_,⟨rfl,congrArg (V.int .i64) q3',congrArg (V.int .i64) wi,trivial⟩,rfl⟩
     rw [hR3]
     exact putEnt_mem (putEnt_mem (putEnt_mem j4))
   · rw [ltB_f (by omega)]
     obtain rfl:i=xs.length:=by omega
     have hB:B=[]:=List.length_eq_zero_iff.1 (by omega)
     rw [hB,List.append_nil] at j4
     conv=>whnf
     refine ⟨[],true,?_⟩
     conv=>whnf
     exact ⟨es1,⟨j3,j4⟩,rfl,rfl⟩
end Go.Cod
set_option linter.all false
namespace Go.Cod
variable [Adr]
open Go Go.Proofs
set_option linter.all false
set_option maxRecDepth 10000
def mRu:List Nat→Int→List Ru
 | [],_=>[]
 | n::ns,k=>⟨mt k,eqB ((k+1).tmod 3) 0,mIs n (k+2)⟩::mRu ns (k+2+3*(n:Int))
def mEnd:List Nat→Int→Int
 | [],k=>k
 | n::ns,k=>mEnd ns (k+2+3*(n:Int))
theorem mRu_len:∀ (ns:List Nat) (k:Int),(mRu ns k).length=ns.length
 | [],_=>rfl
 | n::ns,k=>by rw [mRu,List.length_cons,List.length_cons,mRu_len ns]
theorem mEnd_le:∀ (ns:List Nat) (k:Int),k≤mEnd ns k
 | [],_=>Int.le_refl _
 | n::ns,k=>by
   have:=mEnd_le ns (k+2+3*(n:Int))
   rw [mEnd]
   omega
set_option maxHeartbeats 4000000 in
theorem heldItems_pure (n:Nat) (k:Int) (hn:n≤1000000) (h0:0≤k) (h1:k≤1000000000):Pure Tryd.prog 54 [.sl (rws It.cells (mIs n k)),.int .i64 k] (·=.int .i64 (k+3*(n:Int))):=by
 have hl:(rws It.cells (mIs n k)).length=n:=by rw [rws_len,mIs_len]
 have hg:=mIs_get n k
 generalize rws It.cells (mIs n k)=R at *
 refine pure_of_awp good Tryd.func54 rfl (by kernel_rfl) (by decide) ?_
 conv=>whnf
 refine ⟨(fun m fr st=>∃ i:Nat,m+i=n∧Holds fr [(0,.sl R),(1,.int .i64 (k+3*(i:Int))),(5,.int .i64 i)]∧st=[]),n,true,none,?_,?_⟩
 · conv=>whnf
   refine ⟨0,rfl,⟨rfl,?_,rfl,trivial⟩,rfl⟩
   show V.int .i64 k=_
   simp
 rintro m fr st ⟨i,j1,hh,rfl⟩
 obtain ⟨fr,rfl⟩:=hh.split
 clear hh
 conv=>whnf
 by_cases hi:i < n
 · rw [ltB_t (by omega)]
   have hgi:=hg i hi
   have hmt:=markText_pure (k+3*(i:Int)) (by omega)
   have hee:k+3*(i:Int)+3=k+3*((i+1:Nat):Int):=by omega
   generalize k+3*(i:Int)=kk at *
   have hgi:R[i]? = some [.str (mt kk),.bool (eqB ((kk+1).tmod 3) 0),.bool (eqB ((kk+2).tmod 3) 0)]:=hgi
   have hbb:∀ b:Bool,(!(b == b))=false:=by decide
   have q1:IntKind.i64.wrap (kk+1)=kk+1:=wrap64 (by omega) (by omega)
   have q2:IntKind.i64.wrap (kk+1+1)=kk+2:=by rw [wrap64 (by omega) (by omega)]; omega
   have q3:IntKind.i64.wrap (kk+2+1)=kk+3:=by rw [wrap64 (by omega) (by omega)]; omega
   have wi:IntKind.i64.wrap ((i:Int)+1)=((i+1:Nat):Int):=by rw [wrap64 (by omega) (by omega)]; rfl
   conv=>whnf
   refine ⟨by omega,R,_,3,rfl,hgi,rfl,rfl,?_⟩
   conv=>whnf
   refine ⟨_,.inl hmt,?_⟩
   conv=>whnf
   rw [eqS_t rfl]
   conv=>whnf
   refine ⟨by omega,R,_,3,rfl,hgi,rfl,rfl,?_⟩
   conv=>whnf
   rw [q1]
   refine ⟨by decide,?_⟩
   conv=>whnf
   rw [hbb]
   conv=>whnf
   refine ⟨by omega,R,_,3,rfl,hgi,rfl,rfl,?_⟩
   conv=>whnf
   rw [q2]
   refine ⟨by decide,?_⟩
   conv=>whnf
   rw [hbb]
   conv=>whnf
   refine ⟨m - 1,by omega,none,?_⟩
   conv=>whnf
   refine ⟨i+1,by omega,⟨rfl,?_,congrArg (V.int .i64) wi,trivial⟩,rfl⟩
   show V.int .i64 (IntKind.i64.wrap (kk+2+1))=_
   rw [q3,hee]
 · rw [ltB_f (by omega)]
   obtain rfl:i=n:=by omega
   conv=>whnf
end Go.Cod
set_option linter.all false
namespace Go.Cod
variable [Adr]
open Go Go.Proofs
set_option linter.all false
set_option maxRecDepth 10000
set_option maxHeartbeats 4000000 in
theorem heldRules_pure (ns:List Nat) (k:Int) (hl:ns.length≤1000000) (hn:∀ n∈ns,n≤1000000) (h0:0≤k) (h1:mEnd ns k≤100000000):Pure Tryd.prog 37 [.sl (rws Ru.cells (mRu ns k)),.int .i64 k] (·=.int .i64 (mEnd ns k)):=by
 have hlr:(rws Ru.cells (mRu ns k)).length=ns.length:=by rw [rws_len,mRu_len]
 obtain ⟨R,hR⟩:∃ R,R=rws Ru.cells (mRu ns k):=⟨_,rfl⟩
 rw [← hR] at hlr ⊢
 refine pure_of_awp good Tryd.func37 rfl (by kernel_rfl) (by decide) ?_
 conv=>whnf
 refine ⟨(fun m fr st=>∃ (i:Nat) (done:List Ru) (rest:List Nat) (kk:Int),m+i=ns.length∧done.length=i∧rest.length=m∧mRu ns k=done++mRu rest kk∧mEnd ns k=mEnd rest kk∧0≤kk∧(∀ n∈rest,n≤1000000) ∧
   Holds fr [(0,.sl R),(1,.int .i64 kk),(5,.int .i64 i)]∧st=[]),ns.length,true,none,?_,?_⟩
 · conv=>whnf
   exact ⟨0,[],ns,k,rfl,rfl,rfl,rfl,rfl,h0,hn,⟨rfl,rfl,rfl,trivial⟩,rfl⟩
 rintro m fr st ⟨i,done,rest,kk,j1,j2,j3,j4,j5,j6,j7,hh,rfl⟩
 obtain ⟨fr,rfl⟩:=hh.split
 clear hh
 conv=>whnf
 have hle:=mEnd_le rest kk
 by_cases hi:i < ns.length
 · rw [ltB_t (by omega)]
   obtain ⟨n,rest',rfl⟩:∃ n rest',rest=n::rest':=by
    cases rest with
    | nil=>simp at j3; omega
    | cons n r=>exact ⟨n,r,rfl⟩
   have hn1:=j7 n (by simp)
   have hgi:R[i]? = some [.str (mt kk),.bool (eqB ((kk+1).tmod 3) 0),.sl (rws It.cells (mIs n (kk+2)))]:=by
    rw [hR,j4,mRu,← j2]
    exact get_mid Ru.cells done _ _
   rw [mEnd] at j5 hle
   have hle2:=mEnd_le rest' (kk+2+3*(n:Int))
   have hmt:=markText_pure kk (by omega)
   have hit:=heldItems_pure n (kk+2) hn1 (by omega) (by omega)
   have hbb:∀ b:Bool,(!(b == b))=false:=by decide
   have q1:IntKind.i64.wrap (kk+1)=kk+1:=wrap64 (by omega) (by omega)
   have q2:IntKind.i64.wrap (kk+1+1)=kk+2:=by rw [wrap64 (by omega) (by omega)]; omega
   have wi:IntKind.i64.wrap ((i:Int)+1)=((i+1:Nat):Int):=by rw [wrap64 (by omega) (by omega)]; rfl
   conv=>whnf
   refine ⟨by omega,R,_,3,rfl,hgi,rfl,rfl,?_⟩
   conv=>whnf
   refine ⟨_,.inl hmt,?_⟩
   conv=>whnf
   rw [eqS_t rfl]
   conv=>whnf
   refine ⟨by omega,R,_,3,rfl,hgi,rfl,rfl,?_⟩
   conv=>whnf
   rw [q1]
   refine ⟨by decide,?_⟩
   conv=>whnf
   rw [hbb]
   conv=>whnf
   refine ⟨by omega,R,_,3,rfl,hgi,rfl,rfl,?_⟩
   conv=>whnf
   rw [q2]
   refine .inl (hit.mono ?_)
   rintro r rfl
   conv=>whnf
   rw [ltB_f (by omega)]
   conv=>whnf
   refine ⟨m - 1,by omega,none,?_⟩
   conv=>whnf
   refine ⟨i+1,done++[⟨mt kk,eqB ((kk+1).tmod 3) 0,mIs n (kk+2)⟩],rest',kk+2+3*(n:Int),by omega,by simp; omega,by simp at j3; omega,by rw [j4,mRu]; simp,j5,by omega,(fun x hx=>j7 x (by simp [hx])),⟨rfl,rfl,congrArg (V.int .i64) wi,trivial⟩,rfl⟩
 · rw [ltB_f (by omega)]
   have hr0:rest=[]:=List.length_eq_zero_iff.1 (by omega)
   rw [hr0,mEnd] at j5
   rw [j5]
   conv=>whnf
theorem ScIn.change {es es':List (List V)} {h:Option (Nat × Nat)} {A B:List LR} {L L':LR} (H:ScIn es h (A++L::B)) (hhd:L'.hd=L.hd) (htop:PlIn es' 3 h ((A++L'::B).map LR.cells)) (hkid:PlIn es' 3 L'.hd (rws It.cells L'.items))
  (hoth:∀ M,(M∈A∨M∈B)→PlIn es 3 M.hd (rws It.cells M.items)→PlIn es' 3 M.hd (rws It.cells M.items)):ScIn es' h (A++L'::B):=by
 refine ⟨htop,fun M hM=>?_,fun M hM=>?_,?_⟩
 · rcases List.mem_append.1 hM with hM | hM
   · exact hoth M (.inl hM) (H.kids M (by simp [hM]))
   · rcases List.mem_cons.1 hM with rfl | hM
     · exact hkid
     · exact hoth M (.inr hM) (H.kids M (by simp [hM]))
 · rcases List.mem_append.1 hM with hM | hM
   · exact H.ap M (by simp [hM])
   · rcases List.mem_cons.1 hM with rfl | hM
     · rw [hhd]; exact H.ap L (by simp)
     · exact H.ap M (by simp [hM])
 · obtain ⟨p1,p2,p3⟩:=List.pairwise_append.1 H.pw
   obtain ⟨p4,p5⟩:=List.pairwise_cons.1 p2
   refine List.pairwise_append.2 ⟨p1,List.pairwise_cons.2 ⟨fun M hM=>by rw [hhd]; exact p4 M hM,p5⟩,fun a ha b hb=>?_⟩
   rcases List.mem_cons.1 hb with rfl | hb
   · rw [hhd]; exact p3 a ha L (by simp)
   · exact p3 a ha b (by simp [hb])
theorem Oth.pl {b:Nat} {es es':List (List V)} (h:Oth b es es') {sz:Nat} {k:Option (Nat × Nat)} {R:List (List V)} (hp:PlIn es sz k R) (hk:∀ b' c',k=some (b',c')→b'≠b):PlIn es' sz k R:=by
 rcases k with _ | ⟨b',c'⟩
 · exact hp
 · exact h _ hp (by rw [lab_entL]; exact hk b' c' rfl)
def MrR (ns:List Nat) (h:Option (Nat × Nat)) (k:Int) (o:Out) (st':St):Prop:=∃ (es':List (List V)) (Ls':List LR),ScIn es' h Ls'∧Ls'.map LR.ru=mRu ns k∧o=.ret (.int .i64 (mEnd ns k))∧st'=[poolO es']
def cnt (L:LR):Nat:=L.items.length
set_option maxHeartbeats 8000000 in
theorem markRules_full (Ls:List LR) (h:Option (Nat × Nat)) (es:List (List V)) (k:Int) (H:ScIn es h Ls) (hl:Ls.length≤1000000) (hn:∀ L∈Ls,cnt L≤1000000) (h0:0≤k) (h1:mEnd (Ls.map cnt) k≤100000000) :
  Full Tryd.prog noY 36 [hdV h Ls.length,.int .i64 k] [poolO es] (MrR (Ls.map cnt) h k):=by
 rcases h with _ | ⟨b,c⟩
 · have hx:Ls=[]:=List.map_eq_nil_iff.1 H.top
   subst hx
   refine full_of_awp good Tryd.func36 rfl (by kernel_rfl) (by decide) ?_
   conv=>whnf
   refine ⟨(fun n fr st=>n=0∧Holds fr [(0,.nils),(1,.int .i64 k),(5,.int .i64 0)]∧st=[poolO es]),0,true,none,?_,?_⟩
   · conv=>whnf
     exact ⟨rfl,⟨rfl,rfl,rfl,trivial⟩,rfl⟩
   rintro n fr st ⟨rfl,hh,rfl⟩
   obtain ⟨fr,rfl⟩:=hh.split
   clear hh
   conv=>whnf
   rw [ltB_f (by decide)]
   conv=>whnf
   refine ⟨[],true,?_⟩
   conv=>whnf
   exact ⟨es,[],H,rfl,rfl,rfl⟩
 · refine full_of_awp good Tryd.func36 rfl (by kernel_rfl) (by decide) ?_
   conv=>whnf
   refine ⟨(fun n fr st=>∃ (i:Nat) (A B:List LR) (es1:List (List V)) (kk:Int),n+i=Ls.length∧A.length=i∧B.length=n∧ScIn es1 (some (b,c)) (A++B)∧mRu (Ls.map cnt) k=A.map LR.ru++mRu (B.map cnt) kk∧mEnd (Ls.map cnt) k=mEnd (B.map cnt) kk∧0≤kk∧(∀ L∈B,cnt L≤1000000) ∧
     Holds fr [(0,.dref b Ls.length c),(1,.int .i64 kk),(5,.int .i64 i)]∧st=[poolO es1]),Ls.length,true,none,?_,?_⟩
   · conv=>whnf
     exact ⟨0,[],Ls,es,k,rfl,rfl,rfl,H,rfl,rfl,h0,hn,⟨rfl,rfl,rfl,trivial⟩,rfl⟩
   rintro n fr st ⟨i,A,B,es1,kk,j1,j2,j3,j4,j5,j6,j7,j8,hh,rfl⟩
   obtain ⟨fr,rfl⟩:=hh.split
   clear hh
   conv=>whnf
   have hle:=mEnd_le (B.map cnt) kk
   by_cases hi:i < Ls.length
   · rw [ltB_t (by omega)]
     obtain ⟨L,B',rfl⟩:∃ L B',B=L::B':=by
      cases B with
      | nil=>simp at j3; omega
      | cons x r=>exact ⟨x,r,rfl⟩
     have hc1:=j8 L (by simp)
     obtain ⟨lk,lt,li,lh⟩:=L
     have hc1:li.length≤1000000:=hc1
     rw [List.map_cons,mEnd] at j6 hle
     rw [List.map_cons,mRu] at j5
     have hcl:cnt ⟨lk,lt,li,lh⟩=li.length:=rfl
     rw [hcl] at j5 j6 hle
     have hle2:=mEnd_le (B'.map cnt) (kk+2+3*(li.length:Int))
     have q1:IntKind.i64.wrap (kk+1)=kk+1:=wrap64 (by omega) (by omega)
     have q2:IntKind.i64.wrap (kk+1+1)=kk+2:=by rw [wrap64 (by omega) (by omega)]; omega
     have wi:IntKind.i64.wrap ((i:Int)+1)=((i+1:Nat):Int):=by rw [wrap64 (by omega) (by omega)]; rfl
     have ht:ent b c 3 (rws LR.cells (A++⟨lk,lt,li,lh⟩::B'))∈es1:=j4.top
     have r0:=get_mid LR.cells A B' ⟨lk,lt,li,lh⟩
     have r1:=get_mid LR.cells A B' ⟨mt kk,lt,li,lh⟩
     have r2:=get_mid LR.cells A B' ⟨mt kk,eqB ((kk+1).tmod 3) 0,li,lh⟩
     have s0:=set_mid LR.cells A B' ⟨lk,lt,li,lh⟩ ⟨mt kk,lt,li,lh⟩
     have s1:(rws LR.cells (A++⟨mt kk,lt,li,lh⟩::B')).set A.length [.str (mt kk),.bool (eqB ((IntKind.i64.wrap (kk+1)).tmod 3) 0),hdV lh li.length]=rws LR.cells (A++⟨mt kk,eqB ((kk+1).tmod 3) 0,li,lh⟩::B'):=by
      rw [q1]; exact set_mid LR.cells A B' ⟨mt kk,lt,li,lh⟩ ⟨mt kk,eqB ((kk+1).tmod 3) 0,li,lh⟩
     rw [j2] at r0 r1 r2 s0 s1
     have ho2:∀ R1 R2,Oth b es1 (putEnt b R2 (putEnt b R1 es1)):=fun R1 R2 e he hb=>putEnt_other (putEnt_other he hb) hb
     have hbk:∀ M:LR,(M∈A∨M∈B')→∀ b' c',M.hd=some (b',c')→b'≠b:=fun M hM b' c' e=>fun e2=>j4.ap M (by rcases hM with h | h <;> simp [h]) b c b' c' rfl e e2.symm
     have hbl:∀ b' c',lh=some (b',c')→b'≠b:=fun b' c' e=>fun e2=>j4.ap ⟨lk,lt,li,lh⟩ (by simp) b c b' c' rfl e e2.symm
     have hkl:PlIn es1 3 lh (rws It.cells li):=j4.kids ⟨lk,lt,li,lh⟩ (by simp)
     have hpw:∀ M:LR,(M∈A∨M∈B')→ApartH M.hd lh:=by
      obtain ⟨p1,p2,p3⟩:=List.pairwise_append.1 j4.pw
      obtain ⟨p4,p5⟩:=List.pairwise_cons.1 p2
      intro M hM
      rcases hM with hM | hM
      · exact p3 M hM ⟨lk,lt,li,lh⟩ (by simp)
      · exact (p4 M hM).symm
     have H2:ScIn (putEnt b (rws LR.cells (A++⟨mt kk,eqB ((kk+1).tmod 3) 0,li,lh⟩::B')) (putEnt b (rws LR.cells (A++⟨mt kk,lt,li,lh⟩::B')) es1)) (some (b,c)) (A++⟨mt kk,eqB ((kk+1).tmod 3) 0,li,lh⟩::B') :=
      j4.change rfl (putEnt_mem (putEnt_mem ht)) ((ho2 _ _).pl hkl hbl) (fun M hM hp=>(ho2 _ _).pl hp (hbk M hM))
     have hmi:=fun es2 hp=>markItems_full li lh es2 (kk+2) hp hc1 (by omega) (by omega)
     generalize rws LR.cells (A++⟨lk,lt,li,lh⟩::B')=R0 at *
     generalize rws LR.cells (A++⟨mt kk,lt,li,lh⟩::B')=R1 at *
     generalize hR2:rws LR.cells (A++⟨mt kk,eqB ((kk+1).tmod 3) 0,li,lh⟩::B')=R2 at *
     generalize hE2:putEnt b R2 (putEnt b R1 es1)=es2 at *
     have hme:ent b c 3 R1∈putEnt b R1 es1:=putEnt_mem ht
     have hme2:ent b c 3 R2∈es2:=by rw [← hE2]; exact putEnt_mem hme
     have hkl2:PlIn es2 3 lh (rws It.cells li):=H2.kids ⟨mt kk,eqB ((kk+1).tmod 3) 0,li,lh⟩ (by simp)
     have hmi:=hmi es2 hkl2
     unfold MiR at hmi
     rcases lh with _ | ⟨b',c'⟩
     all_goals
      conv=>whnf
      refine .inl ((markText_pure kk (by omega)).mono ?_)
      rintro r rfl
      conv=>whnf
      refine ⟨by omega,by omega,?_⟩
      conv=>whnf
      refine ⟨0,c,R0,_,putEnt b R1 es1,ht,r0,by rw [← s0]; rfl,?_⟩
      conv=>whnf
      refine ⟨by decide,?_⟩
      conv=>whnf
      refine ⟨by omega,by omega,?_⟩
      conv=>whnf
      refine ⟨0,c,R1,_,es2,hme,r1,by rw [← hE2,← s1]; rfl,?_⟩
      conv=>whnf
      refine ⟨by omega,by omega,?_⟩
      conv=>whnf
      refine ⟨0,c,R2,_,hme2,r2,?_⟩
      conv=>whnf
      rw [q1,q2]
      refine .inr (.inl ⟨[0],true,?_⟩)
      conv=>whnf
      refine hmi.mono ?_
     · rintro o st' ⟨es3,rfl,rfl,rfl⟩
       have hli:li=[]:=List.map_eq_nil_iff.1 hkl
       have hc3:(A++(⟨mt kk,eqB ((kk+1).tmod 3) 0,mIs li.length (kk+2),none⟩:LR)::B').map LR.cells=R2:=by
        rw [← hR2]
        simp [rws,LR.cells,mIs_len]
       have H3:ScIn es3 (some (b,c)) (A++(⟨mt kk,eqB ((kk+1).tmod 3) 0,mIs li.length (kk+2),none⟩:LR)::B'):=H2.change rfl (by rw [hc3]; exact hme2) (by rw [hli]; rfl) (fun M hM hp=>hp)
       conv=>whnf
       refine ⟨n - 1,by omega,some [0],?_⟩
       conv=>whnf
       refine ⟨i+1,A++[⟨mt kk,eqB ((kk+1).tmod 3) 0,mIs li.length (kk+2),none⟩],B',es3,kk+2+3*(li.length:Int),by omega,by simp; omega,by simp at j3; omega,by rw [List.append_assoc]; exact H3,by rw [j5]; simp [LR.ru],j6,by omega,(fun L hL=>j8 L (by simp [hL])),⟨rfl,rfl,congrArg (V.int .i64) wi,trivial⟩,rfl⟩
     · rintro o st' ⟨es3,⟨o1,o2⟩,rfl,rfl⟩
       have hc3:(A++(⟨mt kk,eqB ((kk+1).tmod 3) 0,mIs li.length (kk+2),some (b',c')⟩:LR)::B').map LR.cells=R2:=by
        rw [← hR2]
        simp [rws,LR.cells,mIs_len]
       have H3:ScIn es3 (some (b,c)) (A++(⟨mt kk,eqB ((kk+1).tmod 3) 0,mIs li.length (kk+2),some (b',c')⟩:LR)::B'):=H2.change rfl (by rw [hc3]; exact (o1 _ hme2 (by rw [lab_entL]; exact fun e=>hbl b' c' rfl e.symm))) o2 (fun M hM hp=>o1.pl hp (fun b2 c2 e=>hpw M hM b2 c2 b' c' e rfl))
       conv=>whnf
       refine ⟨n - 1,by omega,some [0],?_⟩
       conv=>whnf
       refine ⟨i+1,A++[⟨mt kk,eqB ((kk+1).tmod 3) 0,mIs li.length (kk+2),some (b',c')⟩],B',es3,kk+2+3*(li.length:Int),by omega,by simp; omega,by simp at j3; omega,by rw [List.append_assoc]; exact H3,by rw [j5]; simp [LR.ru],j6,by omega,(fun L hL=>j8 L (by simp [hL])),⟨rfl,rfl,congrArg (V.int .i64) wi,trivial⟩,rfl⟩
   · rw [ltB_f (by omega)]
     have hB:B=[]:=List.length_eq_zero_iff.1 (by omega)
     subst hB
     rw [List.append_nil] at j4
     simp only [List.map_nil,mRu,mEnd,List.append_nil] at j5 j6
     unfold MrR
     rw [j5,j6]
     conv=>whnf
     refine ⟨[],true,?_⟩
     conv=>whnf
     exact ⟨es1,A,j4,rfl,rfl,rfl⟩
end Go.Cod
set_option linter.all false
namespace Go.Cod
variable [Adr]
open Go Go.Proofs
set_option linter.all false
set_option maxRecDepth 10000
def MsR (r:List UInt8) (ns:List Nat) (h:Option (Nat × Nat)) (k:Int) (o:Out) (st':St):Prop:=∃ (es':List (List V)) (Ls':List LR),ScIn es' h Ls'∧Ls'.map LR.ru=mRu ns k∧o=.ret (.int .i64 (mEnd ns k))∧st'=[poolO es']
set_option maxHeartbeats 4000000 in
theorem markSchema_full (r:List UInt8) (Ls:List LR) (h:Option (Nat × Nat)) (es:List (List V)) (k:Int) (H:ScIn es h Ls) (hl:Ls.length≤1000000) (hn:∀ L∈Ls,cnt L≤1000000) (h0:0≤k) (h1:mEnd (Ls.map cnt) k≤100000000) :
  Full Tryd.prog noY 15 [.agg [.str r,hdV h Ls.length],.int .i64 k] [poolO es] (MsR r (Ls.map cnt) h k):=by
 have hm:=markRules_full Ls h es k H hl hn h0 h1
 unfold MrR at hm
 unfold MsR
 rcases h with _ | ⟨b,c⟩
 all_goals
  refine full_of_awp good Tryd.func15 rfl (by kernel_rfl) (by decide) ?_
  conv=>whnf
  refine .inr (.inl ⟨[0],true,?_⟩)
  conv=>whnf
  refine hm.mono ?_
  rintro o st' ⟨es',Ls',q1,q2,rfl,rfl⟩
  conv=>whnf
  refine ⟨[],true,?_⟩
  conv=>whnf
  exact ⟨es',Ls',q1,q2,rfl,rfl⟩
theorem heldSchema_pure (r:List UInt8) (ns:List Nat) (k:Int) (hl:ns.length≤1000000) (hn:∀ n∈ns,n≤1000000) (h0:0≤k) (h1:mEnd ns k≤100000000):Pure Tryd.prog 16 [.agg [.str r,.sl (rws Ru.cells (mRu ns k))],.int .i64 k] (·=.int .i64 (mEnd ns k)):=by
 have hh:=heldRules_pure ns k hl hn h0 h1
 have hle:=mEnd_le ns k
 generalize rws Ru.cells (mRu ns k)=R at *
 generalize mEnd ns k=e at *
 refine pure_of_awp good Tryd.func16 rfl (by kernel_rfl) (by decide) ?_
 conv=>whnf
 refine .inl (hh.mono ?_)
 rintro x rfl
 conv=>whnf
 rw [ltB_f (by omega)]
 conv=>whnf
end Go.Cod
set_option linter.all false
namespace Go.Cod
variable [Adr]
open Go Go.Proofs
set_option linter.all false
set_option maxRecDepth 10000
def rdC (s:List UInt8):Sc:=match readS s with
 | none=>ZSc
 | some c=>c
def rdB (s:List UInt8):Bool:=match readS s with
 | none=>false
 | some _=>true
theorem rdC_sm (s:List UInt8) (h:s.length≤1048576):(rdC s).Sm:=by
 unfold rdC
 cases hc:readS s with
 | none=>exact ⟨by simp [ZSc],by simp [ZSc],fun x hx=>by simp [ZSc] at hx⟩
 | some c=>exact scW_sm (by rw [← (readS_some hc).2]; exact h)
theorem rdC_num (s:List UInt8):(rdC s).rules.length≤6∧∀ x∈(rdC s).rules,x.kids.length≤4:=by
 unfold rdC
 cases hc:readS s with
 | none=>exact ⟨by simp [ZSc],fun x hx=>by simp [ZSc] at hx⟩
 | some c =>
   obtain ⟨_,h1,h2⟩:=okS_parts (readS_some hc).1
   exact ⟨h1,fun x hx=>(h2 x hx).2.2.1⟩
theorem rd_spec (s:List UInt8) (h:s.length≤1048576):Pure Tryd.prog 7 [.str s] (·=.tup [.agg (rdC s).cells,.bool (rdB s)]):=by
 refine (specSchemaRead_pure s h).mono ?_
 rintro x rfl
 unfold SpV rdC rdB
 rw [← read_spec]
 cases readS s <;> rfl
theorem rd_impl (s:List UInt8) (h:s.length≤1048576):Full Tryd.prog noY 6 [.str s] [] fun o st'=>∃ (es:List (List V)) (Ls:List LR) (hd:Option (Nat × Nat)),st'=[poolO es]∧ScIn es hd Ls∧Ls.map LR.ru=(rdC s).rules∧o=.ret (.tup [.agg [.str (rdC s).root,hdV hd Ls.length],.bool (rdB s)]):=by
 refine (implSchemaRead_full s h).mono ?_
 unfold SrR rdC rdB
 cases readS s with
 | none =>
   rintro o st' ⟨es,rfl,rfl⟩
   exact ⟨es,[],none,rfl,ScIn.nil es,rfl,rfl⟩
 | some c =>
   rintro o st' ⟨es,rfl,Ls,hd,h1,h2,rfl⟩
   exact ⟨es,Ls,hd,rfl,h1,h2,rfl⟩
theorem mEnd_big:∀ (ns:List Nat) (k:Int),(∀ n∈ns,n≤4)→mEnd ns k≤k+14*(ns.length:Int)
 | [],k,_=>by simp [mEnd]
 | n::ns,k,h=>by
   have h1:=mEnd_big ns (k+2+3*(n:Int)) (fun x hx=>h x (by simp [hx]))
   have h2:=h n (by simp)
   rw [mEnd]
   simp only [List.length_cons]
   omega
theorem viewL2r {es:List (List V)} {x y x' y':V} (h:View es x y) (h':View es x' y'):ViewL es [x,x'] [y,y']:=⟨rfl,fun i a b p q=>by
 match i,p,q with
 | 0,p,q=>simp at p q; subst p; subst q; exact h
 | 1,p,q=>simp at p q; subst p; subst q; exact h'
 | i+2,p,q=>simp at p⟩
set_option maxHeartbeats 4000000 in
theorem law_schemaRead (s:List UInt8):Pure Tryd.prog 4 [.str s] (·=.bool true):=by
 refine pure_of_awp good Tryd.func4 rfl (by kernel_rfl) (by decide) ?_
 conv=>whnf
 by_cases h:s.length≤1048576
 case neg =>
  rw [ltB_t (by show (1048576:Int) < (s.length:Int); omega)]
  conv=>whnf
 have f1:=rd_spec s h
 have f2:=rd_impl s h
 have hq:=eqSchema_pure (rdC s) (rdC_sm s h)
 obtain ⟨n1,n2⟩:=rdC_num s
 unfold Sc.cells at f1 hq
 generalize rdB s=ok at *
 generalize (rdC s).root=root at *
 generalize (rdC s).rules=rules at *
 rw [ltB_f (by show (s.length:Int)≤1048576; omega)]
 conv=>whnf
 refine .inl (f1.mono ?_)
 rintro x rfl
 conv=>whnf
 refine .inr (.inl ⟨[],false,?_⟩)
 conv=>whnf
 refine f2.mono ?_
 rintro o st' ⟨es,Ls,hd,rfl,i1,i2,rfl⟩
 have hv:=i1.view
 rw [i2] at hv
 have hll:Ls.length=rules.length:=by rw [← i2]; simp
 have hcn:∀ L∈Ls,cnt L≤4:=fun L hL=>n2 L.ru (by rw [← i2]; exact List.mem_map_of_mem hL)
 have hcm:∀ n∈Ls.map cnt,n≤4:=fun n hn=>by
  obtain ⟨L,hL,rfl⟩:=List.mem_map.1 hn
  exact hcn L hL
 have hme:=mEnd_big (Ls.map cnt) 1 hcm
 have hme1:=mEnd_le (Ls.map cnt) 1
 rw [List.length_map] at hme
 have hk:=markSchema_full root Ls hd es 1 i1 (by omega) (fun L hL=>by have:=hcn L hL; omega) (by decide) (by omega)
 have hh:=heldSchema_pure root (Ls.map cnt) 1 (by rw [List.length_map]; omega) (fun n hn=>by have:=hcm n hn; omega) (by decide) (by omega)
 unfold MsR at hk
 rcases hd with _ | ⟨b,c0⟩
 all_goals
  conv=>whnf
  refine .inr (.inr ⟨es,[.agg [.str root,.sl (rws Ru.cells rules)],.agg [.str root,.sl (rws Ru.cells rules)]],fun e he=>⟨1,he⟩,viewL2r (viewA2 hv) (.same _),rfl,hq.mono ?_⟩)
  rintro r rfl
  refine ⟨rfl,?_⟩
  conv=>whnf
  rw [show (! (ok == ok))=false by cases ok <;> rfl]
  conv=>whnf
  refine .inr (.inl ⟨[1],true,?_⟩)
  conv=>whnf
  refine hk.mono ?_
  rintro o st' ⟨es2,Ls2,i3,i4,rfl,rfl⟩
  have hll2:Ls2.length=Ls.length:=by
   have:=congrArg List.length i4
   rw [mRu_len] at this
   simpa using this
  have hv2:=i3.view
  rw [i4,hll2] at hv2
  have hbe:∀ e:Int,negB (eqB e e)=false:=fun e=>by rw [eqB_t rfl]; rfl
  conv=>whnf
  refine .inr (.inr ⟨es2,[.agg [.str root,.sl (rws Ru.cells (mRu (Ls.map cnt) 1))],.int .i64 1],fun e he=>⟨1,he⟩,viewL2r (viewA2 hv2) (.same _),rfl,hh.mono ?_⟩)
  rintro r rfl
  refine ⟨rfl,?_⟩
  conv=>whnf
  rw [ltB_f (by omega)]
  conv=>whnf
  rw [hbe]
  conv=>whnf
  refine .inr (.inl ⟨[],false,?_⟩)
  conv=>whnf
  refine f2.mono ?_
  rintro o st' ⟨es3,Ls3,hd3,rfl,i5,i6,rfl⟩
  have hv3:=i5.view
  rw [i6] at hv3
  rcases hd3 with _ | ⟨b3,c3⟩
  all_goals
   conv=>whnf
   refine .inr (.inr ⟨es3,[.agg [.str root,.sl (rws Ru.cells rules)],.agg [.str root,.sl (rws Ru.cells rules)]],fun e he=>⟨3,he⟩,viewL2r (viewA2 hv3) (.same _),rfl,hq.mono ?_⟩)
   rintro r rfl
   refine ⟨rfl,?_⟩
   conv=>whnf
   rw [show (! (ok == ok))=false by cases ok <;> rfl]
   conv=>whnf
   refine .inr (.inr ⟨es2,[.agg [.str root,.sl (rws Ru.cells (mRu (Ls.map cnt) 1))],.int .i64 1],fun e he=>⟨1,he⟩,viewL2r (viewA2 hv2) (.same _),rfl,hh.mono ?_⟩)
   rintro r rfl
   refine ⟨rfl,?_⟩
   conv=>whnf
   rw [ltB_f (by omega)]
   conv=>whnf
   rw [hbe]
   conv=>whnf
end Go.Cod
set_option linter.all false
namespace Go.Cod
variable [Adr]
open Go Go.Proofs Go.ChangeShapes Go.WideShapes Go.ChangeAt Go.RowKit
set_option maxRecDepth 10000
omit [Adr] in
theorem ownK:ownKnob Tryd.prog.godebug=none:=by kernel_rfl
theorem lawFnExactSchemaRead (s:List UInt8) (h:s.length≤maxLen):Pure Tryd.prog 4 [.str s] (·=.bool true):=law_schemaRead s
omit [Adr]
theorem conFnExactSchemaRead (H:Type) (enc:TypeId × Value→H) (W:World) (base:Nat) (args:Array Value) (ds gs:List (DataW H)) (before:List MemPlace)
  (hval:∀ (j:Nat) t v,Tryd.f4.params[j]? = some t→args[j]? = some v→Value.okWide Tryd.prog W .any base t v)
  (hW:DataW.Whole enc Tryd.prog Tryd.f4.params.toList YtheokahofeedjaaDoor.Rows.fnExactSchemaReadSpec.vars false W args.toList ds gs before) (hL:laidMetH Tryd.prog YtheokahofeedjaaDoor.Rows.fnExactSchemaReadRow.laid W) {fresh handsOn again:Bool} :
  Calls Tryd.prog 4 args W fun e W'=>∃ v,e=.returned v∧YtheokahofeedjaaDoor.Rows.fnExactSchemaReadSpec.post enc Tryd.prog Tryd.f4 false fresh handsOn again W args v W':=by
 have hm:laidMet Tryd.prog YtheokahofeedjaaDoor.Rows.fnExactSchemaReadRow.laid W:=by
  rw [← MakeChecks.laidMetH_plain _ _ _ (by kernel_rfl)]; exact hL
 obtain ⟨⟨a3,c3,l3⟩,hm⟩:=laid_err hm (g:=3) (by kernel_rfl) (by kernel_rfl)
 obtain ⟨⟨a2,c2,l2⟩,hm⟩:=laid_err hm (g:=2) (by kernel_rfl) (by kernel_rfl)
 obtain ⟨⟨a0,c0,l0⟩,hm⟩:=laid_err hm (g:=0) (by kernel_rfl) (by kernel_rfl)
 obtain ⟨⟨a1,c1,l1⟩,hm⟩:=laid_err hm (g:=1) (by kernel_rfl) (by kernel_rfl)
 obtain ⟨⟨a4,c4,l4⟩,hm⟩:=laid_err hm (g:=4) (by kernel_rfl) (by kernel_rfl)
 letI A:Adr:=⟨fun g=>match g with | 3=>a3 | 2=>a2 | 0=>a0 | 1=>a1 | 4=>a4 | _=>default⟩
 have hlaid:Laid (oldP W) W:=by
  intro g cs h
  match g,h with
  | 3,h=>cases h; exact rep_var c3 l3 rfl
  | 2,h=>cases h; exact rep_var c2 l2 rfl
  | 0,h=>cases h; exact rep_var c0 l0 rfl
  | 1,h=>cases h; exact rep_var c1 l1 rfl
  | 4,h=>cases h; exact rep_var c4 l4 rfl
  | g+5,h=>cases h
 refine law_callsV kids full globals_ok (tb:=4) rfl Tryd.underlying4 (by decide +kernel) hW (fun ds gs h h'=>by match ds,gs,h,h' with | [_],[_,_,_,_,_],_,_=>exact ⟨rfl,rfl,rfl⟩) hval
  (Ss:=[fun x=>∃ s,[x]=[.str s]∧s.length≤maxLen]) hlaid ?_ ?_
 · rw [Tryd.params4]
   exact ⟨readsA_str Tryd.underlying9,trivial⟩
 · intro xs h
   obtain ⟨_,rfl,⟨t0,e0,h0⟩⟩:=hold1 h
   cases e0
   exact lawFnExactSchemaRead t0 h0
theorem doorFnExactSchemaRead (os:Os) (args:Array Value):laidMetH Tryd.prog YtheokahofeedjaaDoor.Rows.fnExactSchemaReadRow.laid ((World.doorLaid Tryd.prog 400 os).forCall (fun _ _=>0) ⟨#[],args,[]⟩).memory :=
 laidMetH_of_parts3 (fuel:=8) (laidMet_of_run' 8 (by kernel_rfl) (by kernel_rfl)) (by kernel_rfl) (by kernel_rfl)
set_option maxRecDepth 100000 in
theorem rowFnExactSchemaRead:YtheokahofeedjaaDoor.Rows.FnExactSchemaReadSaid :=
 OpenClaim.holds_of_wide 4 Tryd.f4 rfl rfl rfl rfl rfl rfl rfl ⟨rfl,rfl,rfl,rfl,rfl⟩ rfl rfl rfl rfl rfl (by kernel_rfl) Tryd.func4 (by kernel_rfl)
  (of_decide_eq_true (by kernel_rfl)) (by unfold Func.isWrapper; first | (rw [if_pos (by decide +kernel)]; kernel_rfl) | (rw [if_neg (by decide +kernel)]; exact ⟨rfl,rfl⟩))
  (fun os started H enc _=>returnsInHanded_of_change_and (C:=Tryd.checked) (X:=fun w _=>laidMetH Tryd.prog YtheokahofeedjaaDoor.Rows.fnExactSchemaReadRow.laid w) (fun _ _ _ hh h=>h.of_heap hh) ownK started (by kernel_rfl) Tryd.func4
    (ChangeSpec.witness_shaped (enc := enc) (C := Tryd.checked) (os := os) (X := fun w _ => laidMetH Tryd.prog YtheokahofeedjaaDoor.Rows.fnExactSchemaReadRow.laid w) false (World.doorLaid Tryd.prog 400 os) #[.string "".toByteArray] 8 rfl (World.shaped_of_RefB (by kernel_rfl) (by kernel_rfl)) (by kernel_rfl) (by kernel_rfl) (by kernel_rfl) (doorFnExactSchemaRead os _))
    (fun W base args ds gs before hval hW _ _ hL _=>conFnExactSchemaRead H enc W base args ds gs before hval hW hL))
set_option maxRecDepth 100000 in
theorem overFnExactSchemaRead:YtheokahofeedjaaDoor.Rows.FnExactSchemaReadCardSaid :=
 Claim7.holds_tied_plain_at .later [] [.sentinel, .sentinel, .sentinel, .sentinel, .sentinel] true (true, "574feb5fa98312dafee27ff08b699c6619d86076a16fa3948b37b4a4bebed691") true
  rowFnExactSchemaRead (fun _ h=>by cases h) (by kernel_rfl) (fun _ h=>by cases h) YtheokahofeedjaaDoor.fnExactSchemaRead_row_tie rfl ⟨rfl,rfl⟩ (by kernel_rfl) rfl
  (fun f fn hf hfn=>by
    obtain rfl : f = 4 := Option.some.inj ((show Tryd.prog.funcNamed "loop.example/codicil/laws.FnExactSchemaRead" = some 4 by kernel_rfl).symm.trans hf) |>.symm
    obtain rfl:fn=Tryd.f4:=(Option.some.inj (Tryd.func4.symm.trans hfn)).symm
    exact ⟨by kernel_rfl,fun j t ht=>by
     rw [Tryd.params4] at ht
     have hm:t∈([9]:List Nat):=by simpa using Array.mem_of_getElem? ht
     have hall:(([9]:List Nat).all fun u=>!Tryd.prog.wantsStandIn u)=true:=by kernel_rfl
     exact (show Tryd.prog.wantsStandIn t=false by simpa using List.all_eq_true.1 hall t hm)⟩)
  (by kernel_rfl)
end Go.Cod
