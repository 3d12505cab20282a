import Derived.WalkKit
import Derived.ProofKit
import Derived.Test.YtgnnacognpkgoaaCodE
namespace Go.Cod
open Go Go.Proofs
set_option linter.all false
set_option maxRecDepth 10000
set_option maxHeartbeats 8000000 in
theorem diffCommon_pure (a b:List Int) (la:a.length≤1048576) (lb:b.length≤1048576):Pure Try.prog 65 [.sl (irows a),.sl (irows b)] (·=.sl (irows (lcs a b))):=by
 refine pure_of_draw good Try.func65 rfl (by kernel_rfl) (by decide) fun X hX=>?_
 conv=>whnf
 refine loop_drop (fun n fr st=>∃ (i j:Nat) (rows:List (List V)) (c:List Int),n=(a.length - i)+(b.length - j)∧i≤a.length∧j≤b.length∧c++lcs (a.drop i) (b.drop j)=lcs a b∧c.length≤i∧LMem a b rows ∧
  ((c=[]∧Holds fr [(0,.sl (irows a)),(1,.sl (irows b)),(5,.ptr 1 0 0),(6,.nils),(7,.int .i64 i),(8,.int .i64 j)]∧st=[kmO rows,⟨[[.sl (irows a),.sl (irows b),.map 0]],3,true,true,true,.cell⟩]) ∨
   (c≠[]∧Holds fr [(0,.sl (irows a)),(1,.sl (irows b)),(5,.ptr 1 0 0),(6,.own 2),(7,.int .i64 i),(8,.int .i64 j)]∧st=[kmO rows,⟨[[.sl (irows a),.sl (irows b),.map 0]],3,true,true,true,.cell⟩,⟨irows c,1,true,true,false,.cell⟩]))) (a.length+b.length) none
  ⟨0,0,[],[],by omega,by omega,by omega,rfl,Nat.le_refl _,LMem.nil a b,.inl ⟨rfl,⟨rfl,rfl,rfl,rfl,rfl,rfl,trivial⟩,rfl⟩⟩ ?_
 rintro n fr st ⟨i,j,rows,c,hn,hi,hj,hc,hcl,hM,⟨rfl,hh,rfl⟩ | ⟨hc0,hh,rfl⟩⟩
 · obtain ⟨fr,rfl⟩:=hh.split
   clear hh
   have hwi:V.int .i64 (IntKind.i64.wrap ((i:Int)+1))=.int .i64 ((i+1:Nat):Int):=by rw [wrapJ1 i (by omega)]
   have hwj:V.int .i64 (IntKind.i64.wrap ((j:Int)+1))=.int .i64 ((j+1:Nat):Int):=by rw [wrapJ1 j (by omega)]
   conv=>whnf
   by_cases hlt:i < a.length
   · rw [irows_len,ltB_t (by omega)]
     conv=>whnf
     by_cases hlt2:j < b.length
     · rw [irows_len,ltB_t (by omega)]
       conv=>whnf
       have ha:=List.drop_eq_getElem_cons (l:=a) (i:=i) (by omega)
       have hb:=List.drop_eq_getElem_cons (l:=b) (i:=j) (by omega)
       have hs:=lcs_cons a[i] b[j] (a.drop (i+1)) (b.drop (j+1))
       rw [← ha,← hb] at hs
       have hga:=irows_get a i (by omega)
       have hgb:=irows_get b j (by omega)
       have c2:=longest_ok a b la lb (i+1) j (by omega) (by omega)
       have c3:=longest_ok a b la lb i (j+1) (by omega) (by omega)
       generalize hp:a[i]=p at *
       generalize hq:b[j]=q at *
       refine draw_go hX ?_
       conv=>whnf
       repeat' (first
        | (refine ⟨by omega,irows a,_,1,rfl,hga,rfl,rfl,?_⟩
           conv=>whnf)
        | (refine ⟨by omega,irows b,_,1,rfl,hgb,rfl,rfl,?_⟩
           conv=>whnf)
        | (refine And.intro ?_ ?_))
       by_cases hpq:p=q
       · rw [eqB_t hpq]
         rw [if_pos hpq] at hs
         rw [hs] at hc
         conv=>whnf
         refine ⟨by omega,irows a,_,1,rfl,hga,rfl,rfl,?_⟩
         conv=>whnf
         refine ⟨fun m hm=>by rw [List.mem_singleton.1 hm]; rfl,?_⟩
         conv=>whnf
         refine ⟨by show 1*8≤_; omega,.inr ⟨(by intro e; cases e),?_⟩⟩
         conv=>whnf
         refine ⟨(a.length - (i+1))+(b.length - (j+1)),by omega,some [0,1,3],?_⟩
         conv=>whnf
         refine ⟨i+1,j+1,rows,[p],rfl,by omega,by omega,hc,by simp,hM,.inr ⟨by simp,⟨rfl,rfl,rfl,rfl,hwi,hwj,trivial⟩,rfl⟩⟩
       · rw [eqB_f hpq]
         rw [if_neg hpq] at hs
         conv=>whnf
         refine draw_go hX ?_
         rw [← wrapJ1 i (by omega)] at c2
         rw [← wrapJ1 j (by omega)] at c3
         conv=>whnf
         refine ⟨[0],false,?_⟩
         conv=>whnf
         refine (c2 rows hM).mono ?_
         rintro o st' ⟨rows1,hM1,rfl,rfl⟩
         conv=>whnf
         repeat' (first
          | (refine And.intro (by (conv=>whnf); rfl) ?_
             conv=>whnf)
          | (refine ⟨[0],false,?_⟩
             conv=>whnf
             refine (c3 rows1 hM1).mono ?_
             rintro o st' ⟨rows2,hM2,rfl,rfl⟩
             conv=>whnf))
         by_cases hle:lcsL (a.drop i) (b.drop (j+1))≤lcsL (a.drop (i+1)) (b.drop j)
         · rw [leB_t (by omega)]
           rw [if_pos hle] at hs
           rw [hs] at hc
           conv=>whnf
           refine ⟨(a.length - (i+1))+(b.length - j),by omega,some [0,1],?_⟩
           conv=>whnf
           exact ⟨i+1,j,rows2,[],rfl,by omega,by omega,hc,Nat.zero_le _,hM2,.inl ⟨rfl,⟨rfl,rfl,rfl,rfl,hwi,rfl,trivial⟩,rfl⟩⟩
         · rw [leB_f (by omega)]
           rw [if_neg hle] at hs
           rw [hs] at hc
           conv=>whnf
           refine ⟨(a.length - i)+(b.length - (j+1)),by omega,some [0,1],?_⟩
           conv=>whnf
           exact ⟨i,j+1,rows2,[],rfl,by omega,by omega,hc,Nat.zero_le _,hM2,.inl ⟨rfl,⟨rfl,rfl,rfl,rfl,rfl,hwj,trivial⟩,rfl⟩⟩
     · rw [irows_len,ltB_f (by omega)]
       conv=>whnf
       have hz:lcs (a.drop i) (b.drop j)=[]:=by rw [List.drop_of_length_le (l:=b) (by omega),lcs_nil]
       rw [hz,List.append_nil] at hc
       rw [← hc]
       rfl
   · rw [irows_len,ltB_f (by omega)]
     conv=>whnf
     have hz:lcs (a.drop i) (b.drop j)=[]:=by rw [List.drop_of_length_le (l:=a) (by omega),nil_lcs]
     rw [hz,List.append_nil] at hc
     rw [← hc]
     rfl
 · obtain ⟨fr,rfl⟩:=hh.split
   clear hh
   have hwi:V.int .i64 (IntKind.i64.wrap ((i:Int)+1))=.int .i64 ((i+1:Nat):Int):=by rw [wrapJ1 i (by omega)]
   have hwj:V.int .i64 (IntKind.i64.wrap ((j:Int)+1))=.int .i64 ((j+1:Nat):Int):=by rw [wrapJ1 j (by omega)]
   conv=>whnf
   by_cases hlt:i < a.length
   · rw [irows_len,ltB_t (by omega)]
     conv=>whnf
     by_cases hlt2:j < b.length
     · rw [irows_len,ltB_t (by omega)]
       conv=>whnf
       have ha:=List.drop_eq_getElem_cons (l:=a) (i:=i) (by omega)
       have hb:=List.drop_eq_getElem_cons (l:=b) (i:=j) (by omega)
       have hs:=lcs_cons a[i] b[j] (a.drop (i+1)) (b.drop (j+1))
       rw [← ha,← hb] at hs
       have hga:=irows_get a i (by omega)
       have hgb:=irows_get b j (by omega)
       have c2:=longest_ok a b la lb (i+1) j (by omega) (by omega)
       have c3:=longest_ok a b la lb i (j+1) (by omega) (by omega)
       generalize hp:a[i]=p at *
       generalize hq:b[j]=q at *
       refine draw_go hX ?_
       conv=>whnf
       repeat' (first
        | (refine ⟨by omega,irows a,_,1,rfl,hga,rfl,rfl,?_⟩
           conv=>whnf)
        | (refine ⟨by omega,irows b,_,1,rfl,hgb,rfl,rfl,?_⟩
           conv=>whnf)
        | (refine And.intro ?_ ?_))
       by_cases hpq:p=q
       · rw [eqB_t hpq]
         rw [if_pos hpq] at hs
         rw [hs] at hc
         conv=>whnf
         refine ⟨by omega,irows a,_,1,rfl,hga,rfl,rfl,?_⟩
         conv=>whnf
         refine ⟨fun m hm=>by rw [List.mem_singleton.1 hm]; rfl,?_⟩
         conv=>whnf
         refine ⟨by show ((irows c).length+1)*8≤_; rw [irows_len]; omega,?_⟩
         conv=>whnf
         refine ⟨(a.length - (i+1))+(b.length - (j+1)),by omega,some [0,1,4],?_⟩
         conv=>whnf
         refine ⟨i+1,j+1,rows,c++[p],rfl,by omega,by omega,by rw [← hc]; simp,by simp; omega,hM,.inr ⟨by simp,⟨rfl,rfl,rfl,rfl,hwi,hwj,trivial⟩,?_⟩⟩
         rw [irows_snoc]; rfl
       · rw [eqB_f hpq]
         rw [if_neg hpq] at hs
         conv=>whnf
         refine draw_go hX ?_
         rw [← wrapJ1 i (by omega)] at c2
         rw [← wrapJ1 j (by omega)] at c3
         conv=>whnf
         refine ⟨[0],false,?_⟩
         conv=>whnf
         refine (c2 rows hM).mono ?_
         rintro o st' ⟨rows1,hM1,rfl,rfl⟩
         conv=>whnf
         repeat' (first
          | (refine And.intro (by (conv=>whnf); rfl) ?_
             conv=>whnf)
          | (refine ⟨[0],false,?_⟩
             conv=>whnf
             refine (c3 rows1 hM1).mono ?_
             rintro o st' ⟨rows2,hM2,rfl,rfl⟩
             conv=>whnf))
         by_cases hle:lcsL (a.drop i) (b.drop (j+1))≤lcsL (a.drop (i+1)) (b.drop j)
         · rw [leB_t (by omega)]
           rw [if_pos hle] at hs
           rw [hs] at hc
           conv=>whnf
           refine ⟨(a.length - (i+1))+(b.length - j),by omega,some [0,1,2],?_⟩
           conv=>whnf
           exact ⟨i+1,j,rows2,c,rfl,by omega,by omega,hc,by omega,hM2,.inr ⟨hc0,⟨rfl,rfl,rfl,rfl,hwi,rfl,trivial⟩,rfl⟩⟩
         · rw [leB_f (by omega)]
           rw [if_neg hle] at hs
           rw [hs] at hc
           conv=>whnf
           refine ⟨(a.length - i)+(b.length - (j+1)),by omega,some [0,1,2],?_⟩
           conv=>whnf
           exact ⟨i,j+1,rows2,c,rfl,by omega,by omega,hc,by omega,hM2,.inr ⟨hc0,⟨rfl,rfl,rfl,rfl,rfl,hwj,trivial⟩,rfl⟩⟩
     · rw [irows_len,ltB_f (by omega)]
       conv=>whnf
       have hz:lcs (a.drop i) (b.drop j)=[]:=by rw [List.drop_of_length_le (l:=b) (by omega),lcs_nil]
       rw [hz,List.append_nil] at hc
       rw [← hc]
   · rw [irows_len,ltB_f (by omega)]
     conv=>whnf
     have hz:lcs (a.drop i) (b.drop j)=[]:=by rw [List.drop_of_length_le (l:=a) (by omega),nil_lcs]
     rw [hz,List.append_nil] at hc
     rw [← hc]
end Go.Cod
namespace Go.Cod
open Go Go.Proofs
set_option linter.all false
set_option maxRecDepth 10000
set_option maxHeartbeats 800000 in
theorem treeKidIds_pure (t:T) (hl:t.kids.length≤1048576):Pure Try.prog 66 [.agg t.cells] (·=.sl (irows t.kidIds)):=by
 cases t with
 | mk id kind text kids =>
 simp only [T.kids] at hl ⊢
 have hlr:=Go.Cod.rows_len kids
 refine pure_of_awp good Try.func66 rfl (by kernel_rfl) (by decide) ?_
 conv=>whnf
 refine loop_drop (fun n fr st=>∃ i:Nat,n+i=kids.length ∧
  ((i=0∧Holds fr [(3,.nils),(7,.sl (T.rows kids)),(8,.int .i64 kids.length),(9,.int .i64 i)]∧st=[⟨[[.int .i64 id,.str kind,.str text,.sl (T.rows kids)]],4,true,true,true,.cell⟩]) ∨
   (0 < i∧Holds fr [(3,.own 1),(7,.sl (T.rows kids)),(8,.int .i64 kids.length),(9,.int .i64 i)]∧st=[⟨[[.int .i64 id,.str kind,.str text,.sl (T.rows kids)]],4,true,true,true,.cell⟩,⟨irows ((kids.map T.id).take i),1,true,true,false,.cell⟩]))) kids.length none
  ⟨0,rfl,.inl ⟨rfl,⟨rfl,rfl,by rw [← hlr]; rfl,rfl,trivial⟩,rfl⟩⟩ ?_
 rintro n fr st ⟨i,hi,hst⟩
 rcases hst with ⟨rfl,hh,rfl⟩ | ⟨hi0,hh,rfl⟩
 · obtain ⟨fr,rfl⟩:=hh.split
   clear hh
   conv=>whnf
   by_cases hlt:0 < kids.length
   · rw [ltB_t (by omega)]
     conv=>whnf
     have hg:=rows_get kids 0 hlt
     have htk:=kids_take kids 0 hlt
     generalize kids[0]=t at hg htk
     cases t with
     | mk id' kind' text' kids' =>
     refine ⟨by omega,T.rows kids,_,4,rfl,hg,rfl,rfl,?_⟩
     conv=>whnf
     refine ⟨fun m hm=>by rw [List.mem_singleton.1 hm]; rfl,?_⟩
     conv=>whnf
     refine ⟨by show 1*8≤_; omega,.inr ⟨(by intro e; cases e),?_⟩⟩
     conv=>whnf
     refine ⟨n - 1,by omega,some [0,3],?_⟩
     conv=>whnf
     refine ⟨1,by omega,.inr ⟨by omega,⟨rfl,rfl,rfl,rfl,trivial⟩,?_⟩⟩
     rw [htk]
     rfl
   · rw [ltB_f (by omega)]
     conv=>whnf
     have:kids=[]:=List.eq_nil_of_length_eq_zero (by omega)
     subst this
     rfl
 · obtain ⟨fr,rfl⟩:=hh.split
   clear hh
   conv=>whnf
   by_cases hlt:i < kids.length
   · rw [ltB_t (by omega)]
     conv=>whnf
     have hg:=rows_get kids i hlt
     have htk:=kids_take kids i hlt
     have hln:(irows ((kids.map T.id).take i)).length=i:=by rw [irows_len,List.length_take,List.length_map]; omega
     generalize kids[i]=t at hg htk
     cases t with
     | mk id' kind' text' kids' =>
     refine ⟨by omega,T.rows kids,_,4,rfl,hg,rfl,rfl,?_⟩
     conv=>whnf
     refine ⟨fun m hm=>by rw [List.mem_singleton.1 hm]; rfl,?_⟩
     conv=>whnf
     refine ⟨by
      show ((irows ((kids.map T.id).take i)).length+1)*8≤_
      rw [hln]; omega,?_⟩
     conv=>whnf
     refine ⟨n - 1,by omega,some [0,4],?_⟩
     conv=>whnf
     refine ⟨i+1,by omega,.inr ⟨by omega,⟨rfl,rfl,rfl,?_,trivial⟩,?_⟩⟩
     · show V.int .i64 (IntKind.i64.wrap (i+1))=_
       rw [wrap64 (by omega) (by omega)]; simp
     · rw [htk]
       rfl
   · rw [ltB_f (by omega)]
     conv=>whnf
     rw [List.take_of_length_le (by rw [List.length_map]; omega)]
     rfl
theorem fm_congr {α β:Type} {l:List α} {f g:α→List β} (h:∀ x∈l,f x=g x):l.flatMap f=l.flatMap g:=by
 induction l with
 | nil=>rfl
 | cons x l ih=>rw [List.flatMap_cons,List.flatMap_cons,h x List.mem_cons_self,ih fun y hy=>h y (List.mem_cons_of_mem _ hy)]
def kidIn (ks:List T) (x:Int):T:=(ks.find? fun k=>decide (k.id=x)).getD TZ
theorem ids_nodup {ks:List T} (h:(T.idsL ks).Nodup):(ks.map T.id).Nodup:=by
 induction ks with
 | nil=>simp
 | cons k ks ih =>
   simp only [T.idsL,List.nodup_append] at h
   rw [List.map_cons,List.nodup_cons]
   refine ⟨fun hm=>?_,ih h.2.1⟩
   obtain ⟨s,s1,s2⟩:=List.mem_map.1 hm
   have:s∈(T.mk 0 [] [] ks).kids:=s1
   exact h.2.2 k.id (T.id_mem k) s.id (kid_ids this _ (T.id_mem s)) s2.symm
theorem pairsL_congr {w:T} {c d:List Int} {ks:List T} (h:∀ k∈ks,(k.id∈c↔k.id∈d)):pairsL w c ks=pairsL w d ks:=by
 induction ks with
 | nil=>rfl
 | cons k ks ih =>
   rw [pairsL,pairsL,ih fun k hk=>h k (List.mem_cons_of_mem _ hk)]
   congr 1
   have:=h k List.mem_cons_self
   by_cases e:k.id∈c
   · rw [if_pos e,if_pos (this.1 e)]
   · rw [if_neg e,if_neg fun z=>e (this.2 z)]
theorem kidIn_ne {k:T} {ks:List T} {x:Int} (h:k.id≠x):kidIn (k::ks) x=kidIn ks x:=by
 unfold kidIn
 rw [List.find?_cons,decide_eq_false h]
theorem kidIn_eq {k:T} {ks:List T}:kidIn (k::ks) k.id=k:=by
 unfold kidIn
 rw [List.find?_cons,decide_eq_true rfl]; rfl
theorem pairsL_common (w:T):∀ (ks:List T) (c:List Int),(ks.map T.id).Nodup→c.Sublist (ks.map T.id)→pairsL w c ks=c.flatMap fun x=>pairsT (kidW w x) (kidIn ks x):=by
 intro ks
 induction ks with
 | nil =>
   intro c _ h
   rw [List.map_nil,List.sublist_nil] at h
   subst h; rfl
 | cons k ks ih =>
   intro c hn h
   rw [List.map_cons] at h hn
   obtain ⟨n1,n2⟩:=List.nodup_cons.1 hn
   cases h with
   | cons _ h =>
     have hk:k.id∉c:=fun z=>n1 (h.subset z)
     rw [pairsL,if_neg hk,List.nil_append,ih c n2 h]
     refine fm_congr fun x hx=>?_
     rw [kidIn_ne fun e=>hk (e ▸ hx)]
   | cons_cons _ h =>
     rename_i c
     rw [pairsL,if_pos List.mem_cons_self,List.flatMap_cons,kidIn_eq]
     congr 1
     rw [pairsL_congr (d:=c) fun s hs=>?_,ih c n2 h]
     · refine fm_congr fun x hx=>?_
       rw [kidIn_ne fun e=>n1 (e ▸ h.subset hx)]
     · have hne:s.id≠k.id:=fun e=>n1 (e ▸ List.mem_map_of_mem hs)
       simp [hne]
theorem placeGo_kid (x:Int):∀ (ks:List T) (i:Nat),x∈ks.map T.id→∃ (j:Nat) (h:j < ks.length),placeGo x i ks=((i+j:Nat):Int)∧ks[j]=kidIn ks x
 | [],i,h=>by simp at h
 | k::ks,i,h=>by
   simp only [placeGo]
   by_cases hid:k.id=x
   · subst hid
     exact ⟨0,by simp,by rw [if_pos rfl]; rfl,kidIn_eq.symm⟩
   · rw [if_neg hid]
     have hx:x∈ks.map T.id:=by
      simp only [List.map_cons,List.mem_cons] at h
      rcases h with h | h
      · exact absurd h.symm hid
      · exact h
     obtain ⟨j,h1,h2,h3⟩:=placeGo_kid x ks (i+1) hx
     exact ⟨j+1,by simp; omega,by rw [h2]; congr 1; omega,by rw [kidIn_ne hid]; exact h3⟩
mutual
theorem pairs_len:∀ (w i:T),(pairsT w i).length≤i.size
 | w,.mk id kind text kids=>by
   have:=pairsL_len w (lcs w.kidIds (kids.map T.id)) kids
   simp only [pairsT,List.length_cons,T.size]
   omega
theorem pairsL_len:∀ (w:T) (c:List Int) (ks:List T),(pairsL w c ks).length≤T.sizeL ks
 | _,_,[]=>by simp [pairsL]
 | w,c,k::ks=>by
   have h1:=pairs_len (kidW w k.id) k
   have h2:=pairsL_len w c ks
   simp only [pairsL,List.length_append,T.sizeL]
   split
   · omega
   · simp only [List.length_nil]; omega
end
def prRows (P:List (T × T)):List (List V):=P.map fun p=>p.1.cells++p.2.cells
theorem prRows_len (P:List (T × T)):(prRows P).length=P.length:=by simp [prRows]
theorem prRows_append (P Q:List (T × T)):prRows (P++Q)=prRows P++prRows Q:=by simp [prRows]
end Go.Cod
namespace Go.Cod
open Go Go.Proofs
set_option linter.all false
set_option maxRecDepth 10000
theorem sizeL_mem {ks:List T} {k:T} (h:k∈ks):k.size≤T.sizeL ks:=by
 induction ks with
 | nil=>cases h
 | cons s ks ih =>
   simp only [T.sizeL]
   rcases List.mem_cons.1 h with rfl | h
   · omega
   · have:=ih h; omega
theorem take_fm_len {α:Type} (F:Int→List α) (c:List Int) (k:Nat):((c.take k).flatMap F).length≤(c.flatMap F).length:=by
 conv=>rhs; rw [← List.take_append_drop k c,List.flatMap_append,List.length_append]
 omega
theorem T.cells_len4 (t:T):t.cells.length=4:=by
 obtain ⟨a,b,c,d⟩:=t; rfl
theorem prRows_wid (P:List (T × T)):∀ m∈prRows P,m.length=8:=by
 intro m hm
 obtain ⟨p,_,rfl⟩:=List.mem_map.1 hm
 rw [List.length_append,T.cells_len4,T.cells_len4]
set_option maxHeartbeats 8000000 in
theorem diffPairs_run (wi:Int) (wk wx:List UInt8) (wks:List T) (ii:Int) (ik ix:List UInt8) (iks:List T) (lw:wks.length≤1048576) (li:iks.length≤1048576) (hz:T.sizeL iks≤1048576) (hin:(iks.map T.id).Nodup)
 (ih:∀ x,x∈wks.map T.id→x∈iks.map T.id→Pure Try.prog 32 [.agg (kidIn wks x).cells,.agg (kidIn iks x).cells] (·=.sl (prRows (pairsT (kidIn wks x) (kidIn iks x))))) :
 Pure Try.prog 32 [.agg (T.mk wi wk wx wks).cells,.agg (T.mk ii ik ix iks).cells] (·=.sl (prRows (pairsT (.mk wi wk wx wks) (.mk ii ik ix iks)))):=by
 have c1:=treeKidIds_pure (.mk wi wk wx wks) lw
 have c2:=treeKidIds_pure (.mk ii ik ix iks) li
 have e1:(T.mk wi wk wx wks).kidIds=wks.map T.id:=rfl
 have e2:(T.mk ii ik ix iks).kidIds=iks.map T.id:=rfl
 rw [e1] at c1
 rw [e2] at c2
 have c3:=diffCommon_pure (wks.map T.id) (iks.map T.id) (by rw [List.length_map]; omega) (by rw [List.length_map]; omega)
 have p1:=fun x=>treePlace_pure (.mk wi wk wx wks) x lw
 have p2:=fun x=>treePlace_pure (.mk ii ik ix iks) x li
 have hsub:=lcs_sub _ (wks.map T.id) (iks.map T.id) (Nat.le_refl _)
 have hres:pairsT (.mk wi wk wx wks) (.mk ii ik ix iks)=(.mk wi wk wx wks,.mk ii ik ix iks)::(lcs (wks.map T.id) (iks.map T.id)).flatMap fun x=>pairsT (kidIn wks x) (kidIn iks x):=by
  rw [pairsT]
  congr 1
  rw [show (T.mk wi wk wx wks).kidIds=wks.map T.id from rfl,pairsL_common _ _ _ hin hsub.2]
  exact fm_congr fun x hx=>rfl
 have hlen:=pairs_len (.mk wi wk wx wks) (.mk ii ik ix iks)
 rw [hres] at hlen ⊢
 simp only [T.size,List.length_cons] at hlen
 have hlc:(lcs (wks.map T.id) (iks.map T.id)).length≤1048576:=by have:=hsub.1.length_le; rw [List.length_map] at this; omega
 generalize lcs (wks.map T.id) (iks.map T.id)=c at *
 have hlr:=Go.Cod.rows_len wks
 have hlr2:=Go.Cod.rows_len iks
 refine pure_of_draw good Try.func32 rfl (by kernel_rfl) (by decide) fun X hX=>?_
 conv=>whnf
 refine draw_go hX ?_
 conv=>whnf
 repeat' (first
  | (refine ⟨_,.inl c1,?_⟩
     conv=>whnf)
  | (refine ⟨_,.inl c2,?_⟩
     conv=>whnf)
  | (refine ⟨_,.inl c3,?_⟩
     conv=>whnf)
  | (rintro r rfl
     conv=>whnf)
  | (refine And.intro ?_ ?_))
 refine loop_drop (fun n fr st=>∃ k:Nat,n+k=c.length∧Holds fr [(2,.ptr 0 0 0),(3,.ptr 1 0 0),(5,.own 2),(18,.sl (irows c)),(19,.int .i64 c.length),(20,.int .i64 k)] ∧
  st=[⟨[[.int .i64 wi,.str wk,.str wx,.sl (T.rows wks)]],4,true,true,true,.cell⟩,⟨[[.int .i64 ii,.str ik,.str ix,.sl (T.rows iks)]],4,true,true,true,.cell⟩,⟨prRows ((.mk wi wk wx wks,.mk ii ik ix iks)::(c.take k).flatMap fun x=>pairsT (kidIn wks x) (kidIn iks x)),8,true,true,false,.cell⟩]) c.length none
  ⟨0,rfl,⟨rfl,rfl,rfl,rfl,by rw [← irows_len c]; rfl,rfl,trivial⟩,rfl⟩ ?_
 rintro n fr st ⟨k,hk,hh,rfl⟩
 obtain ⟨fr,rfl⟩:=hh.split
 clear hh
 conv=>whnf
 by_cases hlt:k < c.length
 · rw [ltB_t (by omega)]
   conv=>whnf
   have hg:=irows_get c k hlt
   have hx1:=hsub.1.subset (List.getElem_mem hlt)
   have hx2:=hsub.2.subset (List.getElem_mem hlt)
   have htk:c.take (k+1)=c.take k++[c[k]]:=by rw [List.take_succ_eq_append_getElem hlt]
   generalize c[k]=x at *
   obtain ⟨j1,q1,q2,q3⟩:=placeGo_kid x wks 0 hx1
   obtain ⟨j2,r1,r2,r3⟩:=placeGo_kid x iks 0 hx2
   have g1:=Go.Cod.rows_get wks j1 q1
   have g2:=Go.Cod.rows_get iks j2 r1
   rw [q3] at g1
   rw [r3] at g2
   have p1:=p1 x
   have p2:=p2 x
   simp only [T.kids] at p1 p2
   rw [q2,Nat.zero_add] at p1
   rw [r2,Nat.zero_add] at p2
   have c4:=ih x hx1 hx2
   have hwk:V.int .i64 (IntKind.i64.wrap ((k:Int)+1))=.int .i64 ((k+1:Nat):Int):=by rw [wrapJ1 k (by omega)]
   have hap:prRows ((T.mk wi wk wx wks,T.mk ii ik ix iks)::(c.take (k+1)).flatMap fun x=>pairsT (kidIn wks x) (kidIn iks x))=prRows ((T.mk wi wk wx wks,T.mk ii ik ix iks)::(c.take k).flatMap fun x=>pairsT (kidIn wks x) (kidIn iks x))++prRows (pairsT (kidIn wks x) (kidIn iks x)):=by
    rw [htk,List.flatMap_append,List.flatMap_singleton,← prRows_append]; rfl
   have hlb:(prRows ((T.mk wi wk wx wks,T.mk ii ik ix iks)::(c.take k).flatMap fun x=>pairsT (kidIn wks x) (kidIn iks x))).length+(prRows (pairsT (kidIn wks x) (kidIn iks x))).length≤2000000:=by
    rw [← List.length_append,← hap,prRows_len,List.length_cons]
    have:=take_fm_len (fun x=>pairsT (kidIn wks x) (kidIn iks x)) c (k+1)
    omega
   clear hres hx1 hx2 q1 q2 q3 r1 r2 r3
   generalize kidIn wks x=s1 at *
   generalize kidIn iks x=s2 at *
   obtain ⟨ai,ak,ax,as1⟩:=s1
   obtain ⟨bi,bk,bx,bs1⟩:=s2
   refine ⟨by omega,irows c,_,1,rfl,hg,rfl,rfl,?_⟩
   conv=>whnf
   refine draw_go hX ?_
   conv=>whnf
   repeat' (first
    | (refine ⟨_,.inl p1,?_⟩
       conv=>whnf)
    | (refine ⟨_,.inl p2,?_⟩
       conv=>whnf)
    | (rintro r rfl
       conv=>whnf)
    | (refine ⟨by omega,T.rows wks,_,4,rfl,g1,rfl,rfl,?_⟩
       conv=>whnf)
    | (refine ⟨by omega,T.rows iks,_,4,rfl,g2,rfl,rfl,?_⟩
       conv=>whnf)
    | (refine And.intro ?_ ?_
       all_goals (conv=>whnf)))
   all_goals (try rfl)
   all_goals
    refine .inl (c4.mono ?_)
    rintro r rfl
    conv=>whnf
    refine ⟨prRows_wid _,?_⟩
    conv=>whnf
    refine ⟨by
     show ((prRows _).length+(prRows _).length)*128≤_
     omega,?_⟩
    conv=>whnf
    refine ⟨n - 1,by omega,some [0,1,5],?_⟩
    conv=>whnf
    refine ⟨k+1,by omega,⟨rfl,rfl,rfl,rfl,rfl,hwk,trivial⟩,?_⟩
    rw [hap]
    rfl
 · rw [ltB_f (by omega)]
   conv=>whnf
   rw [List.take_of_length_le (by omega)]
theorem kidIn_mem {ks:List T} {x:Int} (h:x∈ks.map T.id):kidIn ks x∈ks∧(kidIn ks x).id=x:=by
 obtain ⟨k,h1,h2,h3⟩:=kidW_some (t:=.mk 0 [] [] ks) (show x∈(T.mk 0 [] [] ks).kidIds from h)
 have h2:kidIn ks x=k:=h2
 rw [h2]; exact ⟨h1,h3⟩
theorem diffPairs_pure:∀ (i w:T),w.Small→i.Small→i.ids.Nodup→i.size≤1048577→Pure Try.prog 32 [.agg w.cells,.agg i.cells] (·=.sl (prRows (pairsT w i))):=by
 intro i
 induction i using T.ind with
 | h id kd tx ks ih =>
   intro w hw hi hn hz
   obtain ⟨wi,wk,wx,wks⟩:=w
   cases hw with
   | mk w1 w2 w3 w4 w5 =>
   cases hi with
   | mk i1 i2 i3 i4 i5 =>
   have hk:=(kids_nodup hn).1
   simp only [T.kids] at hk
   simp only [T.size] at hz
   refine diffPairs_run wi wk wx wks id kd tx ks w4 i4 (by omega) (ids_nodup hk) fun x hx1 hx2=>?_
   have m1:=(kidIn_mem hx1).1
   have m2:=(kidIn_mem hx2).1
   have:=sizeL_mem m2
   exact ih _ m2 _ (w5 _ m1) (i5 _ m2) (kid_nodup hk m2) (by omega)
end Go.Cod
namespace Go.Cod
open Go Go.Proofs
set_option maxRecDepth 10000
def brows (bs:List UInt8):List (List V):=bs.map fun b=>[cellB b]
theorem brows_len (bs:List UInt8):(brows bs).length=bs.length:=by simp [brows]
theorem brows_get (bs:List UInt8) (i:Nat) (h:i < bs.length):(brows bs)[i]? = some [cellB bs[i]]:=by simp [brows,h]
def rdO (bs:List UInt8) (p:Int):O:=⟨[[.sl (brows bs),.int .i64 p]],2,true,true,true,.cell⟩
theorem tmod_in {a n:Int} (h0:0≤a) (hn:1≤n):0≤a.tmod n∧a.tmod n < n:=by
 rw [Int.tmod_eq_emod_of_nonneg h0]
 exact ⟨Int.emod_nonneg _ (by omega),Int.emod_lt_of_pos _ (by omega)⟩
theorem xor_in {a b:Int} (ha:0≤a∧a < 4611686018427387904) (hb:0≤b∧b < 4611686018427387904):∃ m:Int,0≤m∧IntKind.i64.wrap (BitVec.ofInt IntKind.i64.bits a ^^^ BitVec.ofInt IntKind.i64.bits b).toNat=m:=by
 refine ⟨_,?_,rfl⟩
 have e:(BitVec.ofInt IntKind.i64.bits a ^^^ BitVec.ofInt IntKind.i64.bits b).toNat < 2 ^ 62:=by
  show (BitVec.ofInt 64 a ^^^ BitVec.ofInt 64 b).toNat < 2 ^ 62
  rw [BitVec.toNat_xor,BitVec.toNat_ofInt,BitVec.toNat_ofInt]
  refine Nat.xor_lt_two_pow ?_ ?_ <;> omega
 rw [wrap64 (by omega) (by have:(2:Nat)^62=4611686018427387904:=rfl; omega)]
 omega
theorem pick_full (bs:List UInt8) (p n:Int) (hb:bs.length≤2000) (h0:0≤p) (h1:p≤1073741824) :
 Full Try.prog noY 30 [.ptr 0 0 0,.int .i64 n] [rdO bs p] fun o st'=>∃ m:Int,0≤m∧(1≤n→m < n)∧o=.ret (.int .i64 m)∧st'=[rdO bs (p+1)]:=by
 have hl:=brows_len bs
 have w1:IntKind.i64.wrap (p+1)=p+1:=wrap64 (by omega) (by omega)
 have w2:IntKind.i64.wrap (p+1 - 1)=p:=by rw [wrap64 (by omega) (by omega)]; omega
 have g0:∀ i:Nat,i < bs.length→(brows bs)[i]? = some [cellB bs[i]!]:=fun i hi=>by rw [brows_get bs i hi,getElem!_pos bs i hi]
 generalize hrows:brows bs=rows at *
 refine full_of_awp good Try.func30 rfl (by kernel_rfl) (by decide) ?_
 unfold rdO
 rw [hrows]
 conv=>whnf
 rw [w1]
 conv=>whnf
 by_cases a1:n < 1
 · rw [ltB_t (by omega)]
   conv=>whnf
   refine ⟨[],false,?_⟩
   conv=>whnf
   exact ⟨0,by omega,fun h=>by omega,rfl,rfl⟩
 rw [ltB_f (by omega)]
 conv=>whnf
 by_cases a2:(rows.length:Int)=0
 · rw [eqB_t a2]
   conv=>whnf
   refine ⟨[],false,?_⟩
   conv=>whnf
   exact ⟨0,by omega,fun h=>by omega,rfl,rfl⟩
 rw [eqB_f a2]
 conv=>whnf
 rw [w2]
 conv=>whnf
 by_cases a3:p < (rows.length:Int)
 · rw [ltB_t a3]
   conv=>whnf
   refine ⟨h0,rows,_,1,rfl,g0 p.toNat (by omega),rfl,rfl,?_⟩
   conv=>whnf
   refine ⟨by omega,?_⟩
   conv=>whnf
   refine ⟨[],false,?_⟩
   conv=>whnf
   have hc:IntKind.i64.wrap ((bs[p.toNat]!).toNat:Int)=((bs[p.toNat]!).toNat:Int):=wrap64 (by omega) (by have:=(bs[p.toNat]!).toNat_lt; omega)
   refine ⟨_,?_,?_,rfl,rfl⟩
   · rw [hc]; exact (tmod_in (by omega) (by omega)).1
   · intro _; rw [hc]; exact (tmod_in (by omega) (by omega)).2
 rw [ltB_f (by omega)]
 conv=>whnf
 have hL:1≤(rows.length:Int):=by omega
 refine ⟨by omega,?_⟩
 conv=>whnf
 have i1:=tmod_in (a:=p) (n:=rows.length) h0 hL
 refine ⟨i1.1,rows,_,1,rfl,g0 (p.tmod rows.length).toNat (by omega),rfl,rfl,?_⟩
 conv=>whnf
 refine ⟨rfl,?_⟩
 conv=>whnf
 have w3:IntKind.i64.wrap (IntKind.i64.wrap (p*7)+3)=p*7+3:=by rw [wrap64 (a:=p*7) (by omega) (by omega),wrap64 (by omega) (by omega)]
 rw [w3]
 refine ⟨by omega,?_⟩
 conv=>whnf
 have i2:=tmod_in (a:=p*7+3) (n:=rows.length) (by omega) hL
 refine ⟨i2.1,rows,_,1,rfl,g0 ((p*7+3).tmod rows.length).toNat (by omega),rfl,rfl,?_⟩
 conv=>whnf
 refine ⟨rfl,?_⟩
 conv=>whnf
 refine ⟨by omega,?_⟩
 have c1:=(bs[(p.tmod rows.length).toNat]!).toNat_lt
 have c2:=(bs[((p*7+3).tmod rows.length).toNat]!).toNat_lt
 generalize bs[(p.tmod rows.length).toNat]! = d1 at *
 generalize bs[((p*7+3).tmod rows.length).toNat]! = d2 at *
 have q1:0≤p.tdiv rows.length∧p.tdiv rows.length≤p:=by
  rw [Int.tdiv_eq_ediv_of_nonneg h0]
  exact ⟨Int.ediv_nonneg h0 (by omega),Int.ediv_le_self _ h0⟩
 generalize p.tdiv rows.length=q at *
 obtain ⟨x,⟨hx0,hx1⟩,hx⟩:∃ x:Int,(0≤x∧x < 4611686018427387904)∧IntKind.i64.wrap (IntKind.i64.wrap (IntKind.i64.wrap (IntKind.i64.wrap (IntKind.i64.wrap (d1.toNat:Int)*131)+IntKind.i64.wrap (IntKind.i64.wrap (d2.toNat:Int)*1117))+IntKind.i64.wrap (p*29))+IntKind.i64.wrap (IntKind.i64.wrap q*53))=x:=by
  rw [wrap64 (a:=(d1.toNat:Int)) (by omega) (by omega),wrap64 (a:=(d2.toNat:Int)) (by omega) (by omega),wrap64 (a:=(d1.toNat:Int)*131) (by omega) (by omega),wrap64 (a:=(d2.toNat:Int)*1117) (by omega) (by omega),wrap64 (a:=(d1.toNat:Int)*131+_) (by omega) (by omega),
   wrap64 (a:=p*29) (by omega) (by omega),wrap64 (a:=q) (by omega) (by omega),wrap64 (a:=q*53) (by omega) (by omega),wrap64 (a:=(d1.toNat:Int)*131+_+_) (by omega) (by omega)]
  rw [wrap64 (by omega) (by omega)]
  exact ⟨_,by omega,rfl⟩
 conv=>whnf
 rw [hx]
 refine ⟨by decide,?_⟩
 conv=>whnf
 obtain ⟨y,hy0,hy⟩:=xor_in (a:=x) (b:=IntKind.i64.wrap (x.tdiv 64)) ⟨hx0,hx1⟩ (by
  rw [Int.tdiv_eq_ediv_of_nonneg hx0,wrap64 (by omega) (by omega)]; omega)
 rw [hy]
 refine ⟨by omega,?_⟩
 conv=>whnf
 refine ⟨[],false,?_⟩
 conv=>whnf
 exact ⟨_,(tmod_in hy0 (by omega)).1,fun _=>(tmod_in hy0 (by omega)).2,rfl,rfl⟩
end Go.Cod
namespace Go.Cod
open Go Go.Proofs
set_option maxRecDepth 10000
theorem l1Many_pure (s:List UInt8) (n:Int) (h0:0≤n) (hn64:n≤1048576) (hL:s.length*n.toNat≤1048576) (hs:s.length≤1048576):Pure Try.prog 64 [.str s,.int .i64 n] fun r=>∃ t:List UInt8,t.length=s.length*n.toNat∧r=.str t:=by
 generalize hLL:s.length*n.toNat=L at *
 refine pure_of_awp good Try.func64 rfl (by kernel_rfl) (by decide) ?_
 conv=>whnf
 refine loop_intro (fun m fr st=>st=[]∧∃ (a b:List UInt8),a.length+b.length*m=L∧b.length≤2097152∧(m:Int)≤n∧Holds fr [(0,.str b),(1,.int .i64 m),(5,.str a)]) n.toNat
  ⟨rfl,[],s,by simp [hLL],by omega,by omega,rfl,by rw [Int.toNat_of_nonneg h0]; rfl,rfl,trivial⟩ ?_
 rintro m fr st ⟨rfl,a,b,h1,h2,h3,hh⟩
 obtain ⟨fr,rfl⟩:=hh.split
 clear hh
 conv=>whnf
 by_cases hlt:0 < m
 · rw [ltB_t (by omega)]
   conv=>whnf
   refine ⟨by decide,?_⟩
   conv=>whnf
   have hbm:b.length≤b.length*m:=Nat.le_mul_of_pos_right _ hlt
   have e1:(m:Int).tmod 2=((m % 2:Nat):Int):=by rw [Int.tmod_eq_emod_of_nonneg (by omega)]; omega
   have e4:IntKind.i64.wrap ((m:Int).tdiv 2)=((m / 2:Nat):Int):=by
    rw [Int.tdiv_eq_ediv_of_nonneg (by omega),wrap64 (by omega) (by omega)]; omega
   have hm:m=2*(m / 2)+m % 2:=by omega
   have hmul:b.length*m=2*(b.length*(m / 2))+b.length*(m % 2):=by
    conv=>lhs; rw [hm,Nat.mul_add,Nat.mul_left_comm]
   rw [e1]
   by_cases ho:m % 2=1
   · rw [eqB_t (by omega)]
     conv=>whnf
     rw [ho,Nat.mul_one] at hmul
     refine ⟨by omega,?_⟩
     conv=>whnf
     refine ⟨by omega,?_⟩
     conv=>whnf
     refine ⟨by decide,?_⟩
     conv=>whnf
     refine ⟨m / 2,by omega,rfl,a++b,b++b,?_,by simp; omega,by omega,rfl,by rw [← e4]; rfl,rfl,trivial⟩
     rw [List.length_append,List.length_append,Nat.add_mul]; omega
   · rw [eqB_f (by omega)]
     conv=>whnf
     rw [show m % 2=0 by omega,Nat.mul_zero] at hmul
     refine ⟨by omega,?_⟩
     conv=>whnf
     refine ⟨by decide,?_⟩
     conv=>whnf
     refine ⟨m / 2,by omega,rfl,a,b++b,?_,by simp; omega,by omega,rfl,by rw [← e4]; rfl,rfl,trivial⟩
     rw [List.length_append,Nat.add_mul]; omega
 · rw [ltB_f (by omega)]
   conv=>whnf
   have:m=0:=by omega
   subst this
   exact ⟨a,by omega,rfl⟩
def drows (ss:List (List UInt8)):List (List V):=ss.map fun s=>[.str s]
theorem drows_len (ss:List (List UInt8)):(drows ss).length=ss.length:=by simp [drows]
theorem of_full (bs:List UInt8) (p:Int) (ss:List (List UInt8)) (hb:bs.length≤2000) (h0:0≤p) (h1:p≤1073741824) (hn:1≤ss.length) (hn':ss.length≤1048576) :
 Full Try.prog noY 63 [.ptr 0 0 0,.sl (drows ss)] [rdO bs p] fun o st'=>∃ s∈ss,o=.ret (.str s)∧st'=[rdO bs (p+1)]:=by
 have hl:=drows_len ss
 have hp:=pick_full bs p ss.length hb h0 h1
 have hg:∀ m:Int,0≤m→m < ss.length→∃ s∈ss,(drows ss)[m.toNat]? = some [.str s]:=fun m a b=>by
  have:m.toNat < ss.length:=by omega
  exact ⟨ss[m.toNat],List.getElem_mem _,by simp [drows,this]⟩
 generalize drows ss=rows at *
 refine full_of_awp good Try.func63 rfl (by kernel_rfl) (by decide) ?_
 conv=>whnf
 rw [hl]
 refine ⟨[0],false,?_⟩
 conv=>whnf
 refine hp.mono ?_
 rintro o st' ⟨m,m0,m1,rfl,rfl⟩
 conv=>whnf
 obtain ⟨s,hs,hgs⟩:=hg m m0 (m1 (by omega))
 refine ⟨m0,rows,_,1,rfl,hgs,rfl,rfl,?_⟩
 conv=>whnf
 refine ⟨[],false,?_⟩
 conv=>whnf
 exact ⟨s,hs,rfl,rfl⟩
theorem l11Text_full (bs:List UInt8) (p:Int) (hb:bs.length≤2000) (h0:0≤p) (h1:p≤1073741824) :
 Full Try.prog noY 81 [.ptr 0 0 0] [rdO bs p] fun o st'=>∃ s:List UInt8,s.length≤12∧o=.ret (.str s)∧st'=[rdO bs (p+1)]:=by
 have hm:=l1Many_pure [116] 12 (by decide) (by decide) (by decide) (by decide)
 refine full_of_awp good Try.func81 rfl (by kernel_rfl) (by decide) ?_
 conv=>whnf
 refine .inl (hm.mono ?_)
 rintro r ⟨t,ht,rfl⟩
 have ho:=of_full bs p [[],[97],[98],[111,110,101,32,116,119,111],[120],t] hb h0 h1 (by simp) (by simp)
 conv=>whnf
 refine ⟨[0],false,?_⟩
 conv=>whnf
 refine ho.mono ?_
 rintro o st' ⟨s,hs,rfl,rfl⟩
 conv=>whnf
 refine ⟨[],false,?_⟩
 conv=>whnf
 refine ⟨s,?_,rfl,rfl⟩
 simp only [List.mem_cons,List.not_mem_nil,or_false] at hs
 rcases hs with rfl | rfl | rfl | rfl | rfl | rfl <;> first | decide | (rw [ht]; decide)
end Go.Cod
namespace Go.Cod
open Go Go.Proofs
set_option maxRecDepth 10000
structure It where
 kind:List UInt8
 many:Bool
 may:Bool
def It.cells (x:It):List V:=[.str x.kind,.bool x.many,.bool x.may]
structure Ru where
 kind:List UInt8
 text:Bool
 kids:List It
def Ru.cells (x:Ru):List V:=[.str x.kind,.bool x.text,.sl (x.kids.map It.cells)]
structure Sch where
 root:List UInt8
 rules:List Ru
def Sch.cells (x:Sch):List V:=[.str x.root,.sl (x.rules.map Ru.cells)]
def kDoc:List UInt8:=[100,111,99]
def kTitle:List UInt8:=[116,105,116,108,101]
def kSec:List UInt8:=[115,101,99]
def kNote:List UInt8:=[110,111,116,101]
def kPar:List UInt8:=[112,97,114]
def sch11:Sch:=⟨kDoc,[⟨kDoc,false,[⟨kTitle,false,true⟩,⟨kSec,true,false⟩,⟨kNote,false,true⟩]⟩,⟨kTitle,true,[]⟩,⟨kSec,true,[⟨kPar,true,false⟩,⟨kNote,false,true⟩]⟩,⟨kPar,true,[]⟩,⟨kNote,true,[⟨kPar,true,false⟩]⟩]⟩
def Ru.cellsN (x:Ru):List V:=[.str x.kind,.bool x.text,match x.kids with | []=>.nils | _::_=>.sl (x.kids.map It.cells)]
theorem l11Schema_pure:Pure Try.prog 61 [] (·=.agg sch11.cells):=by
 refine Pure.soft (R:=(·=.agg [.str kDoc,.sl (sch11.rules.map Ru.cellsN)])) ?_ ?_
 · refine pure_of_awp good Try.func61 rfl (by kernel_rfl) (by decide) ?_
   conv=>whnf
   rfl
 · rintro r rfl
   rfl
def ruleAt (rs:List Ru) (kind:List UInt8):Int:=match rs.findIdx? (fun r=>decide (r.kind=kind)) with
 | some i=>i
 | none=>-1
theorem l3Rule_pure (s:Sch) (kind:List UInt8) (hl:s.rules.length≤1048576):Pure Try.prog 93 [.agg s.cells,.str kind] (·=.int .i64 (ruleAt s.rules kind)):=by
 obtain ⟨root,rules⟩:=s
 simp only at hl
 simp only [Sch.cells]
 have hlr:(rules.map Ru.cells).length=rules.length:=by simp
 have hg:∀ i (h:i < rules.length),(rules.map Ru.cells)[i]? = some rules[i].cells:=fun i h=>by simp [h]
 have hr:∀ i (h:i < rules.length),(∀ j (hj:j < i),rules[j].kind≠kind)→rules[i].kind=kind→ruleAt rules kind=i:=fun i h h1 h2=>by
  unfold ruleAt
  rw [List.findIdx?_eq_some_iff_getElem.2 ⟨h,by simpa using h2,fun j hj=>by simpa using h1 j hj⟩]
 have hn:(∀ j (hj:j < rules.length),rules[j].kind≠kind)→ruleAt rules kind=-1:=fun h=>by
  unfold ruleAt
  rw [List.findIdx?_eq_none_iff.2 fun x hx=>by
   obtain ⟨j,hj,rfl⟩:=List.getElem_of_mem hx
   simpa using h j hj]
 generalize ruleAt rules kind=r at *
 obtain ⟨rows,hrows⟩:∃ rows,rows=rules.map Ru.cells:=⟨_,rfl⟩
 rw [← hrows] at hlr ⊢
 simp only [← hrows] at hg
 clear hrows
 refine pure_of_awp good Try.func93 rfl (by kernel_rfl) (by decide) ?_
 conv=>whnf
 refine loop_intro (fun n fr st=>∃ i:Nat,n+i=rules.length∧(∀ j (hj:j < rules.length),j < i→rules[j].kind≠kind)∧st=[⟨[[.str root,.sl rows]],2,true,true,true,.cell⟩]∧Holds fr [(1,.str kind),(2,.ptr 0 0 0),(5,.int .i64 i)]) rules.length
  ⟨0,rfl,fun _ _ h=>by omega,rfl,rfl,rfl,rfl,trivial⟩ ?_
 rintro n fr st ⟨i,hi,hno,rfl,hh⟩
 obtain ⟨fr,rfl⟩:=hh.split
 clear hh
 conv=>whnf
 rw [hlr]
 by_cases hlt:i < rules.length
 · rw [ltB_t (by omega)]
   conv=>whnf
   have hgi:=hg i hlt
   have hri:=hr i hlt
   have hni:=hno
   generalize hq:rules[i]=q at *
   obtain ⟨qk,qt,qs⟩:=q
   refine ⟨by omega,rows,_,3,rfl,hgi,rfl,rfl,?_⟩
   conv=>whnf
   by_cases hk:qk=kind
   · rw [eqS_t hk]
     conv=>whnf
     rw [hri (fun j hj=>hno j (by omega) hj) hk]
   · rw [eqS_f hk]
     conv=>whnf
     refine ⟨n - 1,by omega,i+1,by omega,fun j hj hji=>?_,rfl,rfl,rfl,?_,trivial⟩
     · by_cases e:j=i
       · subst e; rw [hq]; exact hk
       · exact hno j hj (by omega)
     · show V.int .i64 (IntKind.i64.wrap (i+1))=_
       rw [wrap64 (by omega) (by omega)]; simp
 · rw [ltB_f (by omega)]
   conv=>whnf
   rw [hn fun j hj=>hno j hj (by omega)]
end Go.Cod
namespace Go.Cod
open Go Go.Proofs
set_option maxRecDepth 10000
def kinds11:List (List UInt8):=[kDoc,kTitle,kSec,kPar,kNote]
theorem rule11 (kind:List UInt8) (h:kind∈kinds11):∃ (j:Nat) (ru:Ru),ruleAt sch11.rules kind=j∧(sch11.rules.map Ru.cells)[j]? = some ru.cells∧ru.kids.length≤3∧∀ it∈ru.kids,it.kind∈kinds11:=by
 simp only [kinds11,List.mem_cons,List.not_mem_nil,or_false] at h
 rcases h with rfl | rfl | rfl | rfl | rfl
 · exact ⟨0,_,by decide,rfl,by decide,by decide⟩
 · exact ⟨1,_,by decide,rfl,by decide,by decide⟩
 · exact ⟨2,_,by decide,rfl,by decide,by decide⟩
 · exact ⟨3,_,by decide,rfl,by decide,by decide⟩
 · exact ⟨4,_,by decide,rfl,by decide,by decide⟩
theorem kinds11_len (kind:List UInt8) (h:kind∈kinds11):kind.length≤1048576:=by
 simp only [kinds11,List.mem_cons,List.not_mem_nil,or_false] at h
 rcases h with rfl | rfl | rfl | rfl | rfl <;> decide
def nxO (k:Int):O:=⟨[[.int .i64 k]],1,true,true,true,.cell⟩
def KN (ids:List Int) (lo k k':Int):Prop:=ids.Nodup∧(∀ i∈ids,lo≤i∧i < k')∧lo≤k'∧∀ h:Int,0≤h→100*h≤k→k≤100*h+18→k'≤100*h+19
theorem KN.nil (k:Int):KN (T.idsL []) (k+1) k (k+1):=⟨List.nodup_nil,fun i h=>by simp [T.idsL] at h,by omega,fun h _ _ _=>by omega⟩
theorem KN.node {k k':Int} {kind text:List UInt8} {kids:List T} (h:KN (T.idsL kids) (k+1) k k'):KN (T.mk k kind text kids).ids k k k':=by
 obtain ⟨h1,h2,h3,h4⟩:=h
 refine ⟨?_,?_,by omega,h4⟩
 · simp only [T.ids,List.nodup_cons]
   exact ⟨fun h=>by have:=(h2 k h).1; omega,h1⟩
 · intro i hi
   simp only [T.ids,List.mem_cons] at hi
   rcases hi with rfl | hi
   · omega
   · have:=h2 i hi; omega
theorem KN.ones {ids:List Int} {k':Int} (h:KN ids 1 1 k'):ids.Nodup∧∀ i∈ids,1≤i∧i < 20:=by
 obtain ⟨h1,h2,h3,h4⟩:=h
 have:=h4 0 (by omega) (by omega) (by omega)
 exact ⟨h1,fun i hi=>by have:=h2 i hi; omega⟩
theorem idsL_snoc (l:List T) (t:T):T.idsL (l++[t])=T.idsL l++t.ids:=by
 induction l with
 | nil=>simp [T.idsL]
 | cons x l ih=>simp [T.idsL,ih]
theorem KN.snoc {k k2 k3:Int} {kids:List T} {t:T} (_:0≤k) (h:KN (T.idsL kids) (k+1) k k2) (hk:k2.tmod 100 < 18) (ht:KN t.ids k2 k2 k3):KN (T.idsL (kids++[t])) (k+1) k k3:=by
 obtain ⟨h1,h2,h3,h4⟩:=h
 obtain ⟨t1,t2,t3,t4⟩:=ht
 rw [idsL_snoc]
 refine ⟨List.nodup_append.2 ⟨h1,t1,fun a ha b hb=>?_⟩,?_,by omega,?_⟩
 · have:=h2 a ha; have:=t2 b hb; omega
 · intro i hi
   rcases List.mem_append.1 hi with hi | hi
   · have:=h2 i hi; omega
   · have:=t2 i hi; omega
 · intro h g0 g1 g2
   have:=h4 h g0 g1 g2
   rw [Int.tmod_eq_emod_of_nonneg (by omega)] at hk
   exact t4 h g0 (by omega) (by omega)
def TreeR (bs:List UInt8) (p k B:Int) (o:Out) (st':St):Prop:=∃ (t:T) (p' k':Int),t.Small∧((t.size:Int)≤B∧KN t.ids k k k'∧t.id=k)∧p≤p'∧p'≤p+B∧k≤k'∧k'≤k+B∧o=.ret (.agg t.cells)∧st'=[rdO bs p',nxO k']
def TreeC (bs:List UInt8) (d B:Int):Prop:=∀ (p k:Int) (kind:List UInt8),0≤p→p+B≤1073741824→0≤k→k+B≤1073741824→kind∈kinds11 →
 Full Try.prog noY 80 [.ptr 0 0 0,.str kind,.int .i64 d,.ptr 1 0 0] [rdO bs p,nxO k] (TreeR bs p k B)
def bxO (row:List V) (n:Nat):O:=⟨[row],n,true,true,true,.cell⟩
def kidsV (kids:List T) (m:Nat):V:=match kids with
 | []=>.nils
 | _::_=>.own m
def kidsO (kids:List T):List O:=match kids with
 | []=>[]
 | _::_=>[⟨T.rows kids,4,true,true,false,.cell⟩]
theorem T.rows_snoc (l:List T) (t:T):T.rows (l++[t])=T.rows l++[t.cells]:=by rw [T.rows_eq,T.rows_eq]; simp
theorem kidsO_snoc (t0:T) (ts:List T) (t:T):kidsO ((t0::ts)++[t])=[⟨T.rows (t0::ts)++[t.cells],4,true,true,false,.cell⟩]:=by
 rw [← T.rows_snoc]; rfl
theorem small_snoc {l:List T} {t:T} (h:∀ x∈l,x.Small) (ht:t.Small):∀ x∈l++[t],x.Small:=by
 intro x hx
 rcases List.mem_append.1 hx with hx | hx
 · exact h x hx
 · simp at hx; subst hx; exact ht
set_option maxHeartbeats 8000000 in
theorem l11Tree_step (bs:List UInt8) (hb:bs.length≤2000) (d B:Int) (hB:1≤B) (hB':B≤65536) (hd:0≤d∧d≤1000) (hT:d < 4→TreeC bs (d+1) B):TreeC bs d (16*B):=by
 intro p k kind p0 p1 k0 k1 hk
 obtain ⟨j,ru,hj1,hj2,hj3,hj4⟩:=rule11 kind hk
 have hkl:=kinds11_len kind hk
 have hr:=l3Rule_pure sch11 kind (by decide)
 have hsch:=l11Schema_pure
 have ht:=l11Text_full bs p hb p0 (by omega)
 rw [hj1] at hr
 have hsd:sch11.cells=[.str kDoc,.sl (sch11.rules.map Ru.cells)]:=rfl
 rw [hsd] at hr hsch
 generalize sch11.rules.map Ru.cells=rules at *
 obtain ⟨rk,rt,items⟩:=ru
 simp only [Ru.cells] at hj2 hj3 hj4
 have hlr:(items.map It.cells).length=items.length:=by simp
 have hg:∀ i (h:i < items.length),(items.map It.cells)[i]? = some [.str items[i].kind,.bool items[i].many,.bool items[i].may]:=fun i h=>by simp [h,It.cells]
 have hgk:∀ i (h:i < items.length),items[i].kind∈kinds11:=fun i h=>hj4 _ (List.getElem_mem h)
 obtain ⟨irows,hirows⟩:∃ rows,rows=items.map It.cells:=⟨_,rfl⟩
 rw [← hirows] at hlr hj2
 simp only [← hirows] at hg
 clear hirows
 refine full_of_awp good Try.func80 rfl (by kernel_rfl) (by decide) ?_
 conv=>whnf
 have w1:IntKind.i64.wrap (k+1)=k+1:=wrap64 (by omega) (by omega)
 rw [w1]
 refine .inl (hsch.mono ?_)
 rintro r rfl
 conv=>whnf
 refine ⟨_,.inl hr,?_⟩
 conv=>whnf
 refine ⟨by omega,rules,_,3,rfl,hj2,rfl,rfl,?_⟩
 conv=>whnf
 refine ⟨by conv=>whnf
            exact ⟨_,.inl hr,rfl⟩,?_⟩
 conv=>whnf
 obtain ⟨C,hC⟩:∃ C:Int,C=2+3*B:=⟨_,rfl⟩
 have mulS:∀ (i:Nat) (X:Int),((i+1:Nat):Int)*X=i*X+X:=fun i X=>by
  rw [Int.natCast_add,Int.add_mul]; simp
 have mulL:∀ (i n:Nat) (X:Int),0≤X→i≤n→(i:Int)*X≤n*X:=fun i n X hX h=>Int.mul_le_mul_of_nonneg_right (by omega) hX
 have mul0:∀ (i:Nat) (X:Int),0≤X→0≤(i:Int)*X:=fun i X hX=>Int.mul_nonneg (by omega) hX
 have fin:∀ (i:Nat) (kids:List T) (p' k':Int) (tx:List UInt8),i≤items.length→kids.length≤3*i→(T.sizeL kids:Int)≤i*C→p≤p'→p'≤p+1+i*C→k≤k'→k'≤k+1+i*C→tx.length≤12→((∀ t∈kids,t.Small)∧KN (T.idsL kids) (k+1) k k') →
  (T.mk k kind tx kids).Small∧(((T.mk k kind tx kids).size:Int)≤16*B∧KN (T.mk k kind tx kids).ids k k k'∧(T.mk k kind tx kids).id=k)∧p≤p'∧p'≤p+16*B∧k≤k'∧k'≤k+16*B:=by
  intro i kids p' k' tx g0 g1 g2 g3 g4 g5 g6 g7 g8
  have hm:=mulL i 3 C (by omega) (by omega)
  refine ⟨.mk (by omega) hkl (by omega) (by omega) g8.1,⟨?_,g8.2.node,rfl⟩,g3,?_,g5,?_⟩
  · simp only [T.size]; omega
  · omega
  · omega
 cases rt
 case' true =>
  conv=>whnf
  refine ⟨[0],false,?_⟩
  conv=>whnf
  refine ht.mono ?_
  rintro o st' ⟨tx,htx,rfl,rfl⟩
 case' false =>
  obtain ⟨tx,htx,htx0⟩:∃ tx:List UInt8,tx.length≤12∧tx=[]:=⟨[],by simp,rfl⟩
 all_goals
  conv=>whnf
  refine loop_drop (fun n fr st=>∃ (i:Nat) (kids:List T) (p' k':Int) (tx:List UInt8),n+i=items.length∧kids.length≤3*i∧(T.sizeL kids:Int)≤i*C∧(p≤p'∧p'≤p+1+i*C)∧(k≤k'∧k'≤k+1+i*C)∧tx.length≤12∧((∀ t∈kids,t.Small)∧KN (T.idsL kids) (k+1) k k') ∧
   Holds fr [(0,.ptr 0 0 0),(2,.int .i64 d),(3,.ptr 1 0 0),(8,.ptr 2 0 0),(9,.ptr 3 0 0),(11,.ptr 5 0 0),(12,.int .i64 i)] ∧
   st=[rdO bs p',nxO k',bxO zrow 4,bxO [.int .i64 k,.str kind,.str tx,kidsV kids 6] 4,bxO [.str kDoc,.sl rules] 2,⟨[[.str rk,.bool _,.sl irows]],3,true,true,true,.cell⟩]++kidsO kids) items.length none
   ⟨0,[],_,k+1,_,by omega,by simp,by simp [T.sizeL],by simp <;> omega,by simp <;> omega,by first | exact htx | (simp; done),⟨by simp,KN.nil k⟩,⟨rfl,rfl,rfl,rfl,rfl,rfl,rfl,trivial⟩,rfl⟩ ?_
  rintro n fr st ⟨i,kids,p',k',tx',hi,b1,b2,b3,b4,b5,b6,hh,rfl⟩
  obtain ⟨fr,rfl⟩:=hh.split
  clear hh
  have hmi:=mulL i 3 C (by omega) (by omega)
  by_cases hlt:i < items.length
  · by_cases hd4:d < 4
    ·
     have hcT:=hT hd4
     have hm2:=mulL i 2 C (by omega) (by omega)
     have hm0:=mul0 i C (by omega)
     have hmS:=mulS i C
     clear hmi
     have hgi:=hg i hlt
     have hki:=hgk i hlt
     generalize items[i].kind=ik at *
     generalize items[i].many=im at *
     generalize items[i].may=iy at *
     have hp2:=pick_full bs p' 2 hb (by omega) (by omega)
     have hp4:=pick_full bs (p'+1) 4 hb (by omega) (by omega)
     have wd:IntKind.i64.wrap (d+1)=d+1:=wrap64 (by omega) (by omega)
     cases kids
     all_goals
      conv=>whnf
      rw [hlr,ltB_t (by omega)]
      conv=>whnf
      rw [ltB_t hd4]
      conv=>whnf
      refine ⟨[0],false,?_⟩
      conv=>whnf
      refine hp2.mono ?_
      rintro o st' ⟨c,c0,c1,rfl,rfl⟩
      conv=>whnf
      refine ⟨by omega,irows,_,3,rfl,hgi,rfl,rfl,?_⟩
      conv=>whnf
      cases im
      case' true =>
       conv=>whnf
       refine ⟨[0],false,?_⟩
       conv=>whnf
       refine hp4.mono ?_
       rintro o st' ⟨c,c0,c1,rfl,rfl⟩
     all_goals
      have hc4:c < 4:=by first | exact c1 (by omega) | (have:=c1 (by omega); omega)
      clear c1
      conv=>whnf
      refine loop_drop (fun m fr st=>∃ (q:Nat) (kids:List T) (p' k':Int) (tx:List UInt8),(m:Int)+q=c∧kids.length≤3*i+q∧(T.sizeL kids:Int)≤i*C+q*B∧(p≤p'∧p'≤p+3+i*C+q*B)∧(k≤k'∧k'≤k+1+i*C+q*B)∧tx.length≤12∧((∀ t∈kids,t.Small)∧KN (T.idsL kids) (k+1) k k') ∧
       Holds fr [(0,.ptr 0 0 0),(2,.int .i64 d),(3,.ptr 1 0 0),(8,.ptr 2 0 0),(9,.ptr 3 0 0),(11,.ptr 5 0 0),(12,.int .i64 i),(13,.int .i64 c),(14,.int .i64 q)] ∧
       st=[rdO bs p',nxO k',bxO zrow 4,bxO [.int .i64 k,.str kind,.str tx,kidsV kids 6] 4,bxO [.str kDoc,.sl rules] 2,⟨[[.str rk,.bool _,.sl irows]],3,true,true,true,.cell⟩]++kidsO kids) c.toNat none
       ⟨0,_,_,k',tx',by omega,b1,by simp <;> omega,by simp <;> omega,by simp <;> omega,b5,b6,⟨rfl,rfl,rfl,rfl,rfl,rfl,rfl,rfl,rfl,trivial⟩,rfl⟩ ?_
      rintro m fr st ⟨q,kids2,p2,k2,tx2,e1,d1,d2,d3,d4,d5,d6,hh,rfl⟩
      obtain ⟨fr,rfl⟩:=hh.split
      clear hh
      have hqL:=mulL q 3 B (by omega) (by omega)
      have hq0:=mul0 q B (by omega)
      have hqS:=mulS q B
      have out:(3*i+q≤3*(i+1))∧(T.sizeL kids2:Int)≤((i+1:Nat):Int)*C∧(p≤p2∧p2≤p+1+((i+1:Nat):Int)*C)∧(k≤k2∧k2≤k+1+((i+1:Nat):Int)*C):=by
       rw [hmS]; omega
      have wi:V.int .i64 (IntKind.i64.wrap (i+1))=.int .i64 ((i+1:Nat):Int):=by
       rw [wrap64 (by omega) (by omega)]; simp
      by_cases hq:(q:Int) < c
      · have hqL:=mulL q 2 B (by omega) (by omega)
        have hcall:=hcT p2 k2 ik (by omega) (by omega) (by omega) (by omega) hki
        by_cases hk14:k2.tmod 100 < 14
        · have wq:V.int .i64 (IntKind.i64.wrap (q+1))=.int .i64 ((q+1:Nat):Int):=by
           rw [wrap64 (by omega) (by omega)]; simp
          rcases kids2 with _ | ⟨t0,ts⟩
          all_goals
           conv=>whnf
           rw [ltB_t hq]
           conv=>whnf
           refine ⟨by decide,?_⟩
           conv=>whnf
           rw [ltB_t hk14]
           conv=>whnf
           refine ⟨by omega,irows,_,3,rfl,hgi,rfl,rfl,?_⟩
           conv=>whnf
           rw [wd]
           refine ⟨[0,1],false,?_⟩
           conv=>whnf
           refine hcall.mono ?_
           rintro o st' ⟨t,p3,k3,s1,s2,s3,s4,s5,s6,rfl,rfl⟩
           rcases t with ⟨tid,tk,ttx,tks⟩
           conv=>whnf
           refine ⟨by conv=>whnf
                      rfl,?_⟩
           conv=>whnf
           refine ⟨fun m hm=>by rw [List.mem_singleton.1 hm]; rfl,?_⟩
           conv=>whnf
          · refine ⟨by show 1*64≤_; omega,.inr ⟨(by intro e; cases e),?_⟩⟩
            conv=>whnf
            refine ⟨m - 1,by omega,some [0,1,2,3,4,5,7],?_⟩
            conv=>whnf
            exact ⟨q+1,[.mk tid tk ttx tks],p3,k3,tx2,by omega,by simp; omega,by rw [hqS]; simp only [T.sizeL]; omega,by rw [hqS]; omega,by rw [hqS]; omega,d5,⟨by simpa using s1,KN.snoc (kids:=[]) k0 d6.2 (by omega) s2.2.1⟩,⟨rfl,rfl,rfl,rfl,rfl,rfl,rfl,rfl,wq,trivial⟩,rfl⟩
          · refine ⟨by
             show ((T.rows (t0::ts)).length+1)*64≤_
             rw [Go.Cod.rows_len]; omega,?_⟩
            conv=>whnf
            refine ⟨m - 1,by omega,some [0,1,2,3,4,5,8],?_⟩
            conv=>whnf
            refine ⟨q+1,(t0::ts)++[.mk tid tk ttx tks],p3,k3,tx2,by omega,by simp at d1 ⊢; omega,by rw [hqS,T.sizeL_append]; simp only [T.sizeL] at d2 s2 ⊢; omega,by rw [hqS]; omega,by rw [hqS]; omega,d5,⟨small_snoc d6.1 s1,KN.snoc k0 d6.2 (by omega) s2.2.1⟩,⟨rfl,rfl,rfl,rfl,rfl,rfl,rfl,rfl,wq,trivial⟩,?_⟩
            rw [kidsO_snoc]
            rfl
        · cases kids2
          all_goals
           conv=>whnf
           rw [ltB_t hq]
           conv=>whnf
           refine ⟨by decide,?_⟩
           conv=>whnf
           rw [ltB_f (by omega)]
           conv=>whnf
           exact ⟨n - 1,by omega,none,i+1,_,p2,k2,tx2,by omega,by omega,out.2.1,out.2.2.1,out.2.2.2,d5,d6,⟨rfl,rfl,rfl,rfl,rfl,rfl,wi,trivial⟩,rfl⟩
      · cases kids2
        all_goals
         conv=>whnf
         rw [ltB_f (by omega)]
         conv=>whnf
         exact ⟨n - 1,by omega,none,i+1,_,p2,k2,tx2,by omega,by omega,out.2.1,out.2.2.1,out.2.2.2,d5,d6,⟨rfl,rfl,rfl,rfl,rfl,rfl,wi,trivial⟩,rfl⟩
    · cases kids
      all_goals
       conv=>whnf
       rw [hlr,ltB_t (by omega)]
       conv=>whnf
       rw [ltB_f (by omega)]
       conv=>whnf
       refine ⟨[],false,?_⟩
       conv=>whnf
       exact ⟨.mk k kind tx' _,p',k',(fin i _ p' k' tx' (by omega) b1 b2 b3.1 b3.2 b4.1 b4.2 b5 b6).1,(fin i _ p' k' tx' (by omega) b1 b2 b3.1 b3.2 b4.1 b4.2 b5 b6).2.1,by omega,by omega,by omega,by omega,rfl,rfl⟩
  · cases kids
    all_goals
     conv=>whnf
     rw [hlr,ltB_f (by omega)]
     conv=>whnf
     refine ⟨[],false,?_⟩
     conv=>whnf
     exact ⟨.mk k kind tx' _,p',k',(fin i _ p' k' tx' (by omega) b1 b2 b3.1 b3.2 b4.1 b4.2 b5 b6).1,(fin i _ p' k' tx' (by omega) b1 b2 b3.1 b3.2 b4.1 b4.2 b5 b6).2.1,by omega,by omega,by omega,by omega,rfl,rfl⟩
theorem l11Tree_3 (bs:List UInt8) (hb:bs.length≤2000):TreeC bs 3 256:=by
 have h4:=l11Tree_step bs hb 4 1 (by omega) (by omega) (by omega) (fun h=>by omega)
 exact l11Tree_step bs hb 3 16 (by omega) (by omega) (by omega) (fun _=>h4)
theorem l11Tree_1 (bs:List UInt8) (hb:bs.length≤2000):TreeC bs 1 65536:=by
 have h2:=l11Tree_step bs hb 2 256 (by omega) (by omega) (by omega) (fun _=>l11Tree_3 bs hb)
 exact l11Tree_step bs hb 1 4096 (by omega) (by omega) (by omega) (fun _=>h2)
def TreeR1 (bs:List UInt8) (p B:Int) (o:Out) (st':St):Prop:=∃ (t:T) (p':Int),t.Small∧((t.size:Int)≤B∧t.ids.Nodup∧(∀ i∈t.ids,1≤i∧i < 20)∧t.id=1)∧p≤p'∧p'≤p+B∧o=.ret (.agg t.cells)∧st'=[rdO bs p']
theorem l11Doc_full (bs:List UInt8) (hb:bs.length≤2000) (p:Int) (p0:0≤p) (p1:p+65536≤1073741824):Full Try.prog noY 56 [.ptr 0 0 0] [rdO bs p] (TreeR1 bs p 65536):=by
 have h:=l11Tree_1 bs hb p 1 kDoc p0 p1 (by omega) (by omega) (by decide)
 refine full_of_awp good Try.func56 rfl (by kernel_rfl) (by decide) ?_
 conv=>whnf
 refine ⟨[0,2],false,?_⟩
 conv=>whnf
 refine h.mono ?_
 rintro o st' ⟨t,p',k',s1,s2,s3,s4,s5,s6,rfl,rfl⟩
 rcases t with ⟨tid,tk,ttx,tks⟩
 conv=>whnf
 refine ⟨[],false,?_⟩
 conv=>whnf
 exact ⟨.mk tid tk ttx tks,p',s1,⟨s2.1,s2.2.1.ones.1,s2.2.1.ones.2,s2.2.2⟩,s3,s4,rfl,rfl⟩
end Go.Cod
namespace Go.Cod
open Go Go.Proofs
set_option maxRecDepth 10000
def kindsW:List (List UInt8):=[kDoc,kSec,kPar,kTitle,[120]]
theorem kindsW_len (kind:List UInt8) (h:kind∈kindsW):kind.length≤1048576:=by
 simp only [kindsW,List.mem_cons,List.not_mem_nil,or_false] at h
 rcases h with rfl | rfl | rfl | rfl | rfl <;> decide
def WildC (bs:List UInt8) (d B:Int):Prop:=∀ (p k:Int),0≤p→p+B≤1073741824→0≤k→k+B≤1073741824 →
 Full Try.prog noY 57 [.ptr 0 0 0,.int .i64 d,.ptr 1 0 0] [rdO bs p,nxO k] (TreeR bs p k B)
def WildJ (bs:List UInt8) (d p k B:Int) (kd tx:List UInt8) (n:Nat) (fr:Nat→V) (st:St):Prop:=∃ (kids:List T) (p' k':Int),kids.length+n≤3∧(T.sizeL kids:Int)+n*B≤3*B∧(p≤p'∧p'+n*B≤p+3+3*B)∧(k≤k'∧k'+n*B≤k+1+3*B)∧((∀ t∈kids,t.Small)∧KN (T.idsL kids) (k+1) k k') ∧
 Holds fr [(0,.ptr 0 0 0),(1,.int .i64 d),(2,.ptr 1 0 0),(6,.ptr 2 0 0),(7,.ptr 3 0 0),(8,.int .i64 n)] ∧
 st=[rdO bs p',nxO k',bxO zrow 4,bxO [.int .i64 k,.str kd,.str tx,kidsV kids 4] 4]++kidsO kids
set_option maxHeartbeats 8000000 in
theorem l11Wild_step (bs:List UInt8) (hb:bs.length≤2000) (d B:Int) (hB:1≤B) (hB':B≤65536) (hd:0≤d∧d≤1000) (hT:d < 6→WildC bs (d+1) B):WildC bs d (8*B):=by
 intro p k p0 p1 k0 k1
 have hof:=of_full bs p kindsW hb p0 (by omega) (by decide) (by decide)
 have ht:=l11Text_full bs (p+1) hb (by omega) (by omega)
 have hp4:=pick_full bs (p+1+1) 4 hb (by omega) (by omega)
 have mulS:∀ (i:Nat) (X:Int),((i+1:Nat):Int)*X=i*X+X:=fun i X=>by
  rw [Int.natCast_add,Int.add_mul]; simp
 have mulL:∀ (i n:Nat) (X:Int),0≤X→i≤n→(i:Int)*X≤n*X:=fun i n X hX h=>Int.mul_le_mul_of_nonneg_right (by omega) hX
 have mul0:∀ (i:Nat) (X:Int),0≤X→0≤(i:Int)*X:=fun i X hX=>Int.mul_nonneg (by omega) hX
 have wd:IntKind.i64.wrap (d+1)=d+1:=wrap64 (by omega) (by omega)
 have w1:IntKind.i64.wrap (k+1)=k+1:=wrap64 (by omega) (by omega)
 have fin:∀ (m:Nat) (kids:List T) (p' k':Int) (kd tx:List UInt8),kids.length+m≤3→(T.sizeL kids:Int)+m*B≤3*B→p≤p'→p'+m*B≤p+3+3*B→k≤k'→k'+m*B≤k+1+3*B→kd.length≤1048576→tx.length≤12→((∀ t∈kids,t.Small)∧KN (T.idsL kids) (k+1) k k') →
  (T.mk k kd tx kids).Small∧(((T.mk k kd tx kids).size:Int)≤8*B∧KN (T.mk k kd tx kids).ids k k k'∧(T.mk k kd tx kids).id=k)∧p≤p'∧p'≤p+8*B∧k≤k'∧k'≤k+8*B:=by
  intro m kids p' k' kd tx g1 g2 g3 g4 g5 g6 g7 g8 g9
  have:=mul0 m B (by omega)
  refine ⟨.mk (by omega) g7 (by omega) (by omega) g9.1,⟨?_,g9.2.node,rfl⟩,g3,?_,g5,?_⟩
  · simp only [T.size]; omega
  · omega
  · omega
 refine full_of_awp good Try.func57 rfl (by kernel_rfl) (by decide) ?_
 conv=>whnf
 repeat' (first
  | (refine ⟨[0],false,?_⟩
     conv=>whnf
     first
      | (refine hof.mono ?_
         rintro o st' ⟨kd,hkd,rfl,rfl⟩)
      | (refine ht.mono ?_
         rintro o st' ⟨tx,htx,rfl,rfl⟩)
     conv=>whnf
     refine ⟨by conv=>whnf
                rfl,?_⟩
     conv=>whnf)
  | (refine And.intro ?_ ?_ <;> (conv=>whnf)))
 all_goals
  rw [w1]
  have hkl:=kindsW_len kd hkd
  refine ⟨[0],false,?_⟩
  conv=>whnf
  refine hp4.mono ?_
  rintro o st' ⟨c,c0,c1,rfl,rfl⟩
  have c1:=c1 (by omega)
  have hcB:=mulL c.toNat 3 B (by omega) (by omega)
  have hcc:V.int .i64 c=.int .i64 (c.toNat:Int):=by rw [Int.toNat_of_nonneg c0]
  conv=>whnf
  first
   | refine loop_drop (WildJ bs d p k B kd tx) c.toNat (some [0,1,2,3]) (by
      conv=>whnf
      exact ⟨[],p+1+1+1,k+1,by simp only [List.length_nil]; omega,by simp only [T.sizeL]; omega,by omega,by omega,⟨by simp,KN.nil k⟩,⟨rfl,rfl,rfl,rfl,rfl,hcc,trivial⟩,rfl⟩) ?_
   | refine loop_drop (WildJ bs d p k B kd tx) c.toNat (some [0,1,2,4]) (by
      conv=>whnf
      exact ⟨[],p+1+1+1,k+1,by simp only [List.length_nil]; omega,by simp only [T.sizeL]; omega,by omega,by omega,⟨by simp,KN.nil k⟩,⟨rfl,rfl,rfl,rfl,rfl,hcc,trivial⟩,rfl⟩) ?_
 all_goals
  rintro n fr st ⟨kids,p',k',b1,b2,b3,b4,b6,hh,rfl⟩
  obtain ⟨fr,rfl⟩:=hh.split
  clear hh
  have hfin:=fin n kids p' k' kd tx b1 b2 b3.1 b3.2 b4.1 b4.2 hkl (by omega) b6
  by_cases hn:0 < n
  · obtain ⟨n,rfl⟩:∃ m,n=m+1:=⟨n - 1,by omega⟩
    have hnS:=mulS n B
    have hn0:=mul0 n B (by omega)
    rw [hnS] at b2 b3 b4
    have wn:V.int .i64 (IntKind.i64.wrap (((n+1:Nat):Int) - 1))=.int .i64 (n:Int):=by
     rw [wrap64 (by omega) (by omega)]; congr 1; omega
    by_cases hd6:d < 6
    · have hcall:=hT hd6 p' k' (by omega) (by omega) (by omega) (by omega)
      by_cases hk18:k'.tmod 100 < 18
      · rcases kids with _ | ⟨t0,ts⟩
        all_goals
         conv=>whnf
         rw [ltB_t (by omega)]
         conv=>whnf
         rw [ltB_t hd6]
         conv=>whnf
         refine ⟨by decide,?_⟩
         conv=>whnf
         rw [ltB_t hk18]
         conv=>whnf
         rw [wd]
         refine ⟨[0,1],false,?_⟩
         conv=>whnf
         refine hcall.mono ?_
         rintro o st' ⟨t,p3,k3,s1,s2,s3,s4,s5,s6,rfl,rfl⟩
         rcases t with ⟨tid,tk,ttx,tks⟩
         conv=>whnf
         refine ⟨by conv=>whnf
                    rfl,?_⟩
         conv=>whnf
         refine ⟨fun m hm=>by rw [List.mem_singleton.1 hm]; rfl,?_⟩
         conv=>whnf
        · refine ⟨by show 1*64≤_; omega,.inr ⟨(by intro e; cases e),?_⟩⟩
          conv=>whnf
          refine ⟨n,by omega,some [0,1,2,3,5],?_⟩
          conv=>whnf
          exact ⟨[.mk tid tk ttx tks],p3,k3,by simp at b1 ⊢; omega,by simp only [T.sizeL] at b2 ⊢; omega,by omega,by omega,⟨by simpa using s1,KN.snoc (kids:=[]) k0 b6.2 hk18 s2.2.1⟩,⟨rfl,rfl,rfl,rfl,rfl,wn,trivial⟩,rfl⟩
        · refine ⟨by
           show ((T.rows (t0::ts)).length+1)*64≤_
           rw [Go.Cod.rows_len]; omega,?_⟩
          conv=>whnf
          refine ⟨n,by omega,some [0,1,2,3,6],?_⟩
          conv=>whnf
          refine ⟨(t0::ts)++[.mk tid tk ttx tks],p3,k3,by simp at b1 ⊢; omega,by rw [T.sizeL_append]; simp only [T.sizeL] at b2 s2 ⊢; omega,by omega,by omega,⟨small_snoc b6.1 s1,KN.snoc k0 b6.2 hk18 s2.2.1⟩,⟨rfl,rfl,rfl,rfl,rfl,wn,trivial⟩,?_⟩
          rw [kidsO_snoc]
          rfl
      · cases kids
        all_goals
         conv=>whnf
         rw [ltB_t (by omega)]
         conv=>whnf
         rw [ltB_t hd6]
         conv=>whnf
         refine ⟨by decide,?_⟩
         conv=>whnf
         rw [ltB_f (by omega)]
         conv=>whnf
         refine ⟨[],false,?_⟩
         conv=>whnf
         exact ⟨.mk k kd tx _,p',k',hfin.1,hfin.2.1,by omega,by omega,by omega,by omega,rfl,rfl⟩
    · cases kids
      all_goals
       conv=>whnf
       rw [ltB_t (by omega)]
       conv=>whnf
       rw [ltB_f (by omega)]
       conv=>whnf
       refine ⟨[],false,?_⟩
       conv=>whnf
       exact ⟨.mk k kd tx _,p',k',hfin.1,hfin.2.1,by omega,by omega,by omega,by omega,rfl,rfl⟩
  · cases kids
    all_goals
     conv=>whnf
     rw [ltB_f (by omega)]
     conv=>whnf
     refine ⟨[],false,?_⟩
     conv=>whnf
     exact ⟨.mk k kd tx _,p',k',hfin.1,hfin.2.1,by omega,by omega,by omega,by omega,rfl,rfl⟩
theorem l11Wild_1 (bs:List UInt8) (hb:bs.length≤2000):WildC bs 1 262144:=by
 have h6:=l11Wild_step bs hb 6 1 (by omega) (by omega) (by omega) (fun h=>by omega)
 have h5:=l11Wild_step bs hb 5 8 (by omega) (by omega) (by omega) (fun _=>h6)
 have h4:=l11Wild_step bs hb 4 64 (by omega) (by omega) (by omega) (fun _=>h5)
 have h3:=l11Wild_step bs hb 3 512 (by omega) (by omega) (by omega) (fun _=>h4)
 have h2:=l11Wild_step bs hb 2 4096 (by omega) (by omega) (by omega) (fun _=>h3)
 exact l11Wild_step bs hb 1 32768 (by omega) (by omega) (by omega) (fun _=>h2)
theorem l11AnyTree_full (bs:List UInt8) (hb:bs.length≤2000) (p:Int) (p0:0≤p) (p1:p+262145≤1073741824):Full Try.prog noY 28 [.ptr 0 0 0] [rdO bs p] (TreeR1 bs p 262145):=by
 have hp:=pick_full bs p 2 hb (by omega) (by omega)
 have hd:=l11Doc_full bs hb (p+1) (by omega) (by omega)
 have hw:=l11Wild_1 bs hb (p+1) 1 (by omega) (by omega) (by omega) (by omega)
 refine full_of_awp good Try.func28 rfl (by kernel_rfl) (by decide) ?_
 conv=>whnf
 refine ⟨[0],false,?_⟩
 conv=>whnf
 refine hp.mono ?_
 rintro o st' ⟨c,c0,c1,rfl,rfl⟩
 conv=>whnf
 by_cases hc:c=0
 · rw [eqB_t hc]
   conv=>whnf
   refine ⟨[0],false,?_⟩
   conv=>whnf
   refine hd.mono ?_
   rintro o st' ⟨t,p',s1,s2,s3,s4,rfl,rfl⟩
   rcases t with ⟨tid,tk,ttx,tks⟩
   conv=>whnf
   refine ⟨[],false,?_⟩
   conv=>whnf
   exact ⟨.mk tid tk ttx tks,p',s1,⟨by omega,s2.2⟩,by omega,by omega,rfl,rfl⟩
 · rw [eqB_f hc]
   conv=>whnf
   refine ⟨[0,2],false,?_⟩
   conv=>whnf
   refine hw.mono ?_
   rintro o st' ⟨t,p',k',s1,s2,s3,s4,s5,s6,rfl,rfl⟩
   rcases t with ⟨tid,tk,ttx,tks⟩
   conv=>whnf
   refine ⟨[],false,?_⟩
   conv=>whnf
   exact ⟨.mk tid tk ttx tks,p',s1,⟨by omega,s2.2.1.ones.1,s2.2.1.ones.2,s2.2.2⟩,by omega,by omega,rfl,rfl⟩
end Go.Cod
namespace Go.Cod
open Go Go.Proofs
set_option maxRecDepth 10000
theorem l2Copy_own (t:T) (ht:t.Small) :
 Full Try.prog noY 62 [.agg t.cells] [] (fun o st'=>o=.ret (.agg [.int .i64 t.id,.str t.kind,.str t.text,kidsV t.kids 0])∧st'=kidsO t.kids):=by
 have hT:∀ t'∈t.kids,Pure Try.prog 62 [.agg t'.cells] (·=.agg t'.cells):=fun t' h=>by
  cases ht with
  | mk g1 g2 g3 g4 g5=>exact l2Copy_pure t' (g5 t' h)
 cases ht with
 | @mk id kind text kids g1 g2 g3 g4 g5 =>
 simp only [T.kids,T.id,T.kind,T.text] at hT ⊢
 have hlr:=Go.Cod.rows_len kids
 refine full_of_awp good Try.func62 rfl (by kernel_rfl) (by decide) ?_
 conv=>whnf
 refine loop_drop (fun n fr st=>∃ i:Nat,n+i=kids.length∧Holds fr [(1,.ptr 0 0 0),(2,.ptr 1 0 0),(3,.ptr 2 0 0),(4,.int .i64 i)] ∧
  ((i=0∧st=[⟨[[.int .i64 id,.str kind,.str text,.sl (T.rows kids)]],4,true,true,true,.cell⟩,⟨[zrow],4,true,true,true,.cell⟩,⟨[[.int .i64 id,.str kind,.str text,.nils]],4,true,true,true,.cell⟩]) ∨
   (0 < i∧st=[⟨[[.int .i64 id,.str kind,.str text,.sl (T.rows kids)]],4,true,true,true,.cell⟩,⟨[zrow],4,true,true,true,.cell⟩,⟨[[.int .i64 id,.str kind,.str text,.own 3]],4,true,true,true,.cell⟩,⟨T.rows (kids.take i),4,true,true,false,.cell⟩]))) kids.length none
  ⟨0,rfl,⟨rfl,rfl,rfl,rfl,trivial⟩,.inl ⟨rfl,rfl⟩⟩ ?_
 rintro n fr st ⟨i,hi,hh,hst⟩
 obtain ⟨fr,rfl⟩:=hh.split
 clear hh
 rcases hst with ⟨rfl,rfl⟩ | ⟨hi0,rfl⟩
 · conv=>whnf
   by_cases hlt:0 < kids.length
   · rw [hlr,ltB_t (by omega)]
     conv=>whnf
     refine ⟨by omega,T.rows kids,kids[0].cells,4,rfl,rows_get kids 0 hlt,rfl,Go.Cod.cells_len _,?_⟩
     have hc:=hT kids[0] (List.getElem_mem _)
     have htk:=T.rows_take kids 0 hlt
     generalize kids[0]=t at hc htk
     cases t with
     | mk id' kind' text' kids' =>
     conv=>whnf
     refine ⟨_,.inl hc,?_⟩
     conv=>whnf
     refine ⟨fun m hm=>by rw [List.mem_singleton.1 hm]; rfl,?_⟩
     conv=>whnf
     refine ⟨by show 1*64≤_; omega,.inr ⟨(by intro e; cases e),?_⟩⟩
     conv=>whnf
     refine ⟨n - 1,by omega,some [0,1,2,4],?_⟩
     conv=>whnf
     refine ⟨1,by omega,⟨rfl,rfl,rfl,rfl,trivial⟩,.inr ⟨by omega,?_⟩⟩
     rw [htk]
     rfl
   · rw [hlr,ltB_f (by omega)]
     conv=>whnf
     have:kids=[]:=List.eq_nil_of_length_eq_zero (by omega)
     subst this
     refine ⟨[],true,?_⟩
     conv=>whnf
     exact ⟨rfl,rfl⟩
 · conv=>whnf
   by_cases hlt:i < kids.length
   · rw [hlr,ltB_t (by omega)]
     conv=>whnf
     refine ⟨by omega,T.rows kids,kids[i].cells,4,rfl,rows_get kids i hlt,rfl,Go.Cod.cells_len _,?_⟩
     have hc:=hT kids[i] (List.getElem_mem _)
     have htk:=T.rows_take kids i hlt
     generalize kids[i]=t at hc htk
     cases t with
     | mk id' kind' text' kids' =>
     conv=>whnf
     refine ⟨_,.inl hc,?_⟩
     conv=>whnf
     refine ⟨fun m hm=>by rw [List.mem_singleton.1 hm]; rfl,?_⟩
     conv=>whnf
     refine ⟨by
      show ((T.rows (kids.take i)).length+1)*64≤_
      rw [Go.Cod.rows_len,List.length_take]; omega,?_⟩
     conv=>whnf
     refine ⟨n - 1,by omega,some [0,1,2,5],?_⟩
     conv=>whnf
     refine ⟨i+1,by omega,⟨rfl,rfl,rfl,?_,trivial⟩,.inr ⟨by omega,?_⟩⟩
     · show V.int .i64 (IntKind.i64.wrap (i+1))=_
       rw [wrap64 (by omega) (by omega)]; simp
     · rw [htk]
       rfl
   · rw [hlr,ltB_f (by omega)]
     conv=>whnf
     rw [List.take_of_length_le (by omega)]
     refine ⟨[3],true,?_⟩
     conv=>whnf
     obtain ⟨t0,ts,rfl⟩:∃ t0 ts,kids=t0::ts:=by
      cases kids with
      | nil=>simp at hi; omega
      | cons a b=>exact ⟨a,b,rfl⟩
     exact ⟨rfl,rfl⟩
end Go.Cod
namespace Go.Cod
open Go Go.Proofs
set_option maxRecDepth 10000
def wideN:Nat→List T
 | 0=>[]
 | i+1=>wideN i++[.mk (600+i) [112,97,114] [] []]
def deepN (t:T):Nat→T
 | 0=>t
 | i+1=>.mk (500+i) [120] [] [deepN t i]
inductive SpoilOf:T→T→Prop
 | kid {id:Int} {kind text:List UInt8} {kids:List T} (i:Nat) (h:i < kids.length) (t':T) (hs:SpoilOf kids[i] t'):SpoilOf (.mk id kind text kids) (.mk id kind text (kids.set i t'))
 | id {id:Int} {kind text:List UInt8} {kids:List T} (z:Int) (hz:z=0∨z=-1∨z=999∨z=1000∨z=1):SpoilOf (.mk id kind text kids) (.mk z kind text kids)
 | word {id:Int} {kind text:List UInt8} {kids:List T} (k' x':List UInt8):SpoilOf (.mk id kind text kids) (.mk id k' x' kids)
 | twice {id:Int} {kind text:List UInt8} {kids:List T}:SpoilOf (.mk id kind text kids) (.mk id kind text (kids++[.mk id kind text kids]))
 | deep {t:T}:SpoilOf t (deepN t 6)
 | wide {id:Int} {kind text:List UInt8} {kids:List T}:SpoilOf (.mk id kind text kids) (.mk id kind text (kids++wideN 20))
theorem wide_snoc {xi id:Int} {xk xt kind text:List UInt8} {xs kids:List T} {i:Nat} (h:T.mk xi xk xt xs=.mk id kind text (kids++wideN i)):T.mk xi xk xt (xs++[.mk (600+i) [112,97,114] [] []])=.mk id kind text (kids++wideN (i+1)):=by
 cases h
 simp only [wideN,List.append_assoc]
def SpoilR (bs:List UInt8) (t:T) (p:Int) (o:Out) (st':St):Prop:=∃ (t':T) (p':Int),t'.Small∧((t'.size:Int)≤2*t.size+20∧SpoilOf t t')∧p≤p'∧p'≤p+2*t.size+2∧o=.ret (.agg t'.cells)∧st'=[rdO bs p']
theorem size_pos (t:T):1≤t.size:=by cases t; simp [T.size]; try omega
theorem sizeL_get:∀ (ts:List T) (i:Nat) (h:i < ts.length),ts[i].size≤T.sizeL ts
 | t::ts,0,_=>by simp [T.sizeL]
 | t::ts,i+1,h=>by
   have:=sizeL_get ts i (by simpa using h)
   simp [T.sizeL]; omega
theorem sizeL_set:∀ (ts:List T) (i:Nat) (h:i < ts.length) (t':T),T.sizeL (ts.set i t')+ts[i].size=T.sizeL ts+t'.size
 | t::ts,0,_,t'=>by simp [T.sizeL]; omega
 | t::ts,i+1,h,t'=>by
   have:=sizeL_set ts i (by simpa using h) t'
   simp [T.sizeL]; omega
theorem length_le_sizeL:∀ ts:List T,ts.length≤T.sizeL ts
 | []=>by simp
 | t::ts=>by
   have:=length_le_sizeL ts
   have:=size_pos t
   simp [T.sizeL]; omega
theorem rows_set (ts:List T) (i:Nat) (t':T):T.rows (ts.set i t')=(T.rows ts).set i t'.cells:=by
 rw [T.rows_eq,T.rows_eq,List.map_set]
mutual
theorem softT:∀ t:T,(V.agg t.cells).soft=.agg t.cells
 | .mk id kind text kids=>by
   have h:=softRows kids
   simp only [T.cells,V.soft,V.softL,h]
theorem softRows:∀ ts:List T,V.softLL (T.rows ts)=T.rows ts
 | []=>rfl
 | t::ts=>by
   have h1:=softT t
   simp only [V.soft,V.agg.injEq] at h1
   simp only [T.rows,V.softLL,softRows ts,h1]
end
theorem softLL_append (a b:List (List V)):V.softLL (a++b)=V.softLL a++V.softLL b:=by simp [V.softLL_eq]
def kidsR (kids:List T) (R:List (List V)):List O:=match kids with
 | []=>[]
 | _::_=>[⟨R,4,true,true,false,.cell⟩]
def SpoilN (bs:List UInt8) (t:T) (p:Int) (o:Out) (st':St):Prop:=∃ (t':T) (p':Int),t'.Small∧((t'.size:Int)≤2*t.size+20∧SpoilOf t t')∧p≤p'∧p'≤p+2*t.size+2∧(∃ v,o=.ret v∧v.soft=.agg t'.cells)∧st'=[rdO bs p']
def SpJ (bs:List UInt8) (q:Int) (o1:O) (slot m sz:Nat) (F:Nat→T→Prop) (n:Nat) (fr:Nat→V) (st:St):Prop:=∃ (x:T) (i:Nat) (R:List (List V)),n+i=m∧x.Small∧(x.size≤sz+i∧F i x)∧V.softLL R=T.rows x.kids ∧
 Holds fr [(0,.ptr 0 0 0),(4,.ptr 2 0 0),(5,.ptr 3 0 0),(slot,.int .i64 i)]∧st=[rdO bs q,o1,bxO zrow 4,bxO [.int .i64 x.id,.str x.kind,.str x.text,kidsV x.kids 4] 4]++kidsR x.kids R
set_option maxHeartbeats 8000000 in
theorem spoil_full (bs:List UInt8) (hb:bs.length≤2000) (t:T) (ht:t.Small):∀ p:Int,0≤p→p+2*t.size+2≤1073741824→t.size≤500000 →
 Full Try.prog noY 31 [.ptr 0 0 0,.agg t.cells] [rdO bs p] (SpoilR bs t p):=by
 induction ht with
 | @mk id kind text kids g1 g2 g3 g4 g5 ih =>
 intro p p0 p1 p2
 have hcp:=l2Copy_own (.mk id kind text kids) (.mk g1 g2 g3 g4 g5)
 simp only [T.kids,T.id,T.kind,T.text] at hcp
 have hp2:=pick_full bs p 2 hb p0 (by omega)
 refine Full.soft (R:=SpoilN bs (.mk id kind text kids) p) ?_ ?_
 rotate_left
 · rintro o st' ⟨t',p',h1,h2,h3,h4,⟨v,rfl,hv⟩,rfl⟩
   exact ⟨t',p',h1,h2,h3,h4,by rw [← hv]; rfl,rfl⟩
 refine full_of_awp good Try.func31 rfl (by kernel_rfl) (by decide) ?_
 conv=>whnf
 refine .inr (.inl ⟨[],false,?_⟩)
 conv=>whnf
 refine hcp.mono ?_
 rintro o st' ⟨rfl,rfl⟩
 have hpc:∀ (q n:Int),0≤q→q≤1073741824→Full Try.prog noY 30 [.ptr 0 0 0,.int .i64 n] [rdO bs q] fun o st'=>∃ m:Int,0≤m∧(1≤n→m < n)∧o=.ret (.int .i64 m)∧st'=[rdO bs (q+1)]:=fun q n h0 h1=>pick_full bs q n hb h0 h1
 have hsz:((T.mk id kind text kids).size:Int)=1+T.sizeL kids:=by simp [T.size]
 rw [hsz] at p1
 have hk5:kids.length≤500000:=Nat.le_trans (length_le_sizeL kids) (by simp only [T.size] at p2; omega)
 have hk6:T.sizeL kids≤500000:=by simp only [T.size] at p2; omega
 have five:∀ c:Int,0≤c→c < 5→∃ z:Int,((-9223372036854775808≤z∧z≤9223372036854775807)∧(z=0∨z=-1∨z=999∨z=1000∨z=1))∧[[V.int .i64 0],[.int .i64 (-1)],[.int .i64 999],[.int .i64 1000],[.int .i64 1]][c.toNat]? = some [.int .i64 z]:=fun c h0 h1=>by
  obtain ⟨n,rfl⟩:∃ n:Nat,c=n:=⟨c.toNat,by omega⟩
  have:n < 5:=by omega
  match n,this with
  | 0,_=>exact ⟨0,by omega,rfl⟩
  | 1,_=>exact ⟨-1,by omega,rfl⟩
  | 2,_=>exact ⟨999,by omega,rfl⟩
  | 3,_=>exact ⟨1000,by omega,rfl⟩
  | 4,_=>exact ⟨1,by omega,rfl⟩
 have hmany:=l1Many_pure [116] 13 (by decide) (by decide) (by decide) (by decide)
 have hpure:=l2Copy_pure (.mk id kind text kids) (.mk g1 g2 g3 g4 g5)
 have tail:∀ (kk:List T) (q:Int),kk=kids→p+1≤q→q≤p+2 →
  (∀ (z:Int) (kd tx:List UInt8),(-9223372036854775808≤z∧z≤9223372036854775807)→kd.length≤1048576→tx.length≤1048576→(T.mk z kd tx kk).Small∧((T.mk z kd tx kk).size:Int)≤2*((T.mk id kind text kk).size:Int)+20) ∧
  (∀ x:T,x.Small→(x.size:Int)≤1+T.sizeL kk+20→(x.size:Int)≤2*((T.mk id kind text kk).size:Int)+20)∧q+1≤p+2*((T.mk id kind text kk).size:Int)+2∧q≤p+2*((T.mk id kind text kk).size:Int)+2:=by
  intro kk q hkk h1 h2
  subst hkk
  have:((T.mk id kind text kk).size:Int)=1+T.sizeL kk:=by simp [T.size]
  refine ⟨fun z kd tx q1 q2 q3=>⟨.mk q1 q2 q3 g4 g5,?_⟩,fun x _ hx=>by omega,by omega,by omega⟩
  have:((T.mk z kd tx kk).size:Int)=1+T.sizeL kk:=by simp [T.size]
  omega
 have hsm:=T.Small.mk g1 g2 g3 g4 g5
 cases kids
 case' nil =>
  conv=>whnf
  rw [ltB_f (by simp)]
  conv=>whnf
  refine ⟨[0],false,?_⟩
  conv=>whnf
  refine (hpc p 6 p0 (by omega)).mono ?_
  rintro o st' ⟨c,c0,c1,rfl,rfl⟩
  obtain ⟨tl1,tl2,tl3,tl4⟩:=tail _ (p+1) rfl (by omega) (by omega)
  have q0:0≤p+1∧p+1≤1073741822∧p≤p+1:=by omega
  generalize p+1=q at *
 case' cons k0 ks =>
  conv=>whnf
  rw [ltB_t (by rw [Go.Cod.rows_len]; simp)]
  conv=>whnf
  refine ⟨[0],false,?_⟩
  conv=>whnf
  refine hp2.mono ?_
  rintro o st' ⟨c,c0,c1,rfl,rfl⟩
  conv=>whnf
  by_cases e0:c=0
  · rw [eqB_t e0]
    conv=>whnf
    refine ⟨[0],false,?_⟩
    conv=>whnf
    refine (hpc (p+1) _ (by omega) (by omega)).mono ?_
    rintro o st' ⟨c,c0,c1,rfl,rfl⟩
    have hlr:=Go.Cod.rows_len (k0::ks)
    have hlk:(k0::ks).length=ks.length+1:=rfl
    have c1:=c1 (by rw [hlr,hlk]; omega)
    rw [hlr] at c1
    have hct:c.toNat < (k0::ks).length:=by omega
    have hg:=rows_get (k0::ks) c.toNat hct
    have hki:=ih (k0::ks)[c.toNat] (List.getElem_mem _) (p+1+1) (by omega)
    have hs1:=sizeL_get (k0::ks) c.toNat hct
    have hs2:=sizeL_set (k0::ks) c.toNat hct
    have hs3:=rows_set (k0::ks) c.toNat
    have hs5:∀ t':T,t'.Small→∀ x∈(k0::ks).set c.toNat t',x.Small:=fun t' h x hx=>(List.mem_or_eq_of_mem_set hx).elim (g5 x) (fun e=>e ▸ h)
    have hs6:∀ t':T,((k0::ks).set c.toNat t').length=(k0::ks).length:=fun t'=>List.length_set
    have hsk:∀ t',SpoilOf (k0::ks)[c.toNat] t'→SpoilOf (.mk id kind text (k0::ks)) (.mk id kind text ((k0::ks).set c.toNat t')):=fun t' h=>.kid c.toNat hct t' h
    generalize (k0::ks)[c.toNat]=kt at *
    have hki:=hki (by omega) (by omega)
    rcases kt with ⟨ti,tk,tx,tks⟩
    conv=>whnf
    refine ⟨c0,_,_,4,rfl,hg,rfl,rfl,?_⟩
    conv=>whnf
    refine AtRow_intro _ hg ?_
    conv=>whnf
    refine ⟨[0],false,?_⟩
    conv=>whnf
    refine hki.mono ?_
    rintro o st' ⟨t',p',s1,s2,s3,s4,rfl,rfl⟩
    have hs2:=hs2 t'
    have hs3:=hs3 t'
    have hs5:=hs5 t' s1
    have hs6:=hs6 t'
    have e1s:∀ X,(T.mk id kind text X).size=1+T.sizeL X:=fun X=>by simp [T.size]
    rcases t' with ⟨ti',tk',tx',tks'⟩
    conv=>whnf
    repeat (refine And.intro (by conv=>whnf
                                 first
                                  | rfl
                                  | exact ⟨c0,_,_,4,rfl,hg,rfl,rfl,rfl⟩
                                  | exact AtRow_intro _ hg rfl) ?_
            conv=>whnf)
    refine ⟨c0,_,_,4,rfl,hg,rfl,rfl,?_⟩
    conv=>whnf
    refine AtRow_intro _ hg ?_
    conv=>whnf
    refine ⟨[],false,?_⟩
    conv=>whnf
    refine ⟨.mk id kind text ((k0::ks).set c.toNat (.mk ti' tk' tx' tks')),p',.mk g1 g2 g3 (by rw [hs6]; omega) hs5,⟨by rw [e1s,e1s]; omega,hsk _ s2.2⟩,by omega,by rw [e1s]; omega,⟨_,rfl,?_⟩,rfl⟩
    refine Eq.trans ?_ (softT _)
    show (V.agg [.int .i64 id,.str kind,.str text,.sl ((T.rows (k0::ks)).set c.toNat (T.mk ti' tk' tx' tks').cells)]).soft=_
    rw [← hs3]
    rfl
  rw [eqB_f e0]
  conv=>whnf
  refine ⟨[0],false,?_⟩
  conv=>whnf
  refine (hpc (p+1) 6 (by omega) (by omega)).mono ?_
  rintro o st' ⟨c,c0,c1,rfl,rfl⟩
  obtain ⟨tl1,tl2,tl3,tl4⟩:=tail _ (p+1+1) rfl (by omega) (by omega)
  have q0:0≤p+1+1∧p+1+1≤1073741822∧p≤p+1+1:=by omega
  generalize p+1+1=q at *
 all_goals
  clear tail hsz hp2
  conv=>whnf
  by_cases e0:c=0
  · rw [eqB_t e0]
    conv=>whnf
    refine ⟨[0],false,?_⟩
    conv=>whnf
    refine (hpc q 5 (by omega) (by omega)).mono ?_
    rintro o st' ⟨c,c0,c1,rfl,rfl⟩
    obtain ⟨z,hz,hzg⟩:=five c c0 (c1 (by omega))
    conv=>whnf
    refine ⟨c0,_,_,1,rfl,hzg,rfl,rfl,?_⟩
    conv=>whnf
    refine AtRow_intro _ hzg ?_
    conv=>whnf
    refine ⟨[],false,?_⟩
    conv=>whnf
    exact ⟨.mk z kind text _,q+1,(tl1 z kind text hz.1 g2 g3).1,⟨(tl1 z kind text hz.1 g2 g3).2,.id z hz.2⟩,by omega,tl3,⟨.agg (T.cells (.mk z kind text _)),rfl,softT _⟩,rfl⟩
  rw [eqB_f e0]
  conv=>whnf
  by_cases e1:c=1
  · rw [eqB_t e1]
    conv=>whnf
    refine ⟨[0],false,?_⟩
    conv=>whnf
    refine (of_full bs q [[],[65],[116,111,111,108,111,110,103,110,97,109,101],[120]] hb (by omega) (by omega) (by decide) (by decide)).mono ?_
    rintro o st' ⟨s,hs,rfl,rfl⟩
    have hsl:s.length≤1048576:=by
     simp only [List.mem_cons,List.not_mem_nil,or_false] at hs
     rcases hs with rfl | rfl | rfl | rfl <;> decide
    conv=>whnf
    refine ⟨[],false,?_⟩
    conv=>whnf
    exact ⟨.mk id s text _,q+1,(tl1 id s text g1 hsl g3).1,⟨(tl1 id s text g1 hsl g3).2,.word s text⟩,by omega,tl3,⟨.agg (T.cells (.mk id s text _)),rfl,softT _⟩,rfl⟩
  rw [eqB_f e1]
  conv=>whnf
  by_cases e2:c=2
  · rw [eqB_t e2]
    conv=>whnf
    refine .inl (hmany.mono ?_)
    rintro r ⟨tt,htt,rfl⟩
    conv=>whnf
    refine ⟨[0],false,?_⟩
    conv=>whnf
    refine (of_full bs q [[34],[10],tt] hb (by omega) (by omega) (by simp) (by simp)).mono ?_
    rintro o st' ⟨s,hs,rfl,rfl⟩
    have hsl:s.length≤1048576:=by
     simp only [List.mem_cons,List.not_mem_nil,or_false] at hs
     rcases hs with rfl | rfl | rfl
     · decide
     · decide
     · rw [htt]; decide
    conv=>whnf
    refine ⟨[],false,?_⟩
    conv=>whnf
    exact ⟨.mk id kind s _,q+1,(tl1 id kind s g1 g2 hsl).1,⟨(tl1 id kind s g1 g2 hsl).2,.word kind s⟩,by omega,tl3,⟨.agg (T.cells (.mk id kind s _)),rfl,softT _⟩,rfl⟩
  rw [eqB_f e2]
  conv=>whnf
  by_cases e3:c=3
  · rw [eqB_t e3]
    conv=>whnf
    refine ⟨_,.inl hpure,?_⟩
    conv=>whnf
    refine ⟨fun m hm=>by rw [List.mem_singleton.1 hm]; rfl,?_⟩
    conv=>whnf
    first
     | refine ⟨by show 1*64≤_; omega,.inr ⟨(by intro e; cases e),?_⟩⟩
     | refine ⟨by
        show ((T.rows (_::_)).length+1)*64≤_
        rw [Go.Cod.rows_len]; omega,?_⟩
    conv=>whnf
    refine ⟨[],false,?_⟩
    conv=>whnf
    first
     | exact ⟨.mk id kind text [.mk id kind text []],q,.mk g1 g2 g3 (by simp) (by simpa using hsm),⟨by simp only [T.size,T.sizeL]; omega,.twice (kids:=[])⟩,by omega,tl4,⟨.agg (T.cells (.mk id kind text [.mk id kind text []])),rfl,softT _⟩,rfl⟩
     | (refine ⟨.mk id kind text ((k0::ks)++[.mk id kind text (k0::ks)]),q,.mk g1 g2 g3 (by rw [List.length_append]; simp only [List.length_singleton]; omega) (small_snoc g5 hsm),⟨by simp only [T.size,T.sizeL_append,T.sizeL]; omega,.twice⟩,by omega,tl4,⟨_,rfl,?_⟩,rfl⟩
        refine Eq.trans ?_ (softT _)
        show (V.agg [.int .i64 id,.str kind,.str text,.sl (T.rows (k0::ks)++[(T.mk id kind text (k0::ks)).cells])]).soft=_
        rw [← T.rows_snoc]
        rfl)
  rw [eqB_f e3]
  conv=>whnf
  by_cases e4:c=4
  · rw [eqB_t e4]
    conv=>whnf
    first
     | refine loop_drop (SpJ bs q _ 7 6 (1+T.sizeL []) (fun i x=>x=deepN (.mk id kind text []) i)) 6 (some [0,1,2,3]) (by
        conv=>whnf
        exact ⟨.mk id kind text _,0,_,rfl,hsm,⟨by simp only [T.size]; omega,rfl⟩,softRows _,⟨rfl,rfl,rfl,rfl,trivial⟩,rfl⟩) ?_
     | refine loop_drop (SpJ bs q _ 7 6 (1+T.sizeL (k0::ks)) (fun i x=>x=deepN (.mk id kind text (k0::ks)) i)) 6 (some [0,1,2,4,3]) (by
        conv=>whnf
        exact ⟨.mk id kind text _,0,_,rfl,hsm,⟨by simp only [T.size]; omega,rfl⟩,softRows _,⟨rfl,rfl,rfl,rfl,trivial⟩,rfl⟩) ?_
    rintro n fr st ⟨x,i,R,hi,x1,⟨x2,xF⟩,hR,hh,rfl⟩
    obtain ⟨fr,rfl⟩:=hh.split
    clear hh
    have x3:=tl2 x x1
    rcases x with ⟨xi,xk,xt,xs⟩
    simp only [T.id,T.kind,T.text,T.kids] at hR ⊢
    have x4:=x1
    cases x4 with
    | mk y1 y2 y3 y4 y5 =>
    by_cases hlt:i < 6
    · have w1:IntKind.i64.wrap (500+(i:Int))=500+(i:Int):=wrap64 (by omega) (by omega)
      have w2:V.int .i64 (IntKind.i64.wrap ((i:Int)+1))=.int .i64 ((i+1:Nat):Int):=by
       rw [wrap64 (by omega) (by omega)]; rfl
      rcases xs with _ | ⟨x0,xs⟩
      all_goals
       conv=>whnf
       rw [ltB_t (by omega)]
       conv=>whnf
      · refine ⟨n - 1,by omega,some [0,1,2,3,4],?_⟩
        conv=>whnf
        refine ⟨.mk (500+i) [120] [] [.mk xi xk xt []],i+1,_,by omega,.mk (by omega) (by simp) (by simp) (by simp) (by simpa using x1),⟨by simp only [T.size,T.sizeL] at x2 ⊢; omega,by rw [xF]; rfl⟩,(rfl:V.softLL [[.int .i64 xi,.str xk,.str xt,.nils]]=_),⟨rfl,rfl,rfl,w2,trivial⟩,?_⟩
        rw [w1]; rfl
      · refine ⟨n - 1,by omega,some [0,1,2,3,5],?_⟩
        conv=>whnf
        refine ⟨.mk (500+i) [120] [] [.mk xi xk xt (x0::xs)],i+1,[[.int .i64 xi,.str xk,.str xt,.sl R]],by omega,.mk (by omega) (by simp) (by simp) (by simp) (by simpa using x1),⟨by simp only [T.size,T.sizeL] at x2 ⊢; omega,by rw [xF]; rfl⟩,by show [[V.int .i64 xi,.str xk,.str xt,.sl (V.softLL R)]]=_; rw [hR]; rfl,⟨rfl,rfl,rfl,w2,trivial⟩,?_⟩
        rw [w1]; rfl
    · rcases xs with _ | ⟨x0,xs⟩
      all_goals
       conv=>whnf
       rw [ltB_f (by omega)]
       conv=>whnf
       refine ⟨[],false,?_⟩
       conv=>whnf
       first
        | exact ⟨.mk xi xk xt [],q,x1,⟨x3 (by omega),by (obtain rfl:i=6:=by omega); rw [xF]; exact .deep⟩,by omega,tl4,⟨_,rfl,rfl⟩,rfl⟩
        | exact ⟨.mk xi xk xt (x0::xs),q,x1,⟨x3 (by omega),by (obtain rfl:i=6:=by omega); rw [xF]; exact .deep⟩,by omega,tl4,⟨.agg [.int .i64 xi,.str xk,.str xt,.sl R],rfl,by show V.agg [.int .i64 xi,.str xk,.str xt,.sl (V.softLL R)]=_; rw [hR]; rfl⟩,rfl⟩
  rw [eqB_f e4]
  conv=>whnf
  first
   | refine loop_drop (SpJ bs q _ 8 20 (1+T.sizeL []) (fun i x=>x=.mk id kind text ([]++wideN i))) 20 (some [0,1,2,3]) (by
      conv=>whnf
      exact ⟨.mk id kind text _,0,_,rfl,hsm,⟨by simp only [T.size]; omega,by simp [wideN]⟩,softRows _,⟨rfl,rfl,rfl,rfl,trivial⟩,rfl⟩) ?_
   | refine loop_drop (SpJ bs q _ 8 20 (1+T.sizeL (k0::ks)) (fun i x=>x=.mk id kind text ((k0::ks)++wideN i))) 20 (some [0,1,2,4,3]) (by
      conv=>whnf
      exact ⟨.mk id kind text _,0,_,rfl,hsm,⟨by simp only [T.size]; omega,by simp [wideN]⟩,softRows _,⟨rfl,rfl,rfl,rfl,trivial⟩,rfl⟩) ?_
  rintro n fr st ⟨x,i,R,hi,x1,⟨x2,xF⟩,hR,hh,rfl⟩
  obtain ⟨fr,rfl⟩:=hh.split
  clear hh
  have x3:=tl2 x x1
  have x6:=length_le_sizeL x.kids
  rcases x with ⟨xi,xk,xt,xs⟩
  simp only [T.id,T.kind,T.text,T.kids] at x6 hR ⊢
  have x4:=x1
  cases x4 with
  | mk y1 y2 y3 y4 y5 =>
  by_cases hlt:i < 20
  · have w1:IntKind.i64.wrap (600+(i:Int))=600+(i:Int):=wrap64 (by omega) (by omega)
    have w2:V.int .i64 (IntKind.i64.wrap ((i:Int)+1))=.int .i64 ((i+1:Nat):Int):=by
     rw [wrap64 (by omega) (by omega)]; rfl
    have hsn:(T.mk (600+i) [112,97,114] [] []).Small:=.mk (by omega) (by simp) (by simp) (by simp) (by simp)
    rcases xs with _ | ⟨x0,xs⟩
    all_goals
     conv=>whnf
     rw [ltB_t (by omega)]
     conv=>whnf
     rw [w1]
     refine ⟨fun m hm=>by rw [List.mem_singleton.1 hm]; rfl,?_⟩
     conv=>whnf
    · refine ⟨by show 1*64≤_; omega,.inr ⟨(by intro e; cases e),?_⟩⟩
      conv=>whnf
      refine ⟨n - 1,by omega,some [0,1,2,3,5],?_⟩
      conv=>whnf
      exact ⟨.mk xi xk xt [.mk (600+i) [112,97,114] [] []],i+1,[[.int .i64 (600+i),.str [112,97,114],.str [],.nils]],by omega,.mk y1 y2 y3 (by simp) (by simpa using hsn),⟨by simp only [T.size,T.sizeL] at x2 ⊢; omega,wide_snoc xF⟩,rfl,⟨rfl,rfl,rfl,w2,trivial⟩,rfl⟩
    · refine ⟨by
       show (R.length+1)*64≤_
       have hRl:R.length=(x0::xs).length:=by
        have:=congrArg List.length hR
        rwa [V.softLL_eq,List.length_map,Go.Cod.rows_len] at this
       rw [hRl]; omega,?_⟩
      conv=>whnf
      refine ⟨n - 1,by omega,some [0,1,2,3,6],?_⟩
      conv=>whnf
      refine ⟨.mk xi xk xt ((x0::xs)++[.mk (600+i) [112,97,114] [] []]),i+1,R++[[.int .i64 (600+i),.str [112,97,114],.str [],.nils]],by omega,.mk y1 y2 y3 (by rw [List.length_append]; simp only [T.size] at x2; simp only [List.length_singleton]; omega) (small_snoc y5 hsn),⟨by simp only [T.size,T.sizeL_append] at x2 ⊢; simp only [T.sizeL,T.size] at x2 ⊢; omega,wide_snoc xF⟩,by rw [softLL_append,hR]; simp only [T.kids]; rw [T.rows_snoc]; rfl,⟨rfl,rfl,rfl,w2,trivial⟩,rfl⟩
  · rcases xs with _ | ⟨x0,xs⟩
    all_goals
     conv=>whnf
     rw [ltB_f (by omega)]
     conv=>whnf
     refine ⟨[],false,?_⟩
     conv=>whnf
     first
      | exact ⟨.mk xi xk xt [],q,x1,⟨x3 (by omega),by (obtain rfl:i=20:=by omega); rw [xF]; exact .wide⟩,by omega,tl4,⟨_,rfl,rfl⟩,rfl⟩
      | exact ⟨.mk xi xk xt (x0::xs),q,x1,⟨x3 (by omega),by (obtain rfl:i=20:=by omega); rw [xF]; exact .wide⟩,by omega,tl4,⟨.agg [.int .i64 xi,.str xk,.str xt,.sl R],rfl,by show V.agg [.int .i64 xi,.str xk,.str xt,.sl (V.softLL R)]=_; rw [hR]; rfl⟩,rfl⟩
end Go.Cod
namespace Go.Cod
open Go Go.Proofs
set_option maxRecDepth 10000
theorem l1Open_full (bs:List UInt8) (hb:bs.length≤1048576):Full Try.prog noY 27 [.sl (brows bs)] [] fun o st'=>o=.ret (.ptr 0 0 0)∧∃ bs':List UInt8,bs'.length≤2000∧st'=[rdO bs' 0]:=by
 have hl:=brows_len bs
 have h1:∀ r∈brows bs,r.length=1:=fun r h=>by
  obtain ⟨b,_,rfl⟩:=List.mem_map.1 h; rfl
 have h2:((brows bs).take 2000).drop 0=brows (bs.take 2000):=by rw [brows,brows,List.map_take]; rfl
 refine full_of_awp good Try.func27 rfl (by kernel_rfl) (by decide) ?_
 generalize hR:brows bs=R at *
 conv=>whnf
 by_cases a:2000 < R.length
 · rw [ltB_t (by omega)]
   conv=>whnf
   refine ⟨h1,by omega,by show 2000≤_; omega,?_⟩
   conv=>whnf
   refine ⟨[0],false,?_⟩
   conv=>whnf
   refine ⟨rfl,bs.take 2000,by rw [List.length_take]; omega,?_⟩
   show [(⟨[[.sl ((R.take 2000).drop 0),.int .i64 0]],2,true,true,true,.cell⟩:O)]=_
   rw [h2]; rfl
 · rw [ltB_f (by omega)]
   conv=>whnf
   refine ⟨[0],false,?_⟩
   conv=>whnf
   refine ⟨rfl,bs,by omega,?_⟩
   rw [rdO,hR]; rfl
def Drawn (t:T):Prop:=∃ t0:T,t0.ids.Nodup∧(∀ i∈t0.ids,1≤i∧i < 20)∧t0.id=1∧(t.size:Int)≤2*t0.size+20∧(t=t0∨SpoilOf t0 t)
end Go.Cod
namespace Go.Cod
open Go Go.Proofs Go.ChangeShapes Go.WideShapes Go.ChangeAt Go.RowKit
set_option maxRecDepth 10000
theorem wcTree_pure1 (t:T) (ht:t.Small) (hT:∀ t'∈t.kids,Pure Try.prog 14 [.agg t'.cells,.agg t'.cells] (·=.bool true)):Pure Try.prog 14 [.agg t.cells,.agg t.cells] (·=.bool true):=by
 cases ht with
 | @mk id kind text kids g1 g2 g3 g4 g5 =>
 simp only [T.kids] at hT
 have hlr:=rows_len kids
 refine pure_of_awp good Try.func14 rfl (by kernel_rfl) (by decide) ?_
 conv=>whnf
 rw [eqB_refl]
 conv=>whnf
 rw [eqS_refl]
 conv=>whnf
 rw [eqS_refl]
 conv=>whnf
 rw [eqB_refl]
 conv=>whnf
 refine loop_intro (fun n fr st=>∃ i:Nat,n+i=kids.length∧st=[⟨[[.int .i64 id,.str kind,.str text,.sl (T.rows kids)]],4,true,true,true,.cell⟩,⟨[[.int .i64 id,.str kind,.str text,.sl (T.rows kids)]],4,true,true,true,.cell⟩]∧Holds fr [(2,.ptr 0 0 0),(3,.ptr 1 0 0),(5,.int .i64 i)]) kids.length
  ⟨0,rfl,rfl,rfl,rfl,rfl,trivial⟩ ?_
 rintro n fr st ⟨i,hi,rfl,hh⟩
 obtain ⟨fr,rfl⟩:=hh.split
 clear hh
 conv=>whnf
 by_cases hlt:i < kids.length
 · rw [ltB_t (by omega)]
   conv=>whnf
   refine ⟨by omega,T.rows kids,kids[i].cells,4,rfl,rows_get kids i hlt,rfl,cells_len _,?_⟩
   have hc:=hT kids[i] (List.getElem_mem _)
   have hmg:=rows_get kids i hlt
   generalize kids[i]=t at hc hmg
   cases t with
   | mk id' kind' text' kids' =>
   conv=>whnf
   refine ⟨by omega,T.rows kids,_,4,rfl,hmg,rfl,rfl,?_⟩
   conv=>whnf
   refine ⟨_,.inl hc,?_⟩
   conv=>whnf
   refine ⟨n - 1,by omega,i+1,by omega,rfl,rfl,rfl,?_,trivial⟩
   · show V.int .i64 (IntKind.i64.wrap (i+1))=_
     rw [wrap64 (by omega) (by omega)]; simp
 · rw [ltB_f (by omega)]
   conv=>whnf
theorem wcTree_refl (t:T) (ht:t.Small):Pure Try.prog 14 [.agg t.cells,.agg t.cells] (·=.bool true):=by
 induction ht with
 | mk g1 g2 g3 g4 g5 ih=>exact wcTree_pure1 _ (.mk g1 g2 g3 g4 g5) ih
end Go.Cod
namespace Go.Cod
open Go Go.Proofs
set_option maxRecDepth 10000
mutual
def T.PutOk (x:Int) (n:Nat):T→Prop
 | .mk id _ _ kids=>if id=x then n≤kids.length else T.PutOkL x n kids
def T.PutOkL (x:Int) (n:Nat):List T→Prop
 | []=>True
 | t::ts=>T.PutOk x n t∧T.PutOkL x n ts
end
theorem T.PutOkL_mem {x:Int} {n:Nat} {ts:List T} (h:T.PutOkL x n ts):∀ t∈ts,T.PutOk x n t:=by
 induction ts with
 | nil=>simp
 | cons t ts ih =>
   intro y hy
   rcases List.mem_cons.1 hy with rfl | hy
   · exact h.1
   · exact ih h.2 y hy
theorem T.mapAtL_len (x:Int) (f:T→T) (ts:List T):(T.mapAtL x f ts).length=ts.length:=by rw [T.mapAtL_eq,List.length_map]
theorem T.mapAtL_rows (x:Int) (f:T→T) (ts:List T) (i:Nat) (h:i < ts.length):T.rows ((T.mapAtL x f ts).take (i+1))=T.rows ((T.mapAtL x f ts).take i)++[(ts[i].mapAt x f).cells]:=by
 rw [T.mapAtL_eq,T.rows_eq,T.rows_eq,List.take_succ_eq_append_getElem (by simpa using h),List.map_append]
 simp
theorem T.rows_put (n:Nat) (y:T) (ts:List T):T.rows (ts.take n++y::ts.drop n)=(T.rows ts).take n++y.cells::(T.rows ts).drop n:=by
 simp only [T.rows_eq,List.map_append,List.map_cons,List.map_take,List.map_drop]
set_option maxHeartbeats 4000000 in
theorem l4Put_at (t:T) (ht:t.Small) (x:Int) (n:Nat) (y:T) (hid:t.id=x) (hn:n≤t.kids.length) :
 Pure Try.prog 83 [.agg t.cells,.int .i64 x,.int .i64 n,.agg y.cells] (·=.agg (putKidT n y t).cells):=by
 cases ht with
 | @mk id kind text kids g1 g2 g3 g4 g5 =>
 cases y with
 | mk yi yk yx yks =>
 simp only [T.id] at hid
 simp only [T.kids] at hn
 subst hid
 have hlr:=Go.Cod.rows_len kids
 have hw:=T.rows_wid kids
 have hput:=T.rows_put n (.mk yi yk yx yks) kids
 refine pure_of_awp good Try.func83 rfl (by kernel_rfl) (by decide) ?_
 conv=>whnf
 rw [eqB_refl]
 conv=>whnf
 refine ⟨hw,by omega,by show n≤(T.rows kids).length; omega,?_⟩
 conv=>whnf
 have hA:(T.rows kids).take (n:Int).toNat=(T.rows kids).take n:=rfl
 have hB:(((T.rows kids).take (T.rows kids).length).drop (n:Int).toNat)=(T.rows kids).drop n:=by rw [List.take_length]; rfl
 have hAl:((T.rows kids).take n).length=n:=by rw [List.length_take]; omega
 have hBl:((T.rows kids).drop n).length=kids.length - n:=by rw [List.length_drop]; omega
 have hBw:∀ r∈(T.rows kids).drop n,r.length=4:=fun r hr=>hw r (List.mem_of_mem_drop hr)
 rw [← hA] at hput hAl
 rw [← hB] at hput hBl hBw
 refine ⟨fun m hm=>hw m (List.mem_of_mem_take hm),by show ((T.rows kids).take (n:Int).toNat).length*64≤_; omega,?_⟩
 generalize (T.rows kids).take (n:Int).toNat=A at *
 cases A with
 | nil =>
   refine .inl ⟨rfl,?_⟩
   conv=>whnf
   refine ⟨fun m hm=>by rw [List.mem_singleton.1 hm]; rfl,?_⟩
   conv=>whnf
   refine ⟨by show 1*64≤_; omega,.inr ⟨(by intro e; cases e),?_⟩⟩
   conv=>whnf
   refine ⟨hw,by omega,by show n≤(T.rows kids).length; omega,?_⟩
   conv=>whnf
   refine ⟨hBw,?_⟩
   conv=>whnf
   refine ⟨by show (1+(((T.rows kids).take (T.rows kids).length).drop (n:Int).toNat).length)*64≤_; omega,?_⟩
   conv=>whnf
   simp only [putKidT,T.cells]
   rw [hput]
   rfl
 | cons a A =>
   refine .inr ⟨by simp,?_⟩
   conv=>whnf
   refine ⟨fun m hm=>by rw [List.mem_singleton.1 hm]; rfl,?_⟩
   conv=>whnf
   refine ⟨by show ((a::A).length+1)*64≤_; omega,?_⟩
   conv=>whnf
   refine ⟨hw,by omega,by show n≤(T.rows kids).length; omega,?_⟩
   conv=>whnf
   refine ⟨hBw,?_⟩
   conv=>whnf
   refine ⟨by
    simp only [List.length_append,List.length_map,List.length_drop,List.length_cons,List.length_nil,List.length_take] at hAl hBl ⊢
    show (A.length+1+(0+1)+_)*64≤_
    omega,?_⟩
   conv=>whnf
   simp only [putKidT,T.cells]
   rw [hput,show ∀ (c:List V) (B:List (List V)),a::A++c::B=(a::A++[c])++B by simp]
   rfl
theorem l4Put_in1 (t:T) (ht:t.Small) (x:Int) (n:Nat) (y:T) (hid:¬ t.id=x) (hT:∀ t'∈t.kids,Pure Try.prog 83 [.agg t'.cells,.int .i64 x,.int .i64 n,.agg y.cells] (·=.agg (t'.mapAt x (putKidT n y)).cells)) :
 Pure Try.prog 83 [.agg t.cells,.int .i64 x,.int .i64 n,.agg y.cells] (·=.agg (t.mapAt x (putKidT n y)).cells):=by
 cases ht with
 | @mk id kind text kids g1 g2 g3 g4 g5 =>
 simp only [T.kids] at hT
 simp only [T.id] at hid
 simp only [T.mapAt,if_neg hid]
 have hlr:=Go.Cod.rows_len kids
 have hrow:=T.mapAtL_rows x (putKidT n y) kids
 have hlen:=T.mapAtL_len x (putKidT n y) kids
 generalize T.mapAtL x (putKidT n y) kids=ks at *
 generalize hf:T.mapAt x (putKidT n y)=f at *
 cases y with
 | mk yi yk yx yks =>
 refine pure_of_awp good Try.func83 rfl (by kernel_rfl) (by decide) ?_
 conv=>whnf
 rw [eqB_f hid]
 conv=>whnf
 refine loop_drop (fun m fr st=>∃ i:Nat,m+i=kids.length ∧
  ((i=0∧Holds fr [(1,.int .i64 x),(2,.int .i64 n),(4,.ptr 0 0 0),(7,.ptr 1 0 0),(8,.ptr 2 0 0),(10,.nils),(11,.int .i64 0)]∧st=[⟨[[.int .i64 id,.str kind,.str text,.sl (T.rows kids)]],4,true,true,true,.cell⟩,⟨[[.int .i64 yi,.str yk,.str yx,.sl (T.rows yks)]],4,true,true,true,.cell⟩,⟨[zrow],4,true,true,true,.cell⟩]) ∨
   (0 < i∧Holds fr [(1,.int .i64 x),(2,.int .i64 n),(4,.ptr 0 0 0),(7,.ptr 1 0 0),(8,.ptr 2 0 0),(10,.own 3),(11,.int .i64 i)]∧st=[⟨[[.int .i64 id,.str kind,.str text,.sl (T.rows kids)]],4,true,true,true,.cell⟩,⟨[[.int .i64 yi,.str yk,.str yx,.sl (T.rows yks)]],4,true,true,true,.cell⟩,⟨[zrow],4,true,true,true,.cell⟩,⟨T.rows (ks.take i),4,true,true,false,.cell⟩]))) kids.length none
  ⟨0,rfl,.inl ⟨rfl,⟨rfl,rfl,rfl,rfl,rfl,rfl,rfl,trivial⟩,rfl⟩⟩ ?_
 rintro m fr st ⟨i,hi,⟨rfl,hh,rfl⟩ | ⟨hi0,hh,rfl⟩⟩
 · obtain ⟨fr,rfl⟩:=hh.split
   clear hh
   conv=>whnf
   by_cases hlt:0 < kids.length
   · rw [hlr,ltB_t (by omega)]
     have hc:=hT kids[0] (List.getElem_mem _)
     have htk:=hrow 0 hlt
     have hg:=Go.Cod.rows_get kids 0 hlt
     generalize kids[0]=t at hc htk hg
     generalize f t=ft at hc htk
     cases t with
     | mk id' kind' text' kids' =>
     cases ft with
     | mk fi fk fx fks =>
     conv=>whnf
     refine ⟨by omega,T.rows kids,_,4,rfl,hg,rfl,rfl,?_⟩
     conv=>whnf
     refine ⟨_,.inl hc,?_⟩
     conv=>whnf
     refine ⟨fun m hm=>by rw [List.mem_singleton.1 hm]; rfl,?_⟩
     conv=>whnf
     refine ⟨by show 1*64≤_; omega,.inr ⟨(by intro e; cases e),?_⟩⟩
     conv=>whnf
     refine ⟨m - 1,by omega,some [0,1,2,4],?_⟩
     conv=>whnf
     refine ⟨1,by omega,.inr ⟨by omega,⟨rfl,rfl,rfl,rfl,rfl,rfl,rfl,trivial⟩,?_⟩⟩
     rw [htk]
     rfl
   · rw [hlr,ltB_f (by omega)]
     conv=>whnf
     have:kids=[]:=List.eq_nil_of_length_eq_zero (by omega)
     subst this
     have:ks=[]:=List.eq_nil_of_length_eq_zero hlen
     subst this
     rfl
 · obtain ⟨fr,rfl⟩:=hh.split
   clear hh
   conv=>whnf
   by_cases hlt:i < kids.length
   · rw [hlr,ltB_t (by omega)]
     have hc:=hT kids[i] (List.getElem_mem _)
     have htk:=hrow i hlt
     have hg:=Go.Cod.rows_get kids i hlt
     generalize kids[i]=t at hc htk hg
     generalize f t=ft at hc htk
     cases t with
     | mk id' kind' text' kids' =>
     cases ft with
     | mk fi fk fx fks =>
     conv=>whnf
     refine ⟨by omega,T.rows kids,_,4,rfl,hg,rfl,rfl,?_⟩
     conv=>whnf
     refine ⟨_,.inl hc,?_⟩
     conv=>whnf
     refine ⟨fun m hm=>by rw [List.mem_singleton.1 hm]; rfl,?_⟩
     conv=>whnf
     refine ⟨by
      show ((T.rows (ks.take i)).length+1)*64≤_
      rw [Go.Cod.rows_len,List.length_take]; omega,?_⟩
     conv=>whnf
     refine ⟨m - 1,by omega,some [0,1,2,5],?_⟩
     conv=>whnf
     refine ⟨i+1,by omega,.inr ⟨by omega,⟨rfl,rfl,rfl,rfl,rfl,rfl,?_,trivial⟩,?_⟩⟩
     · show V.int .i64 (IntKind.i64.wrap (i+1))=_
       rw [wrap64 (by omega) (by omega)]; simp
     · rw [htk]
       rfl
   · rw [hlr,ltB_f (by omega)]
     conv=>whnf
     rw [List.take_of_length_le (by omega)]
     rfl
theorem l4Put_pure (t:T) (ht:t.Small) (x:Int) (n:Nat) (y:T) (hp:t.PutOk x n):Pure Try.prog 83 [.agg t.cells,.int .i64 x,.int .i64 n,.agg y.cells] (·=.agg (t.mapAt x (putKidT n y)).cells):=by
 induction ht with
 | @mk id kind text kids g1 g2 g3 g4 g5 ih =>
   simp only [T.PutOk] at hp
   by_cases hid:id=x
   · rw [if_pos hid] at hp
     have:=l4Put_at (.mk id kind text kids) (.mk g1 g2 g3 g4 g5) x n y hid hp
     simp only [T.mapAt,if_pos hid]
     exact this
   · rw [if_neg hid] at hp
     exact l4Put_in1 _ (.mk g1 g2 g3 g4 g5) x n y hid fun t' h=>ih t' h (T.PutOkL_mem hp t' h)
theorem l4Set_at (t:T) (ht:t.Small) (x:Int) (k w:List UInt8) (hid:t.id=x):Pure Try.prog 85 [.agg t.cells,.int .i64 x,.str k,.str w] (·=.agg (setT k w t).cells):=by
 cases ht with
 | @mk id kind text kids g1 g2 g3 g4 g5 =>
 simp only [T.id] at hid
 subst hid
 refine pure_of_awp good Try.func85 rfl (by kernel_rfl) (by decide) ?_
 conv=>whnf
 rw [eqB_refl]
 conv=>whnf
 rfl
theorem l4Set_in1 (t:T) (ht:t.Small) (x:Int) (k w:List UInt8) (hid:¬ t.id=x) (hT:∀ t'∈t.kids,Pure Try.prog 85 [.agg t'.cells,.int .i64 x,.str k,.str w] (·=.agg (t'.mapAt x (setT k w)).cells)) :
 Pure Try.prog 85 [.agg t.cells,.int .i64 x,.str k,.str w] (·=.agg (t.mapAt x (setT k w)).cells):=by
 cases ht with
 | @mk id kind text kids g1 g2 g3 g4 g5 =>
 simp only [T.kids] at hT
 simp only [T.id] at hid
 simp only [T.mapAt,if_neg hid]
 have hlr:=Go.Cod.rows_len kids
 have hrow:=T.mapAtL_rows x (setT k w) kids
 have hlen:=T.mapAtL_len x (setT k w) kids
 generalize T.mapAtL x (setT k w) kids=ks at *
 generalize hf:T.mapAt x (setT k w)=f at *
 refine pure_of_awp good Try.func85 rfl (by kernel_rfl) (by decide) ?_
 conv=>whnf
 rw [eqB_f hid]
 conv=>whnf
 refine loop_drop (fun m fr st=>∃ i:Nat,m+i=kids.length ∧
  ((i=0∧Holds fr [(1,.int .i64 x),(2,.str k),(3,.str w),(4,.ptr 0 0 0),(8,.ptr 1 0 0),(9,.nils),(10,.int .i64 0)]∧st=[⟨[[.int .i64 id,.str kind,.str text,.sl (T.rows kids)]],4,true,true,true,.cell⟩,⟨[zrow],4,true,true,true,.cell⟩]) ∨
   (0 < i∧Holds fr [(1,.int .i64 x),(2,.str k),(3,.str w),(4,.ptr 0 0 0),(8,.ptr 1 0 0),(9,.own 2),(10,.int .i64 i)]∧st=[⟨[[.int .i64 id,.str kind,.str text,.sl (T.rows kids)]],4,true,true,true,.cell⟩,⟨[zrow],4,true,true,true,.cell⟩,⟨T.rows (ks.take i),4,true,true,false,.cell⟩]))) kids.length none
  ⟨0,rfl,.inl ⟨rfl,⟨rfl,rfl,rfl,rfl,rfl,rfl,rfl,trivial⟩,rfl⟩⟩ ?_
 rintro m fr st ⟨i,hi,⟨rfl,hh,rfl⟩ | ⟨hi0,hh,rfl⟩⟩
 · obtain ⟨fr,rfl⟩:=hh.split
   clear hh
   conv=>whnf
   by_cases hlt:0 < kids.length
   · rw [hlr,ltB_t (by omega)]
     have hc:=hT kids[0] (List.getElem_mem _)
     have htk:=hrow 0 hlt
     have hg:=Go.Cod.rows_get kids 0 hlt
     generalize kids[0]=t at hc htk hg
     generalize f t=ft at hc htk
     cases t with
     | mk id' kind' text' kids' =>
     cases ft with
     | mk fi fk fx fks =>
     conv=>whnf
     refine ⟨by omega,T.rows kids,_,4,rfl,hg,rfl,rfl,?_⟩
     conv=>whnf
     refine .inl (hc.mono ?_)
     rintro r rfl
     conv=>whnf
     refine ⟨fun m hm=>by rw [List.mem_singleton.1 hm]; rfl,?_⟩
     conv=>whnf
     refine ⟨by show 1*64≤_; omega,.inr ⟨(by intro e; cases e),?_⟩⟩
     conv=>whnf
     refine ⟨m - 1,by omega,some [0,1,3],?_⟩
     conv=>whnf
     refine ⟨1,by omega,.inr ⟨by omega,⟨rfl,rfl,rfl,rfl,rfl,rfl,rfl,trivial⟩,?_⟩⟩
     rw [htk]
     rfl
   · rw [hlr,ltB_f (by omega)]
     conv=>whnf
     have:kids=[]:=List.eq_nil_of_length_eq_zero (by omega)
     subst this
     have:ks=[]:=List.eq_nil_of_length_eq_zero hlen
     subst this
     rfl
 · obtain ⟨fr,rfl⟩:=hh.split
   clear hh
   conv=>whnf
   by_cases hlt:i < kids.length
   · rw [hlr,ltB_t (by omega)]
     have hc:=hT kids[i] (List.getElem_mem _)
     have htk:=hrow i hlt
     have hg:=Go.Cod.rows_get kids i hlt
     generalize kids[i]=t at hc htk hg
     generalize f t=ft at hc htk
     cases t with
     | mk id' kind' text' kids' =>
     cases ft with
     | mk fi fk fx fks =>
     conv=>whnf
     refine ⟨by omega,T.rows kids,_,4,rfl,hg,rfl,rfl,?_⟩
     conv=>whnf
     refine .inl (hc.mono ?_)
     rintro r rfl
     conv=>whnf
     refine ⟨fun m hm=>by rw [List.mem_singleton.1 hm]; rfl,?_⟩
     conv=>whnf
     refine ⟨by
      show ((T.rows (ks.take i)).length+1)*64≤_
      rw [Go.Cod.rows_len,List.length_take]; omega,?_⟩
     conv=>whnf
     refine ⟨m - 1,by omega,some [0,1,4],?_⟩
     conv=>whnf
     refine ⟨i+1,by omega,.inr ⟨by omega,⟨rfl,rfl,rfl,rfl,rfl,rfl,?_,trivial⟩,?_⟩⟩
     · show V.int .i64 (IntKind.i64.wrap (i+1))=_
       rw [wrap64 (by omega) (by omega)]; simp
     · rw [htk]
       rfl
   · rw [hlr,ltB_f (by omega)]
     conv=>whnf
     rw [List.take_of_length_le (by omega)]
     rfl
theorem l4Set_pure (t:T) (ht:t.Small) (x:Int) (k w:List UInt8):Pure Try.prog 85 [.agg t.cells,.int .i64 x,.str k,.str w] (·=.agg (t.mapAt x (setT k w)).cells):=by
 induction ht with
 | @mk id kind text kids g1 g2 g3 g4 g5 ih =>
   by_cases hid:id=x
   · have:=l4Set_at (.mk id kind text kids) (.mk g1 g2 g3 g4 g5) x k w hid
     simp only [T.mapAt,if_pos hid]
     exact this
   · exact l4Set_in1 _ (.mk g1 g2 g3 g4 g5) x k w hid ih
end Go.Cod
namespace Go.Cod
open Go Go.Proofs
set_option maxRecDepth 10000
theorem rows_snocT (l:List T) (t:T):T.rows (l++[t])=T.rows l++[t.cells]:=by rw [T.rows_eq,T.rows_eq]; simp
theorem cutL_take (x:Int) (ts:List T) (i:Nat) (h:i < ts.length):T.cutL x (ts.take (i+1))=if ts[i].id=x then T.cutL x (ts.take i) else T.cutL x (ts.take i)++[ts[i].cut x]:=by
 rw [List.take_succ_eq_append_getElem h,T.cutL_append]
 simp only [T.cutL]
 split <;> simp
theorem l4Cut_pure1 (t:T) (ht:t.Small) (x:Int) (hT:∀ t'∈t.kids,Pure Try.prog 84 [.agg t'.cells,.int .i64 x] (·=.agg (t'.cut x).cells)) :
 Pure Try.prog 84 [.agg t.cells,.int .i64 x] (·=.agg (t.cut x).cells):=by
 cases ht with
 | @mk id kind text kids g1 g2 g3 g4 g5 =>
 simp only [T.kids] at hT
 have hlr:=Go.Cod.rows_len kids
 refine pure_of_awp good Try.func84 rfl (by kernel_rfl) (by decide) ?_
 conv=>whnf
 refine loop_drop (fun m fr st=>∃ i:Nat,m+i=kids.length ∧
  ((T.cutL x (kids.take i)=[]∧Holds fr [(1,.int .i64 x),(2,.ptr 0 0 0),(4,.ptr 1 0 0),(5,.nils),(6,.int .i64 i)]∧st=[⟨[[.int .i64 id,.str kind,.str text,.sl (T.rows kids)]],4,true,true,true,.cell⟩,⟨[zrow],4,true,true,true,.cell⟩]) ∨
   (T.cutL x (kids.take i)≠[]∧Holds fr [(1,.int .i64 x),(2,.ptr 0 0 0),(4,.ptr 1 0 0),(5,.own 2),(6,.int .i64 i)]∧st=[⟨[[.int .i64 id,.str kind,.str text,.sl (T.rows kids)]],4,true,true,true,.cell⟩,⟨[zrow],4,true,true,true,.cell⟩,⟨T.rows (T.cutL x (kids.take i)),4,true,true,false,.cell⟩]))) kids.length none
  ⟨0,rfl,.inl ⟨rfl,⟨rfl,rfl,rfl,rfl,rfl,trivial⟩,rfl⟩⟩ ?_
 rintro m fr st ⟨i,hi,⟨he,hh,rfl⟩ | ⟨he,hh,rfl⟩⟩
 · obtain ⟨fr,rfl⟩:=hh.split
   clear hh
   conv=>whnf
   by_cases hlt:i < kids.length
   · rw [hlr,ltB_t (by omega)]
     have hc:=hT kids[i] (List.getElem_mem _)
     have htk:=cutL_take x kids i hlt
     have hg:=Go.Cod.rows_get kids i hlt
     have hle:=T.cutL_len x (kids.take i)
     rw [List.length_take] at hle
     have w1:V.int .i64 (IntKind.i64.wrap (i+1))=.int .i64 ((i+1:Nat):Int):=by rw [wrap64 (by omega) (by omega)]; simp
     generalize kids[i]=t at hc htk hg
     generalize hct:T.cut x t=ft at hc htk
     cases t with
     | mk id' kind' text' kids' =>
     conv=>whnf
     refine ⟨by omega,T.rows kids,_,4,rfl,hg,rfl,rfl,?_⟩
     conv=>whnf
     by_cases hx:id'=x
     · rw [eqB_t hx]
       conv=>whnf
       have htk:T.cutL x (kids.take (i+1))=T.cutL x (kids.take i):=by rw [htk,if_pos (show (T.mk id' kind' text' kids').id=x from hx)]
       refine ⟨m - 1,by omega,none,?_⟩
       conv=>whnf
       refine ⟨i+1,by omega,.inl ⟨by rw [htk]; exact he,⟨rfl,rfl,rfl,rfl,w1,trivial⟩,rfl⟩⟩
     · rw [eqB_f hx]
       conv=>whnf
       have htk:T.cutL x (kids.take (i+1))=T.cutL x (kids.take i)++[ft]:=by rw [htk,if_neg (show ¬ (T.mk id' kind' text' kids').id=x from hx)]
       cases ft with
       | mk fi fk fx fks =>
       refine ⟨by omega,T.rows kids,_,4,rfl,hg,rfl,rfl,?_⟩
       conv=>whnf
       refine .inl (hc.mono ?_)
       rintro r rfl
       conv=>whnf
       refine ⟨fun m hm=>by rw [List.mem_singleton.1 hm]; rfl,?_⟩
       conv=>whnf
       refine ⟨by show 1*64≤_; omega,.inr ⟨(by intro e; cases e),?_⟩⟩
       conv=>whnf
       refine ⟨m - 1,by omega,some [0,1,3],?_⟩
       conv=>whnf
       refine ⟨i+1,by omega,.inr ⟨by rw [htk]; simp,⟨rfl,rfl,rfl,rfl,w1,trivial⟩,?_⟩⟩
       rw [htk,he]
       rfl
   · rw [hlr,ltB_f (by omega)]
     conv=>whnf
     rw [List.take_of_length_le (by omega)] at he
     simp only [T.cut,T.cells]; rw [he]
     rfl
 · obtain ⟨fr,rfl⟩:=hh.split
   clear hh
   conv=>whnf
   by_cases hlt:i < kids.length
   · rw [hlr,ltB_t (by omega)]
     have hc:=hT kids[i] (List.getElem_mem _)
     have htk:=cutL_take x kids i hlt
     have hg:=Go.Cod.rows_get kids i hlt
     have hle:=T.cutL_len x (kids.take i)
     rw [List.length_take] at hle
     have w1:V.int .i64 (IntKind.i64.wrap (i+1))=.int .i64 ((i+1:Nat):Int):=by rw [wrap64 (by omega) (by omega)]; simp
     generalize kids[i]=t at hc htk hg
     generalize hct:T.cut x t=ft at hc htk
     cases t with
     | mk id' kind' text' kids' =>
     conv=>whnf
     refine ⟨by omega,T.rows kids,_,4,rfl,hg,rfl,rfl,?_⟩
     conv=>whnf
     by_cases hx:id'=x
     · rw [eqB_t hx]
       conv=>whnf
       have htk:T.cutL x (kids.take (i+1))=T.cutL x (kids.take i):=by rw [htk,if_pos (show (T.mk id' kind' text' kids').id=x from hx)]
       refine ⟨m - 1,by omega,none,?_⟩
       conv=>whnf
       refine ⟨i+1,by omega,.inr ⟨by rw [htk]; exact he,⟨rfl,rfl,rfl,rfl,w1,trivial⟩,by rw [htk]; rfl⟩⟩
     · rw [eqB_f hx]
       conv=>whnf
       have htk:T.cutL x (kids.take (i+1))=T.cutL x (kids.take i)++[ft]:=by rw [htk,if_neg (show ¬ (T.mk id' kind' text' kids').id=x from hx)]
       cases ft with
       | mk fi fk fx fks =>
       refine ⟨by omega,T.rows kids,_,4,rfl,hg,rfl,rfl,?_⟩
       conv=>whnf
       refine .inl (hc.mono ?_)
       rintro r rfl
       conv=>whnf
       refine ⟨fun m hm=>by rw [List.mem_singleton.1 hm]; rfl,?_⟩
       conv=>whnf
       refine ⟨by
        show ((T.rows (T.cutL x (kids.take i))).length+1)*64≤_
        rw [Go.Cod.rows_len]; omega,?_⟩
       conv=>whnf
       refine ⟨m - 1,by omega,some [0,1,4],?_⟩
       conv=>whnf
       refine ⟨i+1,by omega,.inr ⟨by rw [htk]; simp,⟨rfl,rfl,rfl,rfl,w1,trivial⟩,?_⟩⟩
       rw [htk,rows_snocT]
       rfl
   · rw [hlr,ltB_f (by omega)]
     conv=>whnf
     rw [List.take_of_length_le (by omega)]
     rfl
theorem l4Cut_pure (t:T) (ht:t.Small) (x:Int):Pure Try.prog 84 [.agg t.cells,.int .i64 x] (·=.agg (t.cut x).cells):=by
 induction ht with
 | @mk id kind text kids g1 g2 g3 g4 g5 ih=>exact l4Cut_pure1 _ (.mk g1 g2 g3 g4 g5) x ih
end Go.Cod
namespace Go.Cod
open Go Go.Proofs
set_option maxRecDepth 10000
theorem bareT_none {kind sid at_:Int} {node:T} {text:List UInt8} {b:Bool} (hb:noneT node=b):bareT ⟨kind,sid,at_,node,text⟩=if kind=1 then decide (text=[]) else if kind=2 then b&&decide (text=[])&&decide (at_=0) else b&&decide (at_=0):=by
 unfold bareT
 simp only [hb]
set_option maxHeartbeats 4000000 in
theorem l4Bare_pure (s:Stp):Pure Try.prog 82 [.agg s.cells] (·=.bool (bareT s)):=by
 cases s with
 | mk kind sid at_ node text =>
 cases node with
 | mk nid nk nx nks =>
 have hl:((T.rows nks).length:Int)=(nks.length:Int):=by rw [Go.Cod.rows_len]
 refine pure_of_awp good Try.func82 rfl (by kernel_rfl) (by decide) ?_
 conv=>whnf
 by_cases h1:nid=0
 rotate_left
 rw [eqB_f h1]
 rw [bareT_none (b:=false) (by simp only [noneT]; simp [h1])]
 rotate_right
 rw [eqB_t h1]
 conv=>whnf
 by_cases h2:nk=[]
 rotate_left
 rw [eqS_f h2]
 rw [bareT_none (b:=false) (by simp only [noneT]; simp [h2])]
 rotate_right
 rw [eqS_t h2]
 conv=>whnf
 by_cases h3:nx=[]
 rotate_left
 rw [eqS_f h3]
 rw [bareT_none (b:=false) (by simp only [noneT]; simp [h3])]
 rotate_right
 rw [eqS_t h3]
 conv=>whnf
 by_cases h4:(T.rows nks).length=0
 rotate_left
 rw [eqB_f (show ((T.rows nks).length:Int)≠0 by omega)]
 rw [bareT_none (b:=false) (by simp only [noneT]; simp [h1,h2,h3]; intro e; subst e; exact h4 rfl)]
 rotate_right
 rw [eqB_t (show ((T.rows nks).length:Int)=0 by omega)]
 rw [bareT_none (b:=true) (by simp only [noneT]; simp [h1,h2,h3]; exact List.eq_nil_of_length_eq_zero (by omega))]
 all_goals
  conv=>whnf
  by_cases k1:kind=1
  · rw [eqB_t k1,if_pos k1]
    conv=>whnf
    exact congrArg V.bool (eqS_def _ _)
  · rw [eqB_f k1,if_neg k1]
    conv=>whnf
    by_cases k2:kind=2
    · rw [eqB_t k2,if_pos k2]
      conv=>whnf
      first
       | rfl
       | (by_cases k3:text=[]
          · rw [eqS_t k3]
            conv=>whnf
            refine congrArg V.bool ((eqB_def _ _).trans ?_)
            simp [k3]
          · rw [eqS_f k3]
            conv=>whnf
            simp [k3])
    · rw [eqB_f k2,if_neg k2]
      conv=>whnf
      first
       | rfl
       | (refine congrArg V.bool ((eqB_def _ _).trans ?_)
          simp)
end Go.Cod
namespace Go.Cod
open Go Go.Proofs
set_option maxRecDepth 10000
mutual
theorem T.mapAt_size1 (x:Int) (f:T→T) (m:Nat) (hf:∀ s:T,(f s).size≤s.size+m):∀ t:T,t.ids.Nodup→(t.mapAt x f).size≤t.size+m
 | .mk id kind text kids,hn=>by
   simp only [T.ids,List.nodup_cons] at hn
   simp only [T.mapAt]
   split
   · exact hf _
   · have:=T.mapAtL_size1 x f m hf kids hn.2
     simp only [T.size]; omega
theorem T.mapAtL_size1 (x:Int) (f:T→T) (m:Nat) (hf:∀ s:T,(f s).size≤s.size+m):∀ ts:List T,(T.idsL ts).Nodup→T.sizeL (T.mapAtL x f ts)≤T.sizeL ts+m
 | [],_=>by simp [T.mapAtL,T.sizeL]
 | t::ts,hn=>by
   simp only [T.idsL,List.nodup_append] at hn
   simp only [T.mapAtL,T.sizeL]
   by_cases hx:x∈t.ids
   · rw [T.mapAtL_none x f ts fun h=>hn.2.2 x hx x h rfl]
     have:=T.mapAt_size1 x f m hf t hn.1
     omega
   · rw [T.mapAt_none x f t hx]
     have:=T.mapAtL_size1 x f m hf ts hn.2.1
     omega
end
mutual
theorem putOk_none (x:Int) (n:Nat):∀ t:T,x∉t.ids→t.PutOk x n
 | .mk id kind text kids,h=>by
   simp only [T.ids,List.mem_cons,not_or] at h
   simp only [T.PutOk,if_neg (Ne.symm h.1)]
   exact putOkL_none x n kids h.2
theorem putOkL_none (x:Int) (n:Nat):∀ ts:List T,x∉T.idsL ts→T.PutOkL x n ts
 | [],_=>trivial
 | t::ts,h=>by
   simp only [T.idsL,List.mem_append,not_or] at h
   exact ⟨putOk_none x n t h.1,putOkL_none x n ts h.2⟩
end
mutual
theorem putOk_found (x:Int) (n:Nat):∀ (t s:T),t.ids.Nodup→fT t x=some s→n≤s.kids.length→t.PutOk x n
 | .mk id kind text kids,s,hn,hf,hl=>by
   simp only [T.ids,List.nodup_cons] at hn
   simp only [fT] at hf
   simp only [T.PutOk]
   split
   · rename_i h
     rw [if_pos h,Option.some.injEq] at hf
     subst hf; exact hl
   · rename_i h
     rw [if_neg h] at hf
     exact putOkL_found x n kids s hn.2 hf hl
theorem putOkL_found (x:Int) (n:Nat):∀ (ts:List T) (s:T),(T.idsL ts).Nodup→fL ts x=some s→n≤s.kids.length→T.PutOkL x n ts
 | [],_,_,hf,_=>by simp [fL] at hf
 | t::ts,s,hn,hf,hl=>by
   simp only [T.idsL,List.nodup_append] at hn
   simp only [fL] at hf
   cases h1:fT t x with
   | some s' =>
     rw [h1,Option.some.injEq] at hf
     subst hf
     have hx:x∈t.ids:=by
      refine Decidable.byContradiction fun h=>?_
      rw [(fT_none t x).2 h] at h1; cases h1
     exact ⟨putOk_found x n t s' hn.1 h1 hl,putOkL_none x n ts fun h=>hn.2.2 x hx x h rfl⟩
   | none =>
     rw [h1] at hf
     exact ⟨putOk_none x n t ((fT_none t x).1 h1),putOkL_found x n ts s hn.2.1 hf hl⟩
end
def okO (y:T):Option T:=if okT y=true then some y else none
def doR (t:T):Option T→V
 | some y=>.tup [.agg y.cells,.bool true]
 | none=>.tup [.agg t.cells,.bool false]
theorem okT_size {t:T} (h:okT t=true):t.size≤20:=by
 have:=((okT_iff' t).1 h).2.2
 rwa [T.ids_size] at this
theorem doT_none {t:T} {s:Stp} (h:editT t s=none):doT t s=none:=by unfold doT; rw [h]
theorem doT_some {t y:T} {s:Stp} (h:editT t s=some y):doT t s=okO y:=by unfold doT okO; rw [h]
end Go.Cod
namespace Go.Cod
open Go Go.Proofs
set_option maxRecDepth 10000
theorem okO_some {y z:T} (h:okO y=some z):y=z∧okT y=true:=by
 unfold okO at h
 split at h
 · rename_i h1
   exact ⟨Option.some.inj h,h1⟩
 · cases h
theorem doT_ok {t:T} {s:Stp} {y:T} (h:doT t s=some y):editT t s=some y∧okT y=true:=by
 unfold doT at h
 cases he:editT t s with
 | none=>rw [he] at h; cases h
 | some z =>
   rw [he] at h
   obtain ⟨rfl,h2⟩:=okO_some h
   exact ⟨rfl,h2⟩
theorem editT_small {t:T} {s:Stp} {y:T} (ht:t.Small) (hz:t.size≤1000000) (hs:s.node.Small) (htx:s.text.length≤1048576) (h:editT t s=some y):y.Small:=by
 have hsm:=fun x=>fT_small t s.id ht x
 unfold editT at h
 cases hf:fT t s.id with
 | none=>rw [hf] at h; cases h
 | some x =>
   rw [hf] at h
   have hx:=hsm x hf
   have hxk:x.kind.length≤1048576∧x.text.length≤1048576:=by
    cases hx with
    | mk g1 g2 g3 g4 g5=>exact ⟨g2,g3⟩
   simp only at h
   split at h
   · cases h
   split at h
   · split at h
     · cases h
       exact T.mapAt_small _ _ 1000000 (fun y h1 _ h2=>putKidT_small _ s.node y h1 hs h2) t ht hz
     · cases h
   split at h
   · split at h
     · cases h
     · cases h
       exact (T.cut_small s.id t ht).1
   split at h
   · cases h
     exact T.mapAt_small _ _ 1000000 (fun y h1 _ _=>setT_small _ _ y h1 hxk.1 htx) t ht hz
   split at h
   · cases h
     exact T.mapAt_small _ _ 1000000 (fun y h1 _ _=>setT_small _ _ y h1 htx hxk.2) t ht hz
   · cases h
end Go.Cod
namespace Go.Cod
open Go Go.Proofs
set_option maxRecDepth 10000
theorem insert_nil (es:List (List V)) (row:List V) (hr:row.length=4) :
 Full Try.prog noY 113 [.nils,.int .i64 0,.own 1] [poolO es,⟨[row],4,true,true,false,.cell⟩] fun o st'=>∃ b' c' d,d.box=false∧(∀ e∈es,labOf e≠b')∧o=.ret (.dref b' 1 c')∧st'=[poolO (es++[ent b' c' 4 [row]]),d]:=by
 refine (Full.givenEnd (Full.absorb (R:=fun o st'=>∃ d,d.box=false∧o=.ret (.own 2)∧st'=[poolO es,d,⟨[row],4,true,true,false,.cell⟩]) (R':=fun o st'=>∃ b' c' d,d.box=false∧o=.ret (.dref b' 1 c')∧st'=[poolO (es++[ent b' c' 4 [row]]),d]) ?_ ?_)).mono ?_
 · refine full_of_awp good Try.func113 rfl (by kernel_rfl) (by decide) ?_
   conv=>whnf
   refine ⟨by simp,by omega,by show (0:Nat)≤0; omega,?_⟩
   conv=>whnf
   rw [eqB_f (by simp)]
   conv=>whnf
   rw [eqB_t (by rfl)]
   conv=>whnf
   refine ⟨fun m hm=>by rw [List.mem_singleton.1 hm]; exact hr,?_⟩
   conv=>whnf
   refine ⟨by show 1*64≤_; omega,.inr ⟨(by intro e; cases e),?_⟩⟩
   conv=>whnf
   refine ⟨[2],true,?_⟩
   conv=>whnf
   exact ⟨_,rfl,rfl,rfl⟩
 · rintro o st' ⟨d,hd,rfl,rfl⟩
   refine ⟨_,[poolO es,d],0,es,[row],4,rfl,rfl,rfl,by simp,?_,fun b c=>⟨rfl,b,c,d,hd,rfl,rfl⟩⟩
   intro p hp
   simp only [List.mem_cons,List.not_mem_nil,or_false] at hp
   rcases hp with rfl | rfl
   · rfl
   · exact hd
 · rintro o st' ⟨⟨b',c',d,hd,rfl,rfl⟩,hl⟩
   have hn:=hl.nodup (k:=0) rfl
   refine ⟨b',c',d,hd,fun e he hb=>?_,rfl,rfl⟩
   rw [List.map_append,List.nodup_append] at hn
   exact hn.2.2 _ (List.mem_map_of_mem he) b' (by simp [ent,labOf]) hb
end Go.Cod
namespace Go.Cod
open Go Go.Proofs
set_option maxRecDepth 10000
def hdr (inp:Bool) (p:Nat × Nat) (h:Option (Nat × Nat)):Nat × Nat:=match inp,h with
 | true,some q=>q
 | _,_=>p
theorem insert_to (es:List (List V)) (b n c i:Nat) (rows:List (List V)) (row:List V) (hm:ent b c 4 rows∈es) (hn:rows.length=n) (hi:i≤n) (hmax:n≤1048576) (hrw:∀ r∈rows,r.length=4) (hr:row.length=4) :
 Full Try.prog noY 113 [.dref b n c,.int .i64 (i:Int),.own 1] [poolO es,⟨[row],4,true,true,false,.cell⟩] (InsR b n c i row rows es) :=
 Full.room 0 (insert_nil es row hr).1 fun hrm=>insert_full es b n c i rows row hm hn hi (hn ▸ hrm b c 4 rows hm) hmax hrw hr
theorem insert_any (nh:Option (Nat × Nat)) (nks:List LT) (hwf:nh=none→nks=[]) (es:List (List V)) (hm:∀ e∈rootE nh nks,e∈es) (row:List V) (hr:row.length=4) (i:Nat) (hi:i≤nks.length) (hmax:nks.length≤1048576) :
 Full Try.prog noY 113 [hdV nh nks.length,.int .i64 (i:Int),.own 1] [poolO es,⟨[row],4,true,true,false,.cell⟩] fun o st'=>∃ (inp:Bool) (p:Nat × Nat) (es2:List (List V)) (d:O),d.box=false ∧
  o=.ret (.dref (hdr inp p nh).1 (nks.length+1) (hdr inp p nh).2)∧st'=[poolO es2,d]∧ent (hdr inp p nh).1 (hdr inp p nh).2 4 ((LT.rows nks).take i++row::(LT.rows nks).drop i)∈es2 ∧
  (∀ e∈es,(∀ q,nh=some q→labOf e≠q.1)→e∈es2)∧∀ e∈es,labOf e≠p.1:=by
 rcases nh with _ | ⟨b,c⟩
 · have:=hwf rfl
   subst this
   obtain rfl:i=0:=by simpa using hi
   refine (insert_nil es row hr).mono ?_
   rintro o st' ⟨b',c',d,hd,hf,rfl,rfl⟩
   exact ⟨false,(b',c'),_,d,hd,rfl,rfl,by simp [hdr,LT.rows],fun e he _=>List.mem_append_left _ he,hf⟩
 · obtain ⟨z,hz⟩:=fresh_lab (es.map labOf)
   refine (insert_to es b nks.length c i (LT.rows nks) row (hm _ (by simp [rootE])) (LT.rows_len nks) hi hmax (rows_wid nks) hr).mono ?_
   rintro o st' ⟨b',c',es',d,hd,rfl,rfl,⟨rfl,rfl,rfl⟩ | ⟨hf,rfl⟩⟩
   · exact ⟨true,(z,0),_,d,hd,rfl,rfl,putEnt_mem (rows:=LT.rows nks) (hm (ent _ _ 4 (LT.rows nks)) (by simp [rootE,hdr])),fun e he hl=>putEnt_other he (hl _ rfl),fun e he h=>absurd (hz _ (List.mem_map_of_mem he)) (by rw [h]; simp)⟩
   · exact ⟨false,(b',c'),_,d,hd,rfl,rfl,by simp [hdr],fun e he _=>List.mem_append_left _ he,hf⟩
def putKid (n:Nat) (y:LT) (inp:Bool) (p:Nat × Nat):LT→LT
 | .mk id kind text h kids=>.mk id kind text (some (hdr inp p h)) (kids.take n++y::kids.drop n)
theorem putKid_erase (n:Nat) (y:LT) (inp:Bool) (p:Nat × Nat) (m:LT):(putKid n y inp p m).erase=putKidT n y.erase m.erase:=by
 cases m with
 | mk id kind text h kids=>simp only [putKid,LT.erase,putKidT,LT.eraseL_eq,List.map_append,List.map_cons,List.map_take,List.map_drop]
theorem putKid_wf (n:Nat) (y:LT) (hy:y.Wf) (inp:Bool) (p:Nat × Nat) (m:LT) (hm:m.Wf):(putKid n y inp p m).Wf:=by
 cases m with
 | mk id kind text h kids =>
   simp only [LT.Wf] at hm
   simp only [putKid,LT.Wf]
   refine ⟨by simp,(LT.WfL_iff _).2 fun l hl=>?_⟩
   have hk:=(LT.WfL_iff _).1 hm.2
   rcases List.mem_append.1 hl with h | h
   · exact hk l (List.mem_of_mem_take h)
   · rcases List.mem_cons.1 h with rfl | h
     · exact hy
     · exact hk l (List.mem_of_mem_drop h)
theorem putKid_labs (n:Nat) (y:LT) (hy:y.labs.Nodup) (inp:Bool) (p:Nat × Nat) (hp:p.1∉y.labs) (m:LT) (hm:m.labs.Nodup) (hd:∀ a∈y.labs++[p.1],a∉m.labs) :
 (putKid n y inp p m).labs.Nodup∧∀ a∈(putKid n y inp p m).labs,a∈m.labs∨a∈y.labs++[p.1]:=by
 cases m with
 | mk id kind text h kids =>
   have hkid:LT.labsL kids=LT.labsL (kids.take n)++LT.labsL (kids.drop n):=by rw [← LT.labsL_append,List.take_append_drop]
   have hsub:∀ a∈LT.labsL kids,a∈(LT.mk id kind text h kids).labs:=fun a ha=>by simp only [LT.labs]; exact List.mem_append_left _ ha
   have hq:(hdr inp p h).1∉LT.labsL kids∧(hdr inp p h).1∉y.labs∧((hdr inp p h).1∈(LT.mk id kind text h kids).labs∨(hdr inp p h).1=p.1):=by
    have hpl:p.1∉LT.labsL kids∧p.1∉y.labs∧(p.1∈(LT.mk id kind text h kids).labs∨p.1=p.1):=⟨fun hh=>hd p.1 (by simp) (hsub _ hh),hp,.inr rfl⟩
    rcases h with _ | ⟨b,c⟩
    · cases inp <;> exact hpl
    · cases inp
      · exact hpl
      · simp only [LT.labs,List.nodup_append,List.mem_singleton] at hm
        refine ⟨fun hh=>hm.2.2 _ hh _ rfl rfl,fun hh=>hd b (List.mem_append_left _ hh) (by simp [LT.labs]),.inl (by simp [LT.labs,hdr])⟩
   simp only [putKid,LT.labs,LT.labsL_append,LT.labsL]
   have hkn:(LT.labsL kids).Nodup:=by simp only [LT.labs,List.nodup_append] at hm; exact hm.1
   have hyk:∀ a∈y.labs,a∉LT.labsL kids:=fun a ha hh=>hd a (List.mem_append_left _ ha) (hsub a hh)
   rw [hkid] at hkn hyk hq
   simp only [List.nodup_append,List.mem_append,List.mem_singleton] at hkn hyk hq ⊢
   refine ⟨⟨⟨hkn.1,⟨hy,hkn.2.1,fun a ha b hb e=>?_⟩,fun a ha b hb e=>?_⟩,by simp,fun a ha b hb e=>?_⟩,fun a ha=>?_⟩
   · subst e; exact hyk a ha (.inr hb)
   · subst e
     rcases hb with hb | hb
     · exact hyk a hb (.inl ha)
     · exact hkn.2.2 a ha a hb rfl
   · subst e; subst hb
     rcases ha with ha | ha | ha
     · exact hq.1 (.inl ha)
     · exact hq.2.1 ha
     · exact hq.1 (.inr ha)
   · rcases ha with (ha | ha | ha) | ha
     · exact .inl (.inl (hkid ▸ List.mem_append_left _ ha))
     · exact .inr (.inl ha)
     · exact .inl (.inl (hkid ▸ List.mem_append_right _ ha))
     · subst ha
       rcases hq.2.2 with h1 | h1
       · simp only [LT.labs,List.mem_append] at h1; exact .inl h1
       · exact .inr (.inr h1)
mutual
theorem LT.upd_labs (x:Int) (f:LT→LT) (F:List Nat) (hf:∀ n:LT,n.labs.Nodup→(∀ a∈F,a∉n.labs)→(f n).labs.Nodup∧∀ a∈(f n).labs,a∈n.labs∨a∈F) :
 ∀ (l l':LT),l.upd x f=some l'→l.labs.Nodup→(∀ a∈F,a∉l.labs)→l'.labs.Nodup∧∀ a∈l'.labs,a∈l.labs∨a∈F
 | .mk id kind text h kids,l',e,hn,hF=>by
   simp only [LT.upd] at e
   by_cases hid:id=x
   · rw [if_pos hid,Option.some.injEq] at e
     exact e ▸ hf _ hn hF
   · rw [if_neg hid] at e
     rcases h with _ | ⟨b,c⟩
     · cases e
     · simp only [Option.map_eq_some_iff] at e
       obtain ⟨ks,h1,rfl⟩:=e
       simp only [LT.labs,List.nodup_append,List.mem_append,List.mem_singleton,not_or] at hn hF ⊢
       obtain ⟨h2,h3⟩:=LT.updL_labs x f F hf kids ks h1 hn.1 fun a ha=>(hF a ha).1
       refine ⟨⟨h2,by simp,fun a ha b' hb e=>?_⟩,fun a ha=>?_⟩
       · subst e; subst hb
         rcases h3 a ha with h | h
         · exact hn.2.2 a h a rfl rfl
         · exact (hF a h).2 rfl
       · rcases ha with ha | ha
         · rcases h3 a ha with h | h
           · exact .inl (.inl h)
           · exact .inr h
         · exact .inl (.inr ha)
theorem LT.updL_labs (x:Int) (f:LT→LT) (F:List Nat) (hf:∀ n:LT,n.labs.Nodup→(∀ a∈F,a∉n.labs)→(f n).labs.Nodup∧∀ a∈(f n).labs,a∈n.labs∨a∈F) :
 ∀ (ls ls':List LT),LT.updL x f ls=some ls'→(LT.labsL ls).Nodup→(∀ a∈F,a∉LT.labsL ls)→(LT.labsL ls').Nodup∧∀ a∈LT.labsL ls',a∈LT.labsL ls∨a∈F
 | [],_,e,_,_=>by simp [LT.updL] at e
 | l::ls,ls',e,hn,hF=>by
   simp only [LT.updL] at e
   simp only [LT.labsL,List.nodup_append,List.mem_append,not_or] at hn hF
   cases h1:LT.upd x f l with
   | some l1 =>
     rw [h1,Option.some.injEq] at e
     subst e
     obtain ⟨h2,h3⟩:=LT.upd_labs x f F hf l l1 h1 hn.1 fun a ha=>(hF a ha).1
     simp only [LT.labsL,List.nodup_append,List.mem_append]
     refine ⟨⟨h2,hn.2.1,fun a ha b hb e=>?_⟩,fun a ha=>?_⟩
     · subst e
       rcases h3 a ha with h | h
       · exact hn.2.2 a h a hb rfl
       · exact (hF a h).2 hb
     · rcases ha with ha | ha
       · rcases h3 a ha with h | h
         · exact .inl (.inl h)
         · exact .inr h
       · exact .inl (.inr ha)
   | none =>
     rw [h1] at e
     simp only [Option.map_eq_some_iff] at e
     obtain ⟨ks,h2,rfl⟩:=e
     obtain ⟨h3,h4⟩:=LT.updL_labs x f F hf ls ks h2 hn.2.1 fun a ha=>(hF a ha).2
     simp only [LT.labsL,List.nodup_append,List.mem_append]
     refine ⟨⟨hn.1,h3,fun a ha b hb e=>?_⟩,fun a ha=>?_⟩
     · subst e
       rcases h4 a hb with h | h
       · exact hn.2.2 a ha a h rfl
       · exact (hF a h).1 ha
     · rcases ha with ha | ha
       · exact .inl (.inl ha)
       · rcases h4 a ha with h | h
         · exact .inl (.inr h)
         · exact .inr h
end
def DoR (l:LT) (r:Option T) (o:Out) (st':St):Prop:=match r with
 | none=>o=.ret (.bool false)∧∃ es',st'=[poolO es',boxO l]
 | some y=>∃ l' es',l'.erase=y∧l'.Wf∧(l'.ents.map labOf).Nodup∧o=.ret (.bool true)∧st'=[poolO es',boxO l']∧∀ e∈l'.ents,e∈es'
def putT (t:T) (x at_:Int) (y:T):Option T:=match fT t x with
 | none=>none
 | some s=>if 0≤at_∧at_≤s.kids.length then t.upd x (putKidT at_.toNat y) else none
end Go.Cod
namespace Go.Cod
open Go Go.Proofs
set_option maxRecDepth 10000
theorem put_done (l l' ly:LT) (x:Int) (n:Nat) (inp:Bool) (p:Nat × Nat) (hw:l.Wf) (hyw:ly.Wf) (hu:l.upd x (putKid n ly inp p)=some l') (hn:(l.ents.map labOf).Nodup) (es:List (List V)) (hin:∀ e∈l.ents,e∈es)
 (hl:((es++ly.ents).map labOf).Nodup) (hp:∀ e∈es++ly.ents,labOf e≠p.1):l'.Wf∧(l'.ents.map labOf).Nodup∧T.upd x (putKidT n ly.erase) l.erase=some l'.erase:=by
 refine ⟨LT.upd_wf x _ (fun m hm=>putKid_wf n ly hyw inp p m hm) l l' hw hu,?_,?_⟩
 · obtain ⟨n1,n2,n3⟩:=nodup_app hl
   have hpy:p.1∉ly.labs:=fun h=>by
    rw [← LT.labs_ents] at h
    obtain ⟨e,h1,h2⟩:=List.mem_map.1 h
    exact hp e (List.mem_append_right _ h1) h2
   rw [LT.labs_ents] at hn ⊢
   rw [LT.labs_ents] at n2
   refine (LT.upd_labs x _ (ly.labs++[p.1]) (fun m h1 h2=>putKid_labs n ly n2 inp p hpy m h1 h2) l l' hu hn fun a ha hal=>?_).1
   rw [← LT.labs_ents] at hal
   obtain ⟨e,h1,rfl⟩:=List.mem_map.1 hal
   rcases List.mem_append.1 ha with ha | ha
   · rw [← LT.labs_ents] at ha
     exact n3 e (hin e h1) ha
   · exact hp e (List.mem_append_left _ (hin e h1)) (List.mem_singleton.1 ha)
 · rw [← LT.upd_erase x _ _ (fun m=>putKid_erase n ly inp p m) l hw,hu]; rfl
theorem put_ents (id:Int) (kind text:List UInt8) (h:Option (Nat × Nat)) (kids:List LT) (n:Nat) (ly:LT) (inp:Bool) (p:Nat × Nat) (es es1 es2:List (List V)) (hin:∀ e∈(LT.mk id kind text h kids).ents,e∈es) (hn:((LT.mk id kind text h kids).ents.map labOf).Nodup)
 (hes1:es1=es++ly.ents) (hln:(es1.map labOf).Nodup) (q1:ent (hdr inp p h).1 (hdr inp p h).2 4 ((LT.rows kids).take n++ly.cells::(LT.rows kids).drop n)∈es2) (q2:∀ e∈es1,(∀ q,h=some q→labOf e≠q.1)→e∈es2) :
 ∀ e∈(putKid n ly inp p (.mk id kind text h kids)).ents,e∈es2:=by
 subst hes1
 simp only [LT.ents] at hin hn
 obtain ⟨m1,m2,m3⟩:=nodup_app hn
 obtain ⟨k1,k2,k3⟩:=nodup_app hln
 have hk:∀ e∈LT.entsL kids,e∈es2:=fun e he=>by
  refine q2 e (List.mem_append_left _ (hin e (List.mem_append_left _ he))) fun q hq hl=>m3 e he ?_
  subst hq
  rw [hl]; simp [rootE,ent,labOf]
 have hy:∀ e∈ly.ents,e∈es2:=fun e he=>by
  refine q2 e (List.mem_append_right _ he) fun q hq hl=>?_
  subst hq
  refine k3 (ent q.1 q.2 4 (LT.rows kids)) (hin _ (List.mem_append_right _ (by simp [rootE]))) ?_
  rw [labOf_ent,← hl]
  exact List.mem_map_of_mem he
 intro e he
 simp only [putKid,LT.ents,rootE] at he
 rw [LT.entsL_append] at he
 simp only [LT.entsL,List.mem_append,List.mem_singleton] at he
 have hkid:LT.entsL kids=LT.entsL (kids.take n)++LT.entsL (kids.drop n):=by rw [← LT.entsL_append,List.take_append_drop]
 rw [hkid] at hk
 rcases he with (he | he | he) | he
 · exact hk e (List.mem_append_left _ he)
 · exact hy e he
 · exact hk e (List.mem_append_right _ he)
 · subst he
   rw [show LT.rows (kids.take n++ly::kids.drop n)=(LT.rows kids).take n++ly.cells::(LT.rows kids).drop n by simp only [LT.rows,List.map_append,List.map_cons,List.map_take,List.map_drop]]
   exact q1
theorem put_len (n:Nat) (y:LT) (kids:List LT):(kids.take n++y::kids.drop n).length=kids.length+1:=by
 rw [List.length_append,List.length_cons,List.length_take,List.length_drop]; omega
set_option maxHeartbeats 8000000 in
theorem putDo_root (id:Int) (kind text:List UInt8) (h:Option (Nat × Nat)) (kids:List LT) (hw:(LT.mk id kind text h kids).Wf) (at_:Int) (y:T) (hy:y.Small) (es:List (List V)) (hin:∀ e∈(LT.mk id kind text h kids).ents,e∈es) (hn:((LT.mk id kind text h kids).ents.map labOf).Nodup) (hz:LT.sizeL kids≤1000000) :
 Full Try.prog noY 110 [.agg ([.int .i64 id,.int .i64 at_]++y.cells),.ptr 1 0 0] [poolO es,boxO (.mk id kind text h kids)] (DoR (.mk id kind text h kids) (putT (LT.mk id kind text h kids).erase id at_ y)):=by
 have hc:=treeIn_root (.mk id kind text h kids) hw id es hin (by simp only [LT.kids]; omega)
 have hcp:=(treeCopy_acc y hy es).givenEnd
 have hsr:(LT.mk id kind text h kids).seekR id=.ptr 1 0 0:=by simp only [LT.seekR,if_true]
 rw [hsr] at hc
 have hput:putT (LT.mk id kind text h kids).erase id at_ y=if 0≤at_∧at_≤kids.length then (LT.mk id kind text h kids).erase.upd id (putKidT at_.toNat y) else none:=by
  unfold putT
  simp only [LT.erase,fT,if_true,T.kids,LT.eraseL_len]
 generalize putT (LT.mk id kind text h kids).erase id at_ y=ot at *
 have hlen:=LT.len_sizeL kids
 have hia:=fun es1 h1 row hr i hi=>insert_any h kids (by simp only [LT.Wf] at hw; exact hw.1) es1 h1 row hr i hi (by omega)
 have hupd:∀ f,(LT.mk id kind text h kids).upd id f=some (f (.mk id kind text h kids)):=fun f=>by simp only [LT.upd,if_true]
 cases y with
 | mk yi yk yx yks =>
 refine full_of_awp good Try.func110 rfl (by kernel_rfl) (by decide) ?_
 rcases h with _ | ⟨b,c⟩
 all_goals
  conv=>whnf
  refine ⟨[0,1],true,?_⟩
  conv=>whnf
  refine hc.mono ?_
  rintro o st' ⟨rfl,rfl⟩
  conv=>whnf
  by_cases a0:at_ < 0
  · rw [ltB_t a0]
    conv=>whnf
    refine ⟨[],true,?_⟩
    conv=>whnf
    rw [if_neg (by omega)] at hput
    subst hput
    exact ⟨rfl,es,rfl⟩
  rw [ltB_f (by omega)]
  conv=>whnf
  by_cases a1:(kids.length:Int) < at_
  · first | rw [ltB_t a1] | rw [ltB_t (show ((([]:List (List V)).length:Nat):Int) < at_ by have:=hw.1 rfl; subst this; exact a1)]
    conv=>whnf
    refine ⟨[],true,?_⟩
    conv=>whnf
    rw [if_neg (by omega)] at hput
    subst hput
    exact ⟨rfl,es,rfl⟩
  first | rw [ltB_f (by omega)] | rw [ltB_f (show at_≤((([]:List (List V)).length:Nat):Int) by have:=hw.1 rfl; subst this; simp at a1; simpa using a1)]
  conv=>whnf
  rw [if_pos (by omega)] at hput
  obtain ⟨n,rfl⟩:∃ n:Nat,at_=n:=⟨at_.toNat,by omega⟩
  refine .inr (.inl ⟨[0],true,?_⟩)
  conv=>whnf
  refine hcp.mono ?_
  rintro o st' ⟨⟨ly,y1,y2,rfl,rfl⟩,hl⟩
  have hln:=hl.nodup (k:=0) rfl
  have hia:=hia (es++ly.ents) (fun e he=>List.mem_append_left _ (hin e (by simp only [LT.ents]; exact List.mem_append_right _ he))) ly.cells ly.cells_len n (by omega)
  have hfin:=fun l' inp p hu hp=>put_done _ l' ly id n inp p hw y2 hu hn es hin hln hp
  have hlye:∀ e∈ly.ents,e∈es++ly.ents:=fun e he=>List.mem_append_right _ he
  obtain ⟨es1,hes1⟩:∃ es1,es1=es++ly.ents:=⟨_,rfl⟩
  rw [← hes1] at hia hlye hfin ⊢
  have hst1:∀ e∈es,e∈es1:=fun e he=>hes1 ▸ List.mem_append_left _ he
  have hents:=fun inp p es2=>put_ents id kind text _ kids n ly inp p es es1 es2 hin hn hes1 (by rw [hes1]; exact hln)
  have hlen2:=put_len n ly kids
  cases ly with
  | mk lid lk lx lh lks =>
  rcases lh with _ | ⟨lb,lc⟩
  all_goals
   conv=>whnf
   repeat (refine And.intro (by
            (conv=>whnf)
            rfl) ?_
           conv=>whnf)
   refine ⟨[0,3],true,?_⟩
   conv=>whnf
   refine hia.mono ?_
   rintro o st' ⟨inp,p,es2,⟨de,dw,dl,dx,db,dk⟩,hdb,rfl,rfl,q1,q2,q3⟩
   obtain rfl:db=false:=hdb
   conv=>whnf
   refine ⟨[],true,?_⟩
   conv=>whnf
   have h3:=hfin _ inp p (hupd _) q3
   have h5:=h3.2.2
   rw [y1] at h5
   have hot:=hput.trans h5
   subst hot
   refine ⟨_,es2,rfl,h3.1,h3.2.1,rfl,?_,hents inp p es2 q1 q2⟩
   simp only [boxO,putKid,LT.cells,hdV,hlen2]
   rfl
end Go.Cod
namespace Go.Cod
open Go Go.Proofs
set_option maxRecDepth 10000
def LT.lkids:LT→List LT
 | .mk _ _ _ _ kids=>kids
theorem inj_nodup {α β:Type} {f:α→β}:∀ {l:List α},(l.map f).Nodup→∀ a∈l,∀ b∈l,f a=f b→a=b
 | [],_,a,ha,_,_,_=>by simp at ha
 | x::l,h,a,ha,b,hb,e=>by
   simp only [List.map_cons,List.nodup_cons] at h
   rcases List.mem_cons.1 ha with h1 | h1
   · rcases List.mem_cons.1 hb with h2 | h2
     · rw [h1,h2]
     · exact absurd (by rw [← h1,e]; exact List.mem_map_of_mem h2) h.1
   · rcases List.mem_cons.1 hb with h2 | h2
     · exact absurd (by rw [← h2,← e]; exact List.mem_map_of_mem h1) h.1
     · exact inj_nodup h.2 a h1 b h2 e
theorem ent_one {es:List (List V)} (hn:(es.map labOf).Nodup) {b c c' s:Nat} {r r':List (List V)} (h:ent b c s r∈es) (h':ent b c' s r'∈es):c'=c∧r'=r:=by
 have:ent b c' s r'=ent b c s r:=inj_nodup hn _ h' _ h (by rw [labOf_ent,labOf_ent])
 exact ⟨congrArg capOf this,congrArg rowsOf this⟩
theorem put_deep_end (l ly:LT) (x:Int) (n:Nat) (inp:Bool) (p:Nat × Nat) (hw:l.Wf) (hyw:ly.Wf) (es es1 es2 es3:List (List V)) (hin:∀ e∈l.ents,e∈es) (hn:(l.ents.map labOf).Nodup) (hes1:es1=es++ly.ents) (hln:(es1.map labOf).Nodup)
 (b' i' c':Nat) (hsr:l.seekR x=.dptr b' 4 i' 0) (ks:List LT) (nid:Int) (nk nx:List UInt8) (nh:Option (Nat × Nat)) (nks:List LT) (m:ent b' c' 4 (LT.rows ks)∈l.ents) (g:ks[i']? = some (.mk nid nk nx nh nks)) (hnk:nh=none→nks=[])
 (hnin:∀ e∈(LT.mk nid nk nx nh nks).ents,e∈l.ents) (hnb:b'∉(LT.mk nid nk nx nh nks).ents.map labOf)
 (q1:ent (hdr inp p nh).1 (hdr inp p nh).2 4 ((LT.rows nks).take n++ly.cells::(LT.rows nks).drop n)∈es2) (q2:∀ e∈es1,(∀ q,nh=some q→labOf e≠q.1)→e∈es2) (q3:∀ e∈es1,labOf e≠p.1)
 (hes3:es3=putEnt b' ((LT.rows ks).set i' [.int .i64 nid,.str nk,.str nx,.dref (hdr inp p nh).1 (nks.length+1) (hdr inp p nh).2]) es2) :
 ∃ l':LT,T.upd x (putKidT n ly.erase) l.erase=some l'.erase∧l'.cells=l.cells∧l'.Wf∧(l'.ents.map labOf).Nodup∧∀ e∈l'.ents,e∈es3:=by
 rcases LT.seekR_cases l x (putKid n ly inp p) hw hn with ⟨_,h6,_⟩ | ⟨h6,_⟩ | ⟨b2,i2,l',s2,h6,hu,hcl,hs2,hD2⟩
 · rw [hsr] at h6; cases h6
 · rw [hsr] at h6; cases h6
 rw [hsr] at h6
 cases h6
 have hlnn:=hln
 rw [hes1] at hlnn
 obtain ⟨r1,r2,r3⟩:=put_done l l' ly x n inp p hw hyw hu hn es hin hlnn (by rw [← hes1]; exact q3)
 refine ⟨l',r3,hcl,r1,r2,?_⟩
 obtain ⟨c2,ks2,node2,m2,g2,her2,hid2,hnw2,hnd2,hnin2,hnb2,hall⟩:=hD2
 obtain ⟨rfl,hrk⟩:=ent_one hn m m2
 have hr:(LT.rows ks)[i']? = some (LT.mk nid nk nx nh nks).cells:=by simp only [LT.rows,List.getElem?_map,g,Option.map_some]
 have hr2:(LT.rows ks2)[i']? = some node2.cells:=by simp only [LT.rows,List.getElem?_map,g2,Option.map_some]
 rw [hrk,hr] at hr2
 cases node2 with
 | mk mid mk mx mh mks =>
 simp only [LT.cells,Option.some.injEq,List.cons.injEq,V.int.injEq,V.str.injEq,true_and,and_true] at hr2
 obtain ⟨rfl,rfl,rfl,hh⟩:=hr2
 have hm2k:mh=nh∧mks.length=nks.length∧LT.rows mks=LT.rows nks:=by
  simp only [LT.Wf] at hnw2
  rcases nh with _ | ⟨nb,nc⟩
  · rcases mh with _ | ⟨mb,mc⟩
    · rw [hnw2.1 rfl,hnk rfl]; exact ⟨rfl,rfl,rfl⟩
    · cases hh
  · rcases mh with _ | ⟨mb,mc⟩
    · cases hh
    · simp only [hdV,V.dref.injEq] at hh
      obtain ⟨rfl,h2,rfl⟩:=hh
      refine ⟨rfl,h2.symm,(ent_one (b:=nb) (c:=nc) (c':=nc) (s:=4) hn (hnin _ ?_) (hnin2 _ ?_)).2⟩
      · simp only [LT.ents,rootE]; simp
      · simp only [LT.ents,rootE]; simp
 obtain ⟨hmh,hlk,hrows⟩:=hm2k
 subst hmh
 have hmes:=hin _ m
 have hm1:ent b' c2 4 (LT.rows ks)∈es1:=hes1 ▸ List.mem_append_left _ hmes
 have hroot:∀ q,mh=some q→q.1∈(LT.mk nid nk nx mh mks).ents.map labOf:=fun q hq=>by
  subst hq
  simp only [LT.ents,rootE,List.map_append,List.mem_append]
  exact .inr (by simp [ent,labOf])
 have hm2:ent b' c2 4 (LT.rows ks)∈es2:=q2 _ hm1 fun q hq hb=>hnb2 (by
  rw [labOf_ent] at hb; rw [hb]; exact hroot q hq)
 have hly:b'∉ly.ents.map labOf:=fun hm=>(nodup_app hlnn).2.2 _ hmes (by rw [labOf_ent]; exact hm)
 have hbp:b'≠p.1:=fun h=>q3 _ hm1 (by rw [labOf_ent]; exact h)
 have hlab:b'∉(putKid n ly inp p (.mk nid nk nx mh mks)).ents.map labOf:=fun hm=>by
  rw [LT.labs_ents] at hm hnb2 hnd2 hly
  have hpy:p.1∉ly.labs:=fun h=>by
   rw [← LT.labs_ents] at h
   obtain ⟨e,h1,h2⟩:=List.mem_map.1 h
   exact q3 e (hes1 ▸ List.mem_append_right _ h1) h2
  have hlyn:=(nodup_app hlnn).2.1
  rw [LT.labs_ents] at hlyn
  have:=(putKid_labs n ly hlyn inp p hpy _ hnd2 fun a ha hal=>by
   rw [← LT.labs_ents] at hal
   obtain ⟨e,h1,h2⟩:=List.mem_map.1 hal
   have he1:=hin e (hnin2 e h1)
   rcases List.mem_append.1 ha with ha | ha
   · rw [← LT.labs_ents] at ha
     exact (nodup_app hlnn).2.2 e he1 (h2 ▸ ha)
   · exact q3 e (hes1 ▸ List.mem_append_left _ he1) (by rw [h2]; simpa using ha)).2 b' hm
  rcases this with h | h
  · exact hnb2 h
  · rcases List.mem_append.1 h with h | h
    · exact hly h
    · exact hbp (by simpa using h)
 have hput:=put_ents nid nk nx mh mks n ly inp p es es1 es2 (fun e he=>hin e (hnin2 e he)) hnd2 hes1 hln (by rw [hrows]; exact q1) q2
 refine hall es3 (fun e he=>?_) (fun e he k1 k2=>?_) ?_
 · exact hes3 ▸ putEnt_other (hput e he) fun h=>hlab (h ▸ List.mem_map_of_mem he)
 · refine hes3 ▸ putEnt_other (q2 e (hes1 ▸ List.mem_append_left _ (hin e he)) fun q hq h=>k1 (by rw [h]; exact hroot q hq)) k2
 · rw [hrk]
   have:(putKid n ly inp p (.mk nid nk nx mh mks)).cells=[.int .i64 nid,.str nk,.str nx,.dref (hdr inp p mh).1 (nks.length+1) (hdr inp p mh).2]:=by
    simp only [putKid,LT.cells,hdV,put_len,hlk]
   rw [this]
   exact hes3 ▸ putEnt_mem hm2
set_option maxHeartbeats 8000000 in
theorem putDo_deep (l:LT) (hw:l.Wf) (x at_:Int) (y:T) (hy:y.Small) (es:List (List V)) (hin:∀ e∈l.ents,e∈es) (hn:(l.ents.map labOf).Nodup) (hz:LT.sizeL l.kids≤1000000)
 (b' i':Nat) (hsr:l.seekR x=.dptr b' 4 i' 0) (sx:T) (hsx:fT l.erase x=some sx) (l0:LT) (hD:Deep x _root_.id sx l.ents l0.ents b' i') (hlen:sx.kids.length≤1000000) :
 Full Try.prog noY 110 [.agg ([.int .i64 x,.int .i64 at_]++y.cells),.ptr 1 0 0] [poolO es,boxO l] (DoR l (putT l.erase x at_ y)):=by
 have hc:=treeIn_root l hw x es hin (by omega)
 have hcp:=(treeCopy_acc y hy es).givenEnd
 have hcs:=fun f=>LT.seekR_cases l x f hw hn
 rw [hsr] at hc hcs
 have hput:putT l.erase x at_ y=if 0≤at_∧at_≤sx.kids.length then l.erase.upd x (putKidT at_.toNat y) else none:=by
  unfold putT
  rw [hsx]
 generalize putT l.erase x at_ y=ot at *
 obtain ⟨c',ks,node,m,g,her,hid,hnw,hnd,hnin,hnb,_⟩:=hD
 have hr:(LT.rows ks)[i']? = some node.cells:=by simp only [LT.rows,List.getElem?_map,g,Option.map_some]
 have hsk:sx.kids.length=node.lkids.length:=by rw [← her]; cases node with | mk a b c d e=>simp only [LT.erase,T.kids,LT.eraseL_len,LT.lkids]
 have hmes:=hin _ m
 cases y with
 | mk yi yk yx yks =>
 cases l with
 | mk id kind text h kids =>
 cases node with
 | mk nid nk nx nh nks =>
 simp only [LT.lkids] at hsk
 have hnk:nh=none→nks=[]:=by simp only [LT.Wf] at hnw; exact hnw.1
 have hia:=fun es1 h1 row hr i hi=>insert_any nh nks (by simp only [LT.Wf] at hnw; exact hnw.1) es1 h1 row hr i hi (by omega)
 refine full_of_awp good Try.func110 rfl (by kernel_rfl) (by decide) ?_
 rcases h with _ | ⟨b,c⟩
 · exfalso
   simp only [LT.ents,rootE] at m
   simp only [LT.Wf] at hw
   have:=hw.1 trivial
   subst this
   simp [LT.entsL] at m
 rcases nh with _ | ⟨nb,nc⟩
 all_goals
  conv=>whnf
  refine ⟨[0,1],true,?_⟩
  conv=>whnf
  refine hc.mono ?_
  rintro o st' ⟨rfl,rfl⟩
  conv=>whnf
  by_cases a0:at_ < 0
  · rw [ltB_t a0]
    conv=>whnf
    refine ⟨[],true,?_⟩
    conv=>whnf
    rw [if_neg (by omega)] at hput
    subst hput
    exact ⟨rfl,es,rfl⟩
  rw [ltB_f (by omega)]
  conv=>whnf
  refine ⟨0,c',LT.rows ks,_,hmes,hr,?_⟩
  conv=>whnf
  by_cases a1:(nks.length:Int) < at_
  · first | rw [ltB_t a1] | rw [ltB_t (show ((([]:List (List V)).length:Nat):Int) < at_ by have:=hnk rfl; subst this; exact a1)]
    conv=>whnf
    refine ⟨[],true,?_⟩
    conv=>whnf
    rw [if_neg (by omega)] at hput
    subst hput
    exact ⟨rfl,es,rfl⟩
  first | rw [ltB_f (by omega)] | rw [ltB_f (show at_≤((([]:List (List V)).length:Nat):Int) by have:=hnk rfl; subst this; simp at a1; simpa using a1)]
  conv=>whnf
  refine ⟨0,c',LT.rows ks,_,hmes,hr,?_⟩
  conv=>whnf
  rw [if_pos (by omega)] at hput
  obtain ⟨n,rfl⟩:∃ n:Nat,at_=n:=⟨at_.toNat,by omega⟩
  refine .inr (.inl ⟨[0],true,?_⟩)
  conv=>whnf
  refine hcp.mono ?_
  rintro o st' ⟨⟨ly,y1,y2,rfl,rfl⟩,hl⟩
  have hln:=hl.nodup (k:=0) rfl
  have hia:=hia (es++ly.ents) (fun e he=>List.mem_append_left _ (hin e (hnin e (by simp only [LT.ents]; exact List.mem_append_right _ he)))) ly.cells ly.cells_len n (by omega)
  obtain ⟨es1,hes1⟩:∃ es1,es1=es++ly.ents:=⟨_,rfl⟩
  have hend:=fun inp p es2 es3 q1 q2 q3=>put_deep_end _ ly x n inp p hw y2 es es1 es2 es3 hin hn hes1 (by rw [hes1]; exact hln) b' i' c' hsr ks nid nk nx _ nks m g hnk hnin hnb q1 q2 q3
  rw [← hes1] at hia ⊢
  have hst1:∀ e∈es,e∈es1:=fun e he=>hes1 ▸ List.mem_append_left _ he
  have hm1:=hst1 _ hmes
  cases ly with
  | mk lid lk lx lh lks =>
  rcases lh with _ | ⟨lb,lc⟩
  all_goals
   conv=>whnf
   repeat (refine And.intro (by
            (conv=>whnf)
            first
             | exact ⟨0,c',LT.rows ks,_,hm1,hr,rfl⟩
             | rfl) ?_
           conv=>whnf)
   refine ⟨[0,3],true,?_⟩
   conv=>whnf
   refine hia.mono ?_
   rintro o st' ⟨inp,p,es2,⟨de,dw,dl,dx,db,dk⟩,hdb,rfl,rfl,q1,q2,q3⟩
   obtain rfl:db=false:=hdb
   conv=>whnf
   have hm2:ent b' c' 4 (LT.rows ks)∈es2:=q2 _ hm1 fun q hq hb=>by
    first
     | (cases hq; done)
     | (cases hq
        rw [labOf_ent] at hb
        exact hnb (by rw [hb]; simp only [LT.ents,rootE,List.map_append,List.mem_append]; exact .inr (by simp [ent,labOf])))
   have hE:=hend inp p es2 _ q1 q2 q3 rfl
   generalize hes3:putEnt b' _ es2=es3 at hE
   refine ⟨0,c',LT.rows ks,_,es3,hm2,hr,by rw [← hes3]; rfl,?_⟩
   conv=>whnf
   refine ⟨[],true,?_⟩
   conv=>whnf
   obtain ⟨l',h5,hcl,r1,r2,r4⟩:=hE
   rw [y1] at h5
   have hot:=hput.trans h5
   subst hot
   refine ⟨l',es3,rfl,r1,r2,rfl,?_,r4⟩
   simp only [boxO,hcl]
   rfl
end Go.Cod
namespace Go.Cod
open Go Go.Proofs
set_option maxRecDepth 10000
set_option maxHeartbeats 8000000 in
theorem putDo_none (l:LT) (hw:l.Wf) (x at_:Int) (y:T) (es:List (List V)) (hin:∀ e∈l.ents,e∈es) (hz:LT.sizeL l.kids≤1000000) (hsr:l.seekR x=.raw (.pointer none)) (hno:fT l.erase x=none) :
 Full Try.prog noY 110 [.agg ([.int .i64 x,.int .i64 at_]++y.cells),.ptr 1 0 0] [poolO es,boxO l] (DoR l (putT l.erase x at_ y)):=by
 have hc:=treeIn_root l hw x es hin (by omega)
 rw [hsr] at hc
 have hput:putT l.erase x at_ y=none:=by unfold putT; rw [hno]
 rw [hput]
 cases y with
 | mk yi yk yx yks =>
 cases l with
 | mk id kind text h kids =>
 refine full_of_awp good Try.func110 rfl (by kernel_rfl) (by decide) ?_
 rcases h with _ | ⟨b,c⟩
 all_goals
  conv=>whnf
  refine ⟨[0,1],true,?_⟩
  conv=>whnf
  refine hc.mono ?_
  rintro o st' ⟨rfl,rfl⟩
  conv=>whnf
  refine ⟨[],true,?_⟩
  conv=>whnf
  exact ⟨rfl,es,rfl⟩
theorem fT_kids_len {t:T} {x:Int} {s:T} (h:fT t x=some s):s.kids.length≤t.size:=by
 have h1:=fT_size t x s h
 have h2:∀ ts:List T,ts.length≤T.sizeL ts:=fun ts=>by
  induction ts with
  | nil=>simp
  | cons t ts ih =>
    have:1≤t.size:=by cases t; simp only [T.size]; omega
    simp only [T.sizeL,List.length_cons]; omega
 have h3:=T.kids_size s
 have:=h2 s.kids
 omega
theorem putDo (l:LT) (hw:l.Wf) (x at_:Int) (y:T) (hy:y.Small) (es:List (List V)) (hin:∀ e∈l.ents,e∈es) (hn:(l.ents.map labOf).Nodup) (hz:l.erase.size≤1000000) :
 Full Try.prog noY 110 [.agg ([.int .i64 x,.int .i64 at_]++y.cells),.ptr 1 0 0] [poolO es,boxO l] (DoR l (putT l.erase x at_ y)):=by
 have hk:LT.sizeL l.kids≤1000000:=by
  rw [LT.kids_size]
  have:=T.kids_size l.erase
  omega
 rcases LT.seekR_cases l x _root_.id hw hn with ⟨h0,hsr,_⟩ | ⟨hsr,_,hno⟩ | ⟨b',i',l0,sx,hsr,_,_,hsx,hD⟩
 · cases l with
   | mk id kind text h kids =>
   obtain rfl:id=x:=h0
   exact putDo_root id kind text h kids hw at_ y hy es hin hn hk
 · exact putDo_none l hw x at_ y es hin hk hsr hno
 · exact putDo_deep l hw x at_ y hy es hin hn hk b' i' hsr sx hsx l0 hD (by have:=fT_kids_len hsx; omega)
theorem EditR.toDo {es:List (List V)} {l:LT} {x:Int} {f:LT→LT} {g:T→T} (he:∀ n:LT,(f n).erase=g n.erase) (hf:∀ n:LT,n.Wf→(f n).Wf) (hl:∀ n:LT,n.labs.Nodup→(f n).labs.Nodup∧∀ a∈(f n).labs,a∈n.labs) (hw:l.Wf) (hn:(l.ents.map labOf).Nodup) {o:Out} {st':St}
 (h:EditR es l (l.upd x f) o st'):DoR l (T.upd x g l.erase) o st':=by
 rw [← LT.upd_erase x f g he l hw]
 cases hu:l.upd x f with
 | none =>
   rw [hu] at h
   exact ⟨h.1,es,h.2⟩
 | some l' =>
   rw [hu] at h
   obtain ⟨h1,es',h2,h3⟩:=h
   rw [LT.labs_ents] at hn
   have hn':=(LT.upd_labs x f [] (fun n h1 _=>⟨(hl n h1).1,fun a ha=>.inl ((hl n h1).2 a ha)⟩) l l' hu hn (by simp)).1
   exact ⟨l',es',rfl,LT.upd_wf x f hf l l' hw hu,by rw [LT.labs_ents]; exact hn',h1,h2,h3⟩
def setTextT (s:List UInt8):T→T
 | .mk id kind _ kids=>.mk id kind s kids
def setKindT (s:List UInt8):T→T
 | .mk id _ text kids=>.mk id s text kids
theorem labsL_sub {us vs:List LT} (h:us.Sublist vs):(LT.labsL us).Sublist (LT.labsL vs):=by
 induction h with
 | slnil=>exact .slnil
 | cons a h ih=>exact ih.trans (List.sublist_append_right _ _)
 | cons_cons a h ih=>exact (List.Sublist.refl _).append ih
theorem cutKid_erase (x:Int) (n:LT):(cutKid x n).erase=cutKidT x n.erase:=by
 cases n with
 | mk id kind text h kids =>
   simp only [cutKid,LT.erase,cutKidT,LT.eraseL_eq,List.eraseIdx_eq_take_drop_succ,List.map_append,List.map_take,List.map_drop]
theorem cutKid_wf (x:Int) (n:LT) (h:n.Wf):(cutKid x n).Wf:=by
 cases n with
 | mk id kind text hd kids =>
   simp only [LT.Wf] at h
   simp only [cutKid,LT.Wf]
   refine ⟨fun e=>by rw [h.1 e]; simp,(LT.WfL_iff _).2 fun l hl=>(LT.WfL_iff _).1 h.2 l (List.mem_of_mem_eraseIdx hl)⟩
theorem cutKid_labs (x:Int) (n:LT) (h:n.labs.Nodup):(cutKid x n).labs.Nodup∧∀ a∈(cutKid x n).labs,a∈n.labs:=by
 cases n with
 | mk id kind text hd kids =>
   have hs:(cutKid x (.mk id kind text hd kids)).labs.Sublist (LT.mk id kind text hd kids).labs:=by
    simp only [cutKid,LT.labs]
    exact (labsL_sub (List.eraseIdx_sublist _ _)).append (List.Sublist.refl _)
   exact ⟨h.sublist hs,fun a ha=>hs.subset ha⟩
theorem textDo' (l:LT) (hw:l.Wf) (x:Int) (s:List UInt8) (es:List (List V)) (hin:∀ e∈l.ents,e∈es) (hn:(l.ents.map labOf).Nodup) (hz:l.erase.size≤1000000) :
 Full Try.prog noY 121 [.agg [.int .i64 x,.str s],.ptr 1 0 0] [poolO es,boxO l] (DoR l (T.upd x (setTextT s) l.erase)) :=
 (textDo l hw x s es hin hn (by rw [LT.kids_size]; have:=T.kids_size l.erase; omega)).mono fun o st' h=>EditR.toDo (fun n=>by cases n; rfl) (fun n h=>by cases n; exact h) (fun n h=>by cases n; exact ⟨h,fun a ha=>ha⟩) hw hn h
theorem kindDo' (l:LT) (hw:l.Wf) (x:Int) (s:List UInt8) (es:List (List V)) (hin:∀ e∈l.ents,e∈es) (hn:(l.ents.map labOf).Nodup) (hz:l.erase.size≤1000000) :
 Full Try.prog noY 123 [.agg [.int .i64 x,.str s],.ptr 1 0 0] [poolO es,boxO l] (DoR l (T.upd x (setKindT s) l.erase)) :=
 (kindDo l hw x s es hin hn (by rw [LT.kids_size]; have:=T.kids_size l.erase; omega)).mono fun o st' h=>EditR.toDo (fun n=>by cases n; rfl) (fun n h=>by cases n; exact h) (fun n h=>by cases n; exact ⟨h,fun a ha=>ha⟩) hw hn h
def cutTT (t:T) (x:Int):Option T:=if 1≤treeOver t x then t.upd (treeOver t x) (cutKidT x) else none
theorem cutDo' (l:LT) (hw:l.Wf) (hs:l.erase.Small) (x:Int) (es:List (List V)) (hin:∀ e∈l.ents,e∈es) (hn:(l.ents.map labOf).Nodup) (hz:l.erase.size≤1000000) :
 Full Try.prog noY 118 [.agg [.int .i64 x],.ptr 1 0 0] [poolO es,boxO l] (DoR l (cutTT l.erase x)):=by
 refine (cutDo l hw hs x es hin hn (by rw [LT.kids_size]; have:=T.kids_size l.erase; omega)).mono fun o st' h=>?_
 unfold cutT at h
 unfold cutTT
 split
 · rename_i h1
   rw [if_pos h1] at h
   exact EditR.toDo (cutKid_erase x) (cutKid_wf x) (cutKid_labs x) hw hn h
 · rename_i h1
   rw [if_neg h1] at h
   exact ⟨h.1,es,h.2⟩
end Go.Cod
namespace Go.Cod
open Go Go.Proofs
set_option maxRecDepth 10000
def nothingT (s:Stp):Bool:=decide (s.at_=0)&&noneT s.node
set_option maxHeartbeats 4000000 in
theorem stepPutsNothing_pure (s:Stp):Pure Try.prog 74 [.agg s.cells] (·=.bool (nothingT s)):=by
 cases s with
 | mk kind sid at_ node text =>
 cases node with
 | mk nid nk nx nks =>
 have hl:((T.rows nks).length:Int)=(nks.length:Int):=by rw [Go.Cod.rows_len]
 show Pure Try.prog _ [.agg [.int .i64 kind,.int .i64 sid,.int .i64 at_,.int .i64 nid,.str nk,.str nx,.sl (T.rows nks),.str text]] _
 refine pure_of_awp good Try.func74 rfl (by kernel_rfl) (by decide) ?_
 conv=>whnf
 by_cases h0:at_=0
 rotate_left
 · rw [eqB_f h0]
   conv=>whnf
   simp [nothingT,h0]
 rw [eqB_t h0]
 conv=>whnf
 by_cases h1:nid=0
 rotate_left
 · rw [eqB_f h1]
   conv=>whnf
   simp [nothingT,noneT,h1]
 rw [eqB_t h1]
 conv=>whnf
 by_cases h2:nk=[]
 rotate_left
 · rw [eqS_f h2]
   conv=>whnf
   simp [nothingT,noneT,h2]
 rw [eqS_t h2]
 conv=>whnf
 by_cases h3:nx=[]
 rotate_left
 · rw [eqS_f h3]
   conv=>whnf
   simp [nothingT,noneT,h3]
 rw [eqS_t h3]
 conv=>whnf
 by_cases h4:nks.length=0
 · rw [eqB_t (show ((T.rows nks).length:Int)=0 by omega)]
   conv=>whnf
   simp only [nothingT,noneT,h0,h1,h2,h3,h4,decide_true,Bool.and_self]
 · rw [eqB_f (show ((T.rows nks).length:Int)≠0 by omega)]
   conv=>whnf
   simp only [nothingT,noneT,h0,h1,h2,h3,h4,decide_true,decide_false,Bool.and_self,Bool.and_false]
end Go.Cod
namespace Go.Cod
open Go Go.Proofs
set_option maxRecDepth 10000
def deedV (s:Stp):V:=if s.kind=1 then .iface 112 (.agg ([.int .i64 s.id,.int .i64 s.at_]++s.node.cells)) else if s.kind=2 then .iface 114 (.agg [.int .i64 s.id]) else if s.kind=3 then .iface 117 (.agg [.int .i64 s.id,.str s.text])
 else if s.kind=4 then .iface 119 (.agg [.int .i64 s.id,.str s.text]) else .raw .nilIface
def deedOk (s:Stp):Bool:=if s.kind=1 then decide (s.text=[])&&okT s.node else if s.kind=2 then decide (s.text=[])&&nothingT s else if s.kind=3 then nothingT s else if s.kind=4 then nothingT s else false
set_option maxHeartbeats 4000000 in
theorem stepDeedOf_pure (s:Stp) (hs:s.node.Small):Pure Try.prog 41 [.agg s.cells] (·=.tup [deedV s,.bool (deedOk s)]):=by
 have f1:=implTreeOk s.node hs
 have f2:=stepPutsNothing_pure s
 have hv:deedV s=if s.kind=1 then .iface 112 (.agg ([.int .i64 s.id,.int .i64 s.at_]++s.node.cells)) else if s.kind=2 then .iface 114 (.agg [.int .i64 s.id]) else if s.kind=3 then .iface 117 (.agg [.int .i64 s.id,.str s.text])
  else if s.kind=4 then .iface 119 (.agg [.int .i64 s.id,.str s.text]) else .raw .nilIface:=rfl
 have hk:deedOk s=if s.kind=1 then decide (s.text=[])&&okT s.node else if s.kind=2 then decide (s.text=[])&&nothingT s else if s.kind=3 then nothingT s else if s.kind=4 then nothingT s else false:=rfl
 generalize deedV s=dv at *
 generalize deedOk s=dk at *
 generalize nothingT s=nt at *
 generalize okT s.node=ok at *
 simp only [Stp.cells] at f2 ⊢
 cases s with
 | mk kind sid at_ node text =>
 cases node with
 | mk nid nk nx nks =>
 simp only at hv hk f1 f2
 refine pure_of_awp good Try.func41 rfl (by kernel_rfl) (by decide) ?_
 conv=>whnf
 by_cases k1:kind=1
 · rw [if_pos k1] at hv hk
   rw [eqB_t k1]
   conv=>whnf
   by_cases h1:text=[]
   · rw [eqS_t h1]
     conv=>whnf
     refine ⟨_,.inl f1,?_⟩
     conv=>whnf
     rw [hv,hk,h1]
     cases ok <;> rfl
   · rw [eqS_f h1]
     conv=>whnf
     rw [hv,hk,show decide (text=[])=false by simpa using h1]
     rfl
 rw [if_neg k1] at hv hk
 rw [eqB_f k1]
 conv=>whnf
 by_cases k2:kind=2
 · rw [if_pos k2] at hv hk
   rw [eqB_t k2]
   conv=>whnf
   by_cases h1:text=[]
   · rw [eqS_t h1]
     conv=>whnf
     refine ⟨_,.inl f2,?_⟩
     conv=>whnf
     rw [hv,hk,h1]
     cases nt <;> rfl
   · rw [eqS_f h1]
     conv=>whnf
     rw [hv,hk,show decide (text=[])=false by simpa using h1]
     rfl
 rw [if_neg k2] at hv hk
 rw [eqB_f k2]
 conv=>whnf
 by_cases k3:kind=3
 · rw [if_pos k3] at hv hk
   rw [eqB_t k3]
   conv=>whnf
   refine ⟨_,.inl f2,?_⟩
   conv=>whnf
   rw [hv,hk]
   rfl
 rw [if_neg k3] at hv hk
 rw [eqB_f k3]
 conv=>whnf
 by_cases k4:kind=4
 · rw [if_pos k4] at hv hk
   rw [eqB_t k4]
   conv=>whnf
   refine ⟨_,.inl f2,?_⟩
   conv=>whnf
   rw [hv,hk]
   rfl
 rw [if_neg k4] at hv hk
 rw [eqB_f k4]
 conv=>whnf
 rw [hv,hk]
 rfl
def ChR (t:T) (d:Option T) (o:Out) (st':St):Prop:=∃ (l:LT) (es:List (List V)),l.erase=d.getD t∧l.Wf∧(∀ e∈l.ents,e∈es)∧(l.ents.map labOf).Nodup∧o=.ret (.tup [.agg l.cells,.bool d.isSome])∧st'=[poolO es]
set_option maxHeartbeats 8000000 in
theorem changed_put (t:T) (ht:t.Small) (x at_:Int) (z:T) (r:Option T) (hr:∀ y,r=some y→y.Small) (hd:∀ (l:LT) (es:List (List V)),l.erase=t→l.Wf→(∀ e∈l.ents,e∈es)→(l.ents.map labOf).Nodup→Full Try.prog noY 110 [.agg ([.int .i64 x,.int .i64 at_]++z.cells),.ptr 1 0 0] [poolO es,boxO l] (DoR l r)) :
 Full Try.prog noY 43 [.agg t.cells, .meth "loop.example/codicil/impl.do" (.iface 112 (.agg ([.int .i64 x, .int .i64 at_] ++ z.cells)))] [poolO []] (ChR t (r.bind okO)) := by
 have hcp:=(treeCopy_acc t ht []).givenEnd
 have hcp2:=fun es=>(treeCopy_acc t ht es).givenEnd
 generalize hrd:r.bind okO=d
 cases z with
 | mk zi zk zx zks =>
 cases t with
 | mk id kind text kids =>
 refine full_of_awp good Try.func43 rfl (by kernel_rfl) (by decide) ?_
 conv=>whnf
 refine .inr (.inl ⟨[0],true,?_⟩)
 conv=>whnf
 refine hcp.mono ?_
 rintro o st' ⟨⟨l,l1,l2,rfl,rfl⟩,hl⟩
 have hn:=hl.nodup (k:=0) rfl
 rw [List.nil_append] at hn ⊢
 have hd:=hd l l.ents l1 l2 (fun _ h=>h) hn
 obtain ⟨es,hes⟩:∃ es,es=l.ents:=⟨_,rfl⟩
 rw [← hes] at hd ⊢
 cases l with
 | mk lid lk lx lh lks =>
 rcases lh with _ | ⟨lb,lc⟩
 all_goals
  conv=>whnf
  refine ⟨_,rfl,?_⟩
  conv=>whnf
  refine ⟨[0,3],true,?_⟩
  conv=>whnf
  refine hd.mono ?_
  intro o st' h
  cases r with
  | none =>
    obtain ⟨rfl,es',rfl⟩:=h
    conv=>whnf
    refine .inr (.inl ⟨[0],true,?_⟩)
    conv=>whnf
    refine (hcp2 es').mono ?_
    rintro o st' ⟨⟨l,l1,l2,rfl,rfl⟩,hl⟩
    have hn:=hl.nodup (k:=0) rfl
    obtain ⟨es2,hes2⟩:∃ es2,es2=es'++l.ents:=⟨_,rfl⟩
    have hin:∀ e∈l.ents,e∈es2:=fun e he=>hes2 ▸ List.mem_append_right _ he
    rw [← hes2] at hn ⊢
    have hnl:(l.ents.map labOf).Nodup:=by rw [hes2] at hn; exact (nodup_app hn).2.1
    subst hrd
    cases l with
    | mk gid gk gx gh gks =>
    rcases gh with _ | ⟨gb,gc⟩
    all_goals
     conv=>whnf
     refine ⟨[],true,?_⟩
     conv=>whnf
     exact ⟨_,es2,l1,l2,hin,hnl,rfl,rfl⟩
  | some y =>
    obtain ⟨l',es',h1,h2,h3,rfl,rfl,h4⟩:=h
    have hok:=implTreeOk y (hr y rfl)
    have hv:=l'.viewA h2 h4
    rw [h1] at hv
    have hrd:d=okO y:=hrd.symm
    unfold okO at hrd
    generalize okT y=oky at *
    have hcells:(.agg y.cells:V).flat=(.agg y.cells:V).flat:=rfl
    cases l' with
    | mk mid mk mx mh mks =>
    cases y with
    | mk yi yk yx yks =>
    rcases mh with _ | ⟨mb,mc⟩
    all_goals
     conv=>whnf
     refine .inr (.inr ⟨es',[.agg (T.mk yi yk yx yks).cells],fun e he=>⟨0,he⟩,viewL1 hv,rfl,hok.mono ?_⟩)
     rintro r rfl
     refine ⟨rfl,?_⟩
     cases oky with
     | true =>
       conv=>whnf
       refine ⟨[],true,?_⟩
       conv=>whnf
       rw [if_pos rfl] at hrd
       subst hrd
       exact ⟨_,es',h1,h2,h4,h3,rfl,rfl⟩
     | false =>
       conv=>whnf
       refine .inr (.inl ⟨[0],true,?_⟩)
       conv=>whnf
       refine (hcp2 es').mono ?_
       rintro o st' ⟨⟨l,l1,l2,rfl,rfl⟩,hl⟩
       have hn:=hl.nodup (k:=0) rfl
       obtain ⟨es2,hes2⟩:∃ es2,es2=es'++l.ents:=⟨_,rfl⟩
       have hin:∀ e∈l.ents,e∈es2:=fun e he=>hes2 ▸ List.mem_append_right _ he
       rw [← hes2] at hn ⊢
       have hnl:(l.ents.map labOf).Nodup:=by rw [hes2] at hn; exact (nodup_app hn).2.1
       rw [if_neg (by simp)] at hrd
       subst hrd
       cases l with
       | mk gid gk gx gh gks =>
       rcases gh with _ | ⟨gb,gc⟩
       all_goals
        conv=>whnf
        refine ⟨[],true,?_⟩
        conv=>whnf
        exact ⟨_,es2,l1,l2,hin,hnl,rfl,rfl⟩
set_option maxHeartbeats 8000000 in
theorem changed_cut (t:T) (ht:t.Small) (x:Int) (r:Option T) (hr:∀ y,r=some y→y.Small) (hd:∀ (l:LT) (es:List (List V)),l.erase=t→l.Wf→(∀ e∈l.ents,e∈es)→(l.ents.map labOf).Nodup→Full Try.prog noY 118 [.agg [.int .i64 x],.ptr 1 0 0] [poolO es,boxO l] (DoR l r)) :
 Full Try.prog noY 43 [.agg t.cells, .meth "loop.example/codicil/impl.do" (.iface 114 (.agg [.int .i64 x]))] [poolO []] (ChR t (r.bind okO)) := by
 have hcp:=(treeCopy_acc t ht []).givenEnd
 have hcp2:=fun es=>(treeCopy_acc t ht es).givenEnd
 generalize hrd:r.bind okO=d
 cases t with
 | mk id kind text kids =>
 refine full_of_awp good Try.func43 rfl (by kernel_rfl) (by decide) ?_
 conv=>whnf
 refine .inr (.inl ⟨[0],true,?_⟩)
 conv=>whnf
 refine hcp.mono ?_
 rintro o st' ⟨⟨l,l1,l2,rfl,rfl⟩,hl⟩
 have hn:=hl.nodup (k:=0) rfl
 rw [List.nil_append] at hn ⊢
 have hd:=hd l l.ents l1 l2 (fun _ h=>h) hn
 obtain ⟨es,hes⟩:∃ es,es=l.ents:=⟨_,rfl⟩
 rw [← hes] at hd ⊢
 cases l with
 | mk lid lk lx lh lks =>
 rcases lh with _ | ⟨lb,lc⟩
 all_goals
  conv=>whnf
  refine ⟨_,rfl,?_⟩
  conv=>whnf
  refine ⟨[0,3],true,?_⟩
  conv=>whnf
  refine hd.mono ?_
  intro o st' h
  cases r with
  | none =>
    obtain ⟨rfl,es',rfl⟩:=h
    conv=>whnf
    refine .inr (.inl ⟨[0],true,?_⟩)
    conv=>whnf
    refine (hcp2 es').mono ?_
    rintro o st' ⟨⟨l,l1,l2,rfl,rfl⟩,hl⟩
    have hn:=hl.nodup (k:=0) rfl
    obtain ⟨es2,hes2⟩:∃ es2,es2=es'++l.ents:=⟨_,rfl⟩
    have hin:∀ e∈l.ents,e∈es2:=fun e he=>hes2 ▸ List.mem_append_right _ he
    rw [← hes2] at hn ⊢
    have hnl:(l.ents.map labOf).Nodup:=by rw [hes2] at hn; exact (nodup_app hn).2.1
    subst hrd
    cases l with
    | mk gid gk gx gh gks =>
    rcases gh with _ | ⟨gb,gc⟩
    all_goals
     conv=>whnf
     refine ⟨[],true,?_⟩
     conv=>whnf
     exact ⟨_,es2,l1,l2,hin,hnl,rfl,rfl⟩
  | some y =>
    obtain ⟨l',es',h1,h2,h3,rfl,rfl,h4⟩:=h
    have hok:=implTreeOk y (hr y rfl)
    have hv:=l'.viewA h2 h4
    rw [h1] at hv
    have hrd:d=okO y:=hrd.symm
    unfold okO at hrd
    generalize okT y=oky at *
    have hcells:(.agg y.cells:V).flat=(.agg y.cells:V).flat:=rfl
    cases l' with
    | mk mid mk mx mh mks =>
    cases y with
    | mk yi yk yx yks =>
    rcases mh with _ | ⟨mb,mc⟩
    all_goals
     conv=>whnf
     refine .inr (.inr ⟨es',[.agg (T.mk yi yk yx yks).cells],fun e he=>⟨0,he⟩,viewL1 hv,rfl,hok.mono ?_⟩)
     rintro r rfl
     refine ⟨rfl,?_⟩
     cases oky with
     | true =>
       conv=>whnf
       refine ⟨[],true,?_⟩
       conv=>whnf
       rw [if_pos rfl] at hrd
       subst hrd
       exact ⟨_,es',h1,h2,h4,h3,rfl,rfl⟩
     | false =>
       conv=>whnf
       refine .inr (.inl ⟨[0],true,?_⟩)
       conv=>whnf
       refine (hcp2 es').mono ?_
       rintro o st' ⟨⟨l,l1,l2,rfl,rfl⟩,hl⟩
       have hn:=hl.nodup (k:=0) rfl
       obtain ⟨es2,hes2⟩:∃ es2,es2=es'++l.ents:=⟨_,rfl⟩
       have hin:∀ e∈l.ents,e∈es2:=fun e he=>hes2 ▸ List.mem_append_right _ he
       rw [← hes2] at hn ⊢
       have hnl:(l.ents.map labOf).Nodup:=by rw [hes2] at hn; exact (nodup_app hn).2.1
       rw [if_neg (by simp)] at hrd
       subst hrd
       cases l with
       | mk gid gk gx gh gks =>
       rcases gh with _ | ⟨gb,gc⟩
       all_goals
        conv=>whnf
        refine ⟨[],true,?_⟩
        conv=>whnf
        exact ⟨_,es2,l1,l2,hin,hnl,rfl,rfl⟩
set_option maxHeartbeats 8000000 in
theorem changed_text (t:T) (ht:t.Small) (x:Int) (w:List UInt8) (r:Option T) (hr:∀ y,r=some y→y.Small) (hd:∀ (l:LT) (es:List (List V)),l.erase=t→l.Wf→(∀ e∈l.ents,e∈es)→(l.ents.map labOf).Nodup→Full Try.prog noY 121 [.agg [.int .i64 x,.str w],.ptr 1 0 0] [poolO es,boxO l] (DoR l r)) :
 Full Try.prog noY 43 [.agg t.cells, .meth "loop.example/codicil/impl.do" (.iface 117 (.agg [.int .i64 x, .str w]))] [poolO []] (ChR t (r.bind okO)) := by
 have hcp:=(treeCopy_acc t ht []).givenEnd
 have hcp2:=fun es=>(treeCopy_acc t ht es).givenEnd
 generalize hrd:r.bind okO=d
 cases t with
 | mk id kind text kids =>
 refine full_of_awp good Try.func43 rfl (by kernel_rfl) (by decide) ?_
 conv=>whnf
 refine .inr (.inl ⟨[0],true,?_⟩)
 conv=>whnf
 refine hcp.mono ?_
 rintro o st' ⟨⟨l,l1,l2,rfl,rfl⟩,hl⟩
 have hn:=hl.nodup (k:=0) rfl
 rw [List.nil_append] at hn ⊢
 have hd:=hd l l.ents l1 l2 (fun _ h=>h) hn
 obtain ⟨es,hes⟩:∃ es,es=l.ents:=⟨_,rfl⟩
 rw [← hes] at hd ⊢
 cases l with
 | mk lid lk lx lh lks =>
 rcases lh with _ | ⟨lb,lc⟩
 all_goals
  conv=>whnf
  refine ⟨_,rfl,?_⟩
  conv=>whnf
  refine ⟨[0,3],true,?_⟩
  conv=>whnf
  refine hd.mono ?_
  intro o st' h
  cases r with
  | none =>
    obtain ⟨rfl,es',rfl⟩:=h
    conv=>whnf
    refine .inr (.inl ⟨[0],true,?_⟩)
    conv=>whnf
    refine (hcp2 es').mono ?_
    rintro o st' ⟨⟨l,l1,l2,rfl,rfl⟩,hl⟩
    have hn:=hl.nodup (k:=0) rfl
    obtain ⟨es2,hes2⟩:∃ es2,es2=es'++l.ents:=⟨_,rfl⟩
    have hin:∀ e∈l.ents,e∈es2:=fun e he=>hes2 ▸ List.mem_append_right _ he
    rw [← hes2] at hn ⊢
    have hnl:(l.ents.map labOf).Nodup:=by rw [hes2] at hn; exact (nodup_app hn).2.1
    subst hrd
    cases l with
    | mk gid gk gx gh gks =>
    rcases gh with _ | ⟨gb,gc⟩
    all_goals
     conv=>whnf
     refine ⟨[],true,?_⟩
     conv=>whnf
     exact ⟨_,es2,l1,l2,hin,hnl,rfl,rfl⟩
  | some y =>
    obtain ⟨l',es',h1,h2,h3,rfl,rfl,h4⟩:=h
    have hok:=implTreeOk y (hr y rfl)
    have hv:=l'.viewA h2 h4
    rw [h1] at hv
    have hrd:d=okO y:=hrd.symm
    unfold okO at hrd
    generalize okT y=oky at *
    have hcells:(.agg y.cells:V).flat=(.agg y.cells:V).flat:=rfl
    cases l' with
    | mk mid mk mx mh mks =>
    cases y with
    | mk yi yk yx yks =>
    rcases mh with _ | ⟨mb,mc⟩
    all_goals
     conv=>whnf
     refine .inr (.inr ⟨es',[.agg (T.mk yi yk yx yks).cells],fun e he=>⟨0,he⟩,viewL1 hv,rfl,hok.mono ?_⟩)
     rintro r rfl
     refine ⟨rfl,?_⟩
     cases oky with
     | true =>
       conv=>whnf
       refine ⟨[],true,?_⟩
       conv=>whnf
       rw [if_pos rfl] at hrd
       subst hrd
       exact ⟨_,es',h1,h2,h4,h3,rfl,rfl⟩
     | false =>
       conv=>whnf
       refine .inr (.inl ⟨[0],true,?_⟩)
       conv=>whnf
       refine (hcp2 es').mono ?_
       rintro o st' ⟨⟨l,l1,l2,rfl,rfl⟩,hl⟩
       have hn:=hl.nodup (k:=0) rfl
       obtain ⟨es2,hes2⟩:∃ es2,es2=es'++l.ents:=⟨_,rfl⟩
       have hin:∀ e∈l.ents,e∈es2:=fun e he=>hes2 ▸ List.mem_append_right _ he
       rw [← hes2] at hn ⊢
       have hnl:(l.ents.map labOf).Nodup:=by rw [hes2] at hn; exact (nodup_app hn).2.1
       rw [if_neg (by simp)] at hrd
       subst hrd
       cases l with
       | mk gid gk gx gh gks =>
       rcases gh with _ | ⟨gb,gc⟩
       all_goals
        conv=>whnf
        refine ⟨[],true,?_⟩
        conv=>whnf
        exact ⟨_,es2,l1,l2,hin,hnl,rfl,rfl⟩
set_option maxHeartbeats 8000000 in
theorem changed_kind (t:T) (ht:t.Small) (x:Int) (w:List UInt8) (r:Option T) (hr:∀ y,r=some y→y.Small) (hd:∀ (l:LT) (es:List (List V)),l.erase=t→l.Wf→(∀ e∈l.ents,e∈es)→(l.ents.map labOf).Nodup→Full Try.prog noY 123 [.agg [.int .i64 x,.str w],.ptr 1 0 0] [poolO es,boxO l] (DoR l r)) :
 Full Try.prog noY 43 [.agg t.cells, .meth "loop.example/codicil/impl.do" (.iface 119 (.agg [.int .i64 x, .str w]))] [poolO []] (ChR t (r.bind okO)) := by
 have hcp:=(treeCopy_acc t ht []).givenEnd
 have hcp2:=fun es=>(treeCopy_acc t ht es).givenEnd
 generalize hrd:r.bind okO=d
 cases t with
 | mk id kind text kids =>
 refine full_of_awp good Try.func43 rfl (by kernel_rfl) (by decide) ?_
 conv=>whnf
 refine .inr (.inl ⟨[0],true,?_⟩)
 conv=>whnf
 refine hcp.mono ?_
 rintro o st' ⟨⟨l,l1,l2,rfl,rfl⟩,hl⟩
 have hn:=hl.nodup (k:=0) rfl
 rw [List.nil_append] at hn ⊢
 have hd:=hd l l.ents l1 l2 (fun _ h=>h) hn
 obtain ⟨es,hes⟩:∃ es,es=l.ents:=⟨_,rfl⟩
 rw [← hes] at hd ⊢
 cases l with
 | mk lid lk lx lh lks =>
 rcases lh with _ | ⟨lb,lc⟩
 all_goals
  conv=>whnf
  refine ⟨_,rfl,?_⟩
  conv=>whnf
  refine ⟨[0,3],true,?_⟩
  conv=>whnf
  refine hd.mono ?_
  intro o st' h
  cases r with
  | none =>
    obtain ⟨rfl,es',rfl⟩:=h
    conv=>whnf
    refine .inr (.inl ⟨[0],true,?_⟩)
    conv=>whnf
    refine (hcp2 es').mono ?_
    rintro o st' ⟨⟨l,l1,l2,rfl,rfl⟩,hl⟩
    have hn:=hl.nodup (k:=0) rfl
    obtain ⟨es2,hes2⟩:∃ es2,es2=es'++l.ents:=⟨_,rfl⟩
    have hin:∀ e∈l.ents,e∈es2:=fun e he=>hes2 ▸ List.mem_append_right _ he
    rw [← hes2] at hn ⊢
    have hnl:(l.ents.map labOf).Nodup:=by rw [hes2] at hn; exact (nodup_app hn).2.1
    subst hrd
    cases l with
    | mk gid gk gx gh gks =>
    rcases gh with _ | ⟨gb,gc⟩
    all_goals
     conv=>whnf
     refine ⟨[],true,?_⟩
     conv=>whnf
     exact ⟨_,es2,l1,l2,hin,hnl,rfl,rfl⟩
  | some y =>
    obtain ⟨l',es',h1,h2,h3,rfl,rfl,h4⟩:=h
    have hok:=implTreeOk y (hr y rfl)
    have hv:=l'.viewA h2 h4
    rw [h1] at hv
    have hrd:d=okO y:=hrd.symm
    unfold okO at hrd
    generalize okT y=oky at *
    have hcells:(.agg y.cells:V).flat=(.agg y.cells:V).flat:=rfl
    cases l' with
    | mk mid mk mx mh mks =>
    cases y with
    | mk yi yk yx yks =>
    rcases mh with _ | ⟨mb,mc⟩
    all_goals
     conv=>whnf
     refine .inr (.inr ⟨es',[.agg (T.mk yi yk yx yks).cells],fun e he=>⟨0,he⟩,viewL1 hv,rfl,hok.mono ?_⟩)
     rintro r rfl
     refine ⟨rfl,?_⟩
     cases oky with
     | true =>
       conv=>whnf
       refine ⟨[],true,?_⟩
       conv=>whnf
       rw [if_pos rfl] at hrd
       subst hrd
       exact ⟨_,es',h1,h2,h4,h3,rfl,rfl⟩
     | false =>
       conv=>whnf
       refine .inr (.inl ⟨[0],true,?_⟩)
       conv=>whnf
       refine (hcp2 es').mono ?_
       rintro o st' ⟨⟨l,l1,l2,rfl,rfl⟩,hl⟩
       have hn:=hl.nodup (k:=0) rfl
       obtain ⟨es2,hes2⟩:∃ es2,es2=es'++l.ents:=⟨_,rfl⟩
       have hin:∀ e∈l.ents,e∈es2:=fun e he=>hes2 ▸ List.mem_append_right _ he
       rw [← hes2] at hn ⊢
       have hnl:(l.ents.map labOf).Nodup:=by rw [hes2] at hn; exact (nodup_app hn).2.1
       rw [if_neg (by simp)] at hrd
       subst hrd
       cases l with
       | mk gid gk gx gh gks =>
       rcases gh with _ | ⟨gb,gc⟩
       all_goals
        conv=>whnf
        refine ⟨[],true,?_⟩
        conv=>whnf
        exact ⟨_,es2,l1,l2,hin,hnl,rfl,rfl⟩
end Go.Cod
namespace Go.Cod
open Go Go.Proofs
set_option maxRecDepth 10000
mutual
theorem T.mapAt_found (x:Int) (f g:T→T):∀ (t s:T),t.ids.Nodup→fT t x=some s→f s=g s→t.mapAt x f=t.mapAt x g
 | .mk id kind text kids,s,hn,hf,h=>by
   simp only [T.ids,List.nodup_cons] at hn
   simp only [fT] at hf
   simp only [T.mapAt]
   by_cases hid:id=x
   · rw [if_pos hid,Option.some.injEq] at hf
     subst hf
     rw [if_pos hid,if_pos hid,h]
   · rw [if_neg hid] at hf
     rw [if_neg hid,if_neg hid,T.mapAtL_found x f g kids s hn.2 hf h]
theorem T.mapAtL_found (x:Int) (f g:T→T):∀ (ts:List T) (s:T),(T.idsL ts).Nodup→fL ts x=some s→f s=g s→T.mapAtL x f ts=T.mapAtL x g ts
 | [],_,_,hf,_=>by simp [fL] at hf
 | t::ts,s,hn,hf,h=>by
   simp only [T.idsL,List.nodup_append] at hn
   simp only [fL] at hf
   simp only [T.mapAtL]
   cases h1:fT t x with
   | some s' =>
     rw [h1,Option.some.injEq] at hf
     subst hf
     have hx:x∈t.ids:=by
      refine Decidable.byContradiction fun h=>?_
      rw [(fT_none t x).2 h] at h1; cases h1
     have hx2:x∉T.idsL ts:=fun h=>hn.2.2 x hx x h rfl
     rw [T.mapAt_found x f g t s' hn.1 h1 h,T.mapAtL_none x f ts hx2,T.mapAtL_none x g ts hx2]
   | none =>
     rw [h1] at hf
     have hx:=(fT_none t x).1 h1
     rw [T.mapAt_none x f t hx,T.mapAt_none x g t hx,T.mapAtL_found x f g ts s hn.2.1 hf h]
end
theorem fT_mem {t:T} {x:Int} {s:T} (h:fT t x=some s):x∈t.ids:=by
 refine Decidable.byContradiction fun h1=>?_
 rw [(fT_none t x).2 h1] at h; cases h
theorem doT_bind (t:T) (s:Stp):doT t s=(editT t s).bind okO:=by
 unfold doT
 cases editT t s <;> rfl
def deedT (t:T) (s:Stp):Option T:=if s.kind=1 then putT t s.id s.at_ s.node else if s.kind=2 then cutTT t s.id else if s.kind=3 then t.upd s.id (setTextT s.text) else t.upd s.id (setKindT s.text)
theorem deed_edit {t:T} (hok:okT t=true) (s:Stp) (hd:deedOk s=true):deedT t s=editT t s:=by
 have hn:=((okT_iff' t).1 hok).2.1
 unfold deedOk nothingT at hd
 unfold deedT editT
 by_cases k1:s.kind=1
 · rw [if_pos k1] at hd ⊢
   simp only [Bool.and_eq_true,decide_eq_true_eq] at hd
   have hb:bareT s=true:=by unfold bareT; rw [if_pos k1]; simpa using hd.1
   unfold putT
   cases hf:fT t s.id with
   | none=>rfl
   | some x =>
     simp only [hb,Bool.true_eq_false,if_false,if_pos k1]
     by_cases hr:0≤s.at_∧s.at_≤x.kids.length
     · rw [if_pos hr,if_pos ⟨hr.1,hr.2,hd.2⟩,T.upd_map _ _ t (fT_mem hf) hn]
     · rw [if_neg hr,if_neg fun h=>hr ⟨h.1,h.2.1⟩]
 rw [if_neg k1] at hd ⊢
 by_cases k2:s.kind=2
 · rw [if_pos k2] at hd ⊢
   simp only [Bool.and_eq_true,decide_eq_true_eq] at hd
   have hb:bareT s=true:=by unfold bareT; rw [if_neg k1,if_pos k2]; simp [hd.1,hd.2.1,hd.2.2]
   unfold cutTT
   rcases treeOver_cases t s.id with ⟨h1,h2⟩ | ⟨_,h1,h2⟩ | ⟨h1,p,h2,h3,h4⟩
   · rw [h1,if_neg (by omega)]
     have hx:s.id∉t.ids:=by
      rcases h2 with h2 | h2
      · rw [hok] at h2; cases h2
      · unfold idsOf at h2; rw [if_pos hok] at h2; exact h2
     rw [(fT_none t s.id).2 hx]
   · rw [h1,if_neg (by omega)]
     cases hf:fT t s.id with
     | none=>rfl
     | some x=>simp only [hb,Bool.true_eq_false,if_false,if_neg k1,if_pos k2,if_pos h2.symm]
   · have hp:=(findT_spec h2).2.1
     have hx:s.id∈p.kids.map T.id:=List.count_pos_iff.1 (by omega)
     have hxk:=fT_kid t _ s.id p hp hx
     have hxt:s.id∈t.ids∧s.id≠t.id:=by
      cases t with
      | mk a b c d =>
      simp only [T.ids,List.nodup_cons] at hn
      exact ⟨by simp only [T.ids,List.mem_cons]; exact .inr hxk,fun e=>hn.1 (show a∈T.idsL d from (show s.id=a from e) ▸ hxk)⟩
     rw [if_pos h1,T.upd_map _ _ t (fT_mem hp) hn,← T.cut_map s.id _ t p hn hp hx]
     cases hf:fT t s.id with
     | none=>exact absurd hxt.1 ((fT_none t s.id).1 hf)
     | some x=>simp only [hb,Bool.true_eq_false,if_false,if_neg k1,if_pos k2,if_neg hxt.2]
 rw [if_neg k2] at hd ⊢
 have hb:s.kind=3∨s.kind=4→bareT s=true:=fun h=>by
  unfold bareT
  rw [if_neg k1,if_neg k2]
  rcases h with h | h
  · rw [if_pos h] at hd
    simp only [Bool.and_eq_true,decide_eq_true_eq] at hd
    simp [hd.1,hd.2]
  · rw [if_neg (by omega),if_pos h] at hd
    simp only [Bool.and_eq_true,decide_eq_true_eq] at hd
    simp [hd.1,hd.2]
 by_cases k3:s.kind=3
 · rw [if_pos k3]
   cases hf:fT t s.id with
   | none=>exact T.upd_none _ _ t ((fT_none t s.id).1 hf)
   | some x =>
     simp only [hb (.inl k3),Bool.true_eq_false,if_false,if_neg k1,if_neg k2,if_pos k3]
     rw [T.upd_map _ _ t (fT_mem hf) hn,T.mapAt_found s.id (setTextT s.text) (setT x.kind s.text) t x hn hf (by cases x; rfl)]
 rw [if_neg k3]
 by_cases k4:s.kind=4
 · cases hf:fT t s.id with
   | none=>exact T.upd_none _ _ t ((fT_none t s.id).1 hf)
   | some x =>
     simp only [hb (.inr k4),Bool.true_eq_false,if_false,if_neg k1,if_neg k2,if_neg k3,if_pos k4]
     rw [T.upd_map _ _ t (fT_mem hf) hn,T.mapAt_found s.id (setKindT s.text) (setT s.text x.text) t x hn hf (by cases x; rfl)]
 · rw [if_neg k3,if_neg k4] at hd; cases hd
theorem deed_no {t:T} {s:Stp} (hd:deedOk s=false):editT t s=none:=by
 unfold deedOk nothingT at hd
 unfold editT
 cases hf:fT t s.id with
 | none=>rfl
 | some x =>
   by_cases k1:s.kind=1
   · rw [if_pos k1] at hd
     by_cases hb:bareT s=false
     · simp only [if_pos hb]
     · simp only [if_neg hb,if_pos k1]
       rw [if_neg]
       rintro ⟨_,_,h⟩
       have hb:bareT s=true:=by cases h:bareT s <;> simp_all
       unfold bareT at hb
       rw [if_pos k1] at hb
       rw [hb,h] at hd
       cases hd
   rw [if_neg k1] at hd
   have hb:bareT s=false∨(s.kind≠2∧s.kind≠3∧s.kind≠4):=by
    by_cases k2:s.kind=2
    · left
      rw [if_pos k2] at hd
      unfold bareT
      rw [if_neg k1,if_pos k2]
      generalize noneT s.node=a at *
      generalize decide (s.text=[])=b at *
      generalize decide (s.at_=0)=c at *
      cases a <;> cases b <;> cases c <;> simp_all
    · rw [if_neg k2] at hd
      by_cases k34:s.kind=3∨s.kind=4
      · left
        unfold bareT
        rw [if_neg k1,if_neg k2]
        rcases k34 with h | h
        · rw [if_pos h] at hd
          rw [Bool.and_comm]; exact hd
        · rw [if_neg (by omega),if_pos h] at hd
          rw [Bool.and_comm]; exact hd
      · right
        exact ⟨k2,fun h=>k34 (.inl h),fun h=>k34 (.inr h)⟩
   rcases hb with hb | ⟨k2,k3,k4⟩
   · simp only [if_pos hb]
   · simp only [if_neg k1,if_neg k2,if_neg k3,if_neg k4]
     split <;> rfl
end Go.Cod
namespace Go.Cod
open Go Go.Proofs
set_option maxRecDepth 10000
def StepR (r:T × Bool) (o:Out) (st':St):Prop:=∃ (l:LT) (es:List (List V)),l.erase=r.1∧l.Wf∧(∀ e∈l.ents,e∈es)∧(l.ents.map labOf).Nodup∧o=.ret (.tup [.agg l.cells,.bool r.2])∧st'=[poolO es]
theorem stepT_yes {t:T} {s:Stp} (h:okT t=true) (hd:deedOk s=true):stepT t s=(((deedT t s).bind okO).getD t,((deedT t s).bind okO).isSome):=by
 unfold stepT
 rw [if_pos h,doT_bind,← deed_edit h s hd]
 cases (deedT t s).bind okO <;> rfl
theorem stepT_no {t:T} {s:Stp} (h:okT t=true) (hd:deedOk s=false):stepT t s=(t,false):=by
 unfold stepT
 rw [if_pos h,doT_none (deed_no hd)]
theorem stepT_bad {t:T} {s:Stp} (h:okT t=false):stepT t s=(TZ,false):=by
 unfold stepT
 rw [if_neg (by rw [h]; simp)]
theorem stepDo_bad (t:T) (s:Stp) (ht:t.Small) (hok:okT t=false):Full Try.prog noY 12 [.agg t.cells,.agg s.cells] [poolO []] (StepR (stepT t s)):=by
 have f1:=implTreeOk t ht
 rw [hok] at f1
 rw [stepT_bad hok]
 simp only [Stp.cells]
 cases s with
 | mk kind sid at_ node text =>
 cases node with
 | mk nid nk nx nks =>
 cases t with
 | mk tid tk tx tks =>
 refine full_of_awp good Try.func12 rfl (by kernel_rfl) (by decide) ?_
 conv=>whnf
 refine .inl (f1.mono ?_)
 rintro r rfl
 conv=>whnf
 refine ⟨[],true,?_⟩
 conv=>whnf
 exact ⟨.mk 0 [] [] none [],[],rfl,⟨fun _=>rfl,trivial⟩,by simp [LT.ents,LT.entsL,rootE],by simp [LT.ents,LT.entsL,rootE],rfl,rfl⟩
theorem stepDo_no (t:T) (s:Stp) (ht:t.Small) (hs:s.node.Small) (hok:okT t=true) (hd:deedOk s=false):Full Try.prog noY 12 [.agg t.cells,.agg s.cells] [poolO []] (StepR (stepT t s)):=by
 have f1:=implTreeOk t ht
 have f2:=stepDeedOf_pure s hs
 have hcp:=(treeCopy_acc t ht []).givenEnd
 rw [hok] at f1
 rw [hd] at f2
 rw [stepT_no hok hd]
 have hdv:deedV s=.iface 112 (.agg ([.int .i64 s.id,.int .i64 s.at_]++s.node.cells))∨deedV s=.iface 114 (.agg [.int .i64 s.id])∨deedV s=.iface 117 (.agg [.int .i64 s.id,.str s.text])∨deedV s=.iface 119 (.agg [.int .i64 s.id,.str s.text])∨deedV s=.raw .nilIface:=by
  unfold deedV
  split
  · exact .inl rfl
  split
  · exact .inr (.inl rfl)
  split
  · exact .inr (.inr (.inl rfl))
  split
  · exact .inr (.inr (.inr (.inl rfl)))
  · exact .inr (.inr (.inr (.inr rfl)))
 generalize deedV s=dv at *
 simp only [Stp.cells] at f2 ⊢
 cases s with
 | mk kind sid at_ node text =>
 cases node with
 | mk nid nk nx nks =>
 cases t with
 | mk tid tk tx tks =>
 refine full_of_awp good Try.func12 rfl (by kernel_rfl) (by decide) ?_
 conv=>whnf
 refine .inl (f1.mono ?_)
 rintro r rfl
 conv=>whnf
 refine .inl (f2.mono ?_)
 rintro r rfl
 rcases hdv with rfl | rfl | rfl | rfl | rfl
 all_goals
  conv=>whnf
  refine .inr (.inl ⟨[0],true,?_⟩)
  conv=>whnf
  refine hcp.mono ?_
  rintro o st' ⟨⟨l,l1,l2,rfl,rfl⟩,hl⟩
  have hn:=hl.nodup (k:=0) rfl
  rw [List.nil_append] at hn ⊢
  obtain ⟨es,hes⟩:∃ es,es=l.ents:=⟨_,rfl⟩
  have hin:∀ e∈l.ents,e∈es:=fun e he=>hes ▸ he
  rw [← hes] at ⊢
  cases l with
  | mk gid gk gx gh gks =>
  rcases gh with _ | ⟨gb,gc⟩
  all_goals
   conv=>whnf
   refine ⟨[],true,?_⟩
   conv=>whnf
   exact ⟨_,es,l1,l2,hin,hn,rfl,rfl⟩
theorem stepDo_put (t:T) (s:Stp) (ht:t.Small) (hs:s.node.Small) (htx:s.text.length≤1048576) (hok:okT t=true) (hd:deedOk s=true) (hk:s.kind=1):Full Try.prog noY 12 [.agg t.cells,.agg s.cells] [poolO []] (StepR (stepT t s)):=by
 have f1:=implTreeOk t ht
 have f2:=stepDeedOf_pure s hs
 have h20:=okT_size hok
 have hdT:deedT t s=putT t s.id s.at_ s.node:=by unfold deedT; rw [if_pos hk]
 have hdv:deedV s=.iface 112 (.agg ([.int .i64 s.id,.int .i64 s.at_]++s.node.cells)):=by unfold deedV; rw [if_pos hk]
 have hsm:∀ y,putT t s.id s.at_ s.node=some y→y.Small:=fun y h=>editT_small ht (by omega) hs htx (by rw [← deed_edit hok s hd,hdT]; exact h)
 have f3:=changed_put t ht s.id s.at_ s.node _ hsm fun l es h1 h2 h3 h4=>by have:=putDo l h2 s.id s.at_ s.node hs es h3 h4 (by rw [h1]; omega); rwa [h1] at this
 rw [stepT_yes hok hd]
 rw [hok] at f1
 rw [hd,hdv] at f2
 rw [← hdT] at f3
 generalize (deedT t s).bind okO=d at *
 simp only [Stp.cells] at f2 ⊢
 cases s with
 | mk kind sid at_ node text =>
 cases node with
 | mk nid nk nx nks =>
 cases t with
 | mk tid tk tx tks =>
 refine full_of_awp good Try.func12 rfl (by kernel_rfl) (by decide) ?_
 conv=>whnf
 refine .inl (f1.mono ?_)
 rintro r rfl
 conv=>whnf
 refine .inl (f2.mono ?_)
 rintro r rfl
 conv=>whnf
 repeat (refine And.intro (by
          (conv=>whnf)
          rfl) ?_
         conv=>whnf)
 refine .inr (.inl ⟨[0],true,?_⟩)
 conv=>whnf
 refine f3.mono ?_
 rintro o st' ⟨l,es,l1,l2,l3,l4,rfl,rfl⟩
 cases l with
 | mk gid gk gx gh gks =>
 rcases gh with _ | ⟨gb,gc⟩
 all_goals
  conv=>whnf
  refine And.intro ?_ ?_
  all_goals
   conv=>whnf
   refine ⟨[],true,?_⟩
   conv=>whnf
   exact ⟨_,es,l1,l2,l3,l4,rfl,rfl⟩
theorem stepDo_cut (t:T) (s:Stp) (ht:t.Small) (hs:s.node.Small) (htx:s.text.length≤1048576) (hok:okT t=true) (hd:deedOk s=true) (hk:s.kind=2):Full Try.prog noY 12 [.agg t.cells,.agg s.cells] [poolO []] (StepR (stepT t s)):=by
 have f1:=implTreeOk t ht
 have f2:=stepDeedOf_pure s hs
 have h20:=okT_size hok
 have hdT:deedT t s=cutTT t s.id:=by unfold deedT; rw [if_neg (by omega)]; rw [if_pos hk]
 have hdv:deedV s=.iface 114 (.agg [.int .i64 s.id]):=by unfold deedV; rw [if_neg (by omega)]; rw [if_pos hk]
 have hsm:∀ y,cutTT t s.id=some y→y.Small:=fun y h=>editT_small ht (by omega) hs htx (by rw [← deed_edit hok s hd,hdT]; exact h)
 have f3:=changed_cut t ht s.id _ hsm fun l es h1 h2 h3 h4=>by have:=cutDo' l h2 (by rw [h1]; exact ht) s.id es h3 h4 (by rw [h1]; omega); rwa [h1] at this
 rw [stepT_yes hok hd]
 rw [hok] at f1
 rw [hd,hdv] at f2
 rw [← hdT] at f3
 generalize (deedT t s).bind okO=d at *
 simp only [Stp.cells] at f2 ⊢
 cases s with
 | mk kind sid at_ node text =>
 cases node with
 | mk nid nk nx nks =>
 cases t with
 | mk tid tk tx tks =>
 refine full_of_awp good Try.func12 rfl (by kernel_rfl) (by decide) ?_
 conv=>whnf
 refine .inl (f1.mono ?_)
 rintro r rfl
 conv=>whnf
 refine .inl (f2.mono ?_)
 rintro r rfl
 conv=>whnf
 repeat (refine And.intro (by
          (conv=>whnf)
          rfl) ?_
         conv=>whnf)
 refine .inr (.inl ⟨[0],true,?_⟩)
 conv=>whnf
 refine f3.mono ?_
 rintro o st' ⟨l,es,l1,l2,l3,l4,rfl,rfl⟩
 cases l with
 | mk gid gk gx gh gks =>
 rcases gh with _ | ⟨gb,gc⟩
 all_goals
  conv=>whnf
  refine And.intro ?_ ?_
  all_goals
   conv=>whnf
   refine ⟨[],true,?_⟩
   conv=>whnf
   exact ⟨_,es,l1,l2,l3,l4,rfl,rfl⟩
theorem stepDo_text (t:T) (s:Stp) (ht:t.Small) (hs:s.node.Small) (htx:s.text.length≤1048576) (hok:okT t=true) (hd:deedOk s=true) (hk:s.kind=3):Full Try.prog noY 12 [.agg t.cells,.agg s.cells] [poolO []] (StepR (stepT t s)):=by
 have f1:=implTreeOk t ht
 have f2:=stepDeedOf_pure s hs
 have h20:=okT_size hok
 have hdT:deedT t s=t.upd s.id (setTextT s.text):=by unfold deedT; rw [if_neg (by omega)]; rw [if_neg (by omega)]; rw [if_pos hk]
 have hdv:deedV s=.iface 117 (.agg [.int .i64 s.id,.str s.text]):=by unfold deedV; rw [if_neg (by omega)]; rw [if_neg (by omega)]; rw [if_pos hk]
 have hsm:∀ y,t.upd s.id (setTextT s.text)=some y→y.Small:=fun y h=>editT_small ht (by omega) hs htx (by rw [← deed_edit hok s hd,hdT]; exact h)
 have f3:=changed_text t ht s.id s.text _ hsm fun l es h1 h2 h3 h4=>by have:=textDo' l h2 s.id s.text es h3 h4 (by rw [h1]; omega); rwa [h1] at this
 rw [stepT_yes hok hd]
 rw [hok] at f1
 rw [hd,hdv] at f2
 rw [← hdT] at f3
 generalize (deedT t s).bind okO=d at *
 simp only [Stp.cells] at f2 ⊢
 cases s with
 | mk kind sid at_ node text =>
 cases node with
 | mk nid nk nx nks =>
 cases t with
 | mk tid tk tx tks =>
 refine full_of_awp good Try.func12 rfl (by kernel_rfl) (by decide) ?_
 conv=>whnf
 refine .inl (f1.mono ?_)
 rintro r rfl
 conv=>whnf
 refine .inl (f2.mono ?_)
 rintro r rfl
 conv=>whnf
 repeat (refine And.intro (by
          (conv=>whnf)
          rfl) ?_
         conv=>whnf)
 refine .inr (.inl ⟨[0],true,?_⟩)
 conv=>whnf
 refine f3.mono ?_
 rintro o st' ⟨l,es,l1,l2,l3,l4,rfl,rfl⟩
 cases l with
 | mk gid gk gx gh gks =>
 rcases gh with _ | ⟨gb,gc⟩
 all_goals
  conv=>whnf
  refine And.intro ?_ ?_
  all_goals
   conv=>whnf
   refine ⟨[],true,?_⟩
   conv=>whnf
   exact ⟨_,es,l1,l2,l3,l4,rfl,rfl⟩
theorem stepDo_kind (t:T) (s:Stp) (ht:t.Small) (hs:s.node.Small) (htx:s.text.length≤1048576) (hok:okT t=true) (hd:deedOk s=true) (hk:s.kind=4):Full Try.prog noY 12 [.agg t.cells,.agg s.cells] [poolO []] (StepR (stepT t s)):=by
 have f1:=implTreeOk t ht
 have f2:=stepDeedOf_pure s hs
 have h20:=okT_size hok
 have hdT:deedT t s=t.upd s.id (setKindT s.text):=by unfold deedT; rw [if_neg (by omega)]; rw [if_neg (by omega)]; rw [if_neg (by omega)];
 have hdv:deedV s=.iface 119 (.agg [.int .i64 s.id,.str s.text]):=by unfold deedV; rw [if_neg (by omega)]; rw [if_neg (by omega)]; rw [if_neg (by omega)]; rw [if_pos hk]
 have hsm:∀ y,t.upd s.id (setKindT s.text)=some y→y.Small:=fun y h=>editT_small ht (by omega) hs htx (by rw [← deed_edit hok s hd,hdT]; exact h)
 have f3:=changed_kind t ht s.id s.text _ hsm fun l es h1 h2 h3 h4=>by have:=kindDo' l h2 s.id s.text es h3 h4 (by rw [h1]; omega); rwa [h1] at this
 rw [stepT_yes hok hd]
 rw [hok] at f1
 rw [hd,hdv] at f2
 rw [← hdT] at f3
 generalize (deedT t s).bind okO=d at *
 simp only [Stp.cells] at f2 ⊢
 cases s with
 | mk kind sid at_ node text =>
 cases node with
 | mk nid nk nx nks =>
 cases t with
 | mk tid tk tx tks =>
 refine full_of_awp good Try.func12 rfl (by kernel_rfl) (by decide) ?_
 conv=>whnf
 refine .inl (f1.mono ?_)
 rintro r rfl
 conv=>whnf
 refine .inl (f2.mono ?_)
 rintro r rfl
 conv=>whnf
 repeat (refine And.intro (by
          (conv=>whnf)
          rfl) ?_
         conv=>whnf)
 refine .inr (.inl ⟨[0],true,?_⟩)
 conv=>whnf
 refine f3.mono ?_
 rintro o st' ⟨l,es,l1,l2,l3,l4,rfl,rfl⟩
 cases l with
 | mk gid gk gx gh gks =>
 rcases gh with _ | ⟨gb,gc⟩
 all_goals
  conv=>whnf
  refine And.intro ?_ ?_
  all_goals
   conv=>whnf
   refine ⟨[],true,?_⟩
   conv=>whnf
   exact ⟨_,es,l1,l2,l3,l4,rfl,rfl⟩
theorem implStepDo_acc (t:T) (s:Stp) (ht:t.Small) (hs:s.node.Small) (htx:s.text.length≤1048576):Full Try.prog noY 12 [.agg t.cells,.agg s.cells] [poolO []] (StepR (stepT t s)):=by
 cases hok:okT t with
 | false=>exact stepDo_bad t s ht hok
 | true =>
   cases hd:deedOk s with
   | false=>exact stepDo_no t s ht hs hok hd
   | true =>
     have hk:s.kind=1∨s.kind=2∨s.kind=3∨s.kind=4:=by
      refine Decidable.byContradiction fun h=>?_
      simp only [not_or] at h
      unfold deedOk at hd
      rw [if_neg h.1,if_neg h.2.1,if_neg h.2.2.1,if_neg h.2.2.2] at hd
      cases hd
     rcases hk with hk | hk | hk | hk
     · exact stepDo_put t s ht hs htx hok hd hk
     · exact stepDo_cut t s ht hs htx hok hd hk
     · exact stepDo_text t s ht hs htx hok hd hk
     · exact stepDo_kind t s ht hs htx hok hd hk
def NewB (r:T × Bool) (o:Out) (st':St):Prop:=∃ l:LT,l.erase=r.1∧l.Wf∧(l.ents.map labOf).Nodup∧o=.ret (.tup [.agg l.cells,.bool r.2])∧st'=[poolO l.ents]
theorem implStepDo_new (t:T) (s:Stp) (ht:t.Small) (hs:s.node.Small) (htx:s.text.length≤1048576):Full Try.prog noY 12 [.agg t.cells,.agg s.cells] [] (NewB (stepT t s)):=by
 refine Full.start (Full.shrink (implStepDo_acc t s ht hs htx) ?_)
 rintro o st' ⟨l,es,h1,h2,h3,h4,rfl,rfl⟩
 exact ⟨es,l.ents,rfl,h3,h4,l,h1,h2,h4,rfl,rfl⟩
end Go.Cod
namespace Go.Cod
open Go Go.Proofs Go.ChangeShapes Go.WideShapes Go.ChangeAt Go.RowKit
set_option maxRecDepth 10000
def stpC (s:Stp) (l:LT):List V:=[.int .i64 s.kind,.int .i64 s.id,.int .i64 s.at_]++l.cells++[.str s.text]
theorem stp_view (s:Stp) (l:LT) (hl:l.erase=s.node) (hw:l.Wf) {es:List (List V)} (he:∀ e∈l.ents,e∈es):View es (.agg (stpC s l)) (.agg s.cells):=by
 have hv:=l.view hw he
 rw [hl] at hv
 obtain ⟨kind,sid,at_,node,text⟩:=s
 simp only at hv
 cases node with
 | mk nid nk nx nks =>
 cases l with
 | mk a b c d e =>
 refine .agg rfl fun i x y h1 h2=>?_
 match i,h1,h2 with
 | 0,h1,h2=>cases h1; cases h2; exact .same _
 | 1,h1,h2=>cases h1; cases h2; exact .same _
 | 2,h1,h2=>cases h1; cases h2; exact .same _
 | 3,h1,h2=>exact hv.2 0 x y h1 h2
 | 4,h1,h2=>exact hv.2 1 x y h1 h2
 | 5,h1,h2=>exact hv.2 2 x y h1 h2
 | 6,h1,h2=>exact hv.2 3 x y h1 h2
 | 7,h1,h2=>cases h1; cases h2; exact .same _
 | i+8,h1,h2=>simp [stpC,LT.cells] at h1
end Go.Cod
namespace Go.Cod
open Go Go.Proofs Go.ChangeShapes Go.WideShapes Go.ChangeAt Go.RowKit
set_option maxRecDepth 10000
theorem implStepDo_pure (t:T) (s:Stp) (ht:t.Small) (hs:s.node.Small) (htx:s.text.length≤1048576):Pure Try.prog 12 [.agg t.cells,.agg s.cells] (·=.tup [.agg (stepT t s).1.cells,.bool (stepT t s).2]):=by
 refine Full.freeze (implStepDo_new t s ht hs htx) ?_
 rintro o st' ⟨l,h1,h2,h3,rfl,rfl⟩
 have hv:=viewL2 (y':=.bool (stepT t s).2) (l.viewA h2 (es:=l.ents) (fun _ h=>h)) (.same _)
 refine ⟨_,_,.tup [.agg l.erase.cells,.bool (stepT t s).2],rfl,rfl,.tup hv.1 hv.2,?_,?_⟩
 · cases l with
   | mk id kind text h kids=>rcases h with _ | ⟨b,c⟩ <;> rfl
 · rw [h1]
end Go.Cod
namespace Go.Cod
open Go Go.Proofs Go.ChangeShapes Go.WideShapes Go.ChangeAt Go.RowKit
set_option maxRecDepth 10000
def Stp.Dr (s:Stp):Prop:=s.node.Small∧s.node.size≤256∧s.text.length≤1000
def EdR (bs:List UInt8) (p k:Int) (o:Out) (st':St):Prop:=∃ (s:Stp) (p' k':Int),s.Dr∧p≤p'∧p'≤p+1000∧0≤k'∧k'≤k+1000∧o=.ret (.agg s.cells)∧st'=[rdO bs p',nxO k']
theorem noneS_small:(T.mk 0 [] [] []).Small:=.mk (by omega) (by simp) (by simp) (by simp) (by simp)
set_option maxHeartbeats 8000000 in
theorem l11Edit_full (bs:List UInt8) (hb:bs.length≤2000) (p k:Int) (p0:0≤p) (p1:p≤10000000) (k0:0≤k) (k1:k≤1000000) (t:T) (ht:t.Small) (hz:t.size≤600000) :
 Full Try.prog noY 59 [.ptr 0 0 0,.agg t.cells,.ptr 1 0 0] [rdO bs p,nxO k] (EdR bs p k):=by
 have hn:=T.ids_size t
 have hi:=l2Ids_pure t ht (by omega)
 have hl:(irows t.ids).length=t.ids.length:=by simp [irows]
 have hp:∀ (q n:Int),0≤q→q≤1073741824→Full Try.prog noY 30 [.ptr 0 0 0,.int .i64 n] [rdO bs q] fun o st'=>∃ m:Int,0≤m∧(1≤n→m < n)∧o=.ret (.int .i64 m)∧st'=[rdO bs (q+1)]:=fun q n h0 h1=>pick_full bs q n hb h0 h1
 have ho:∀ (q:Int) (ss:List (List UInt8)),0≤q→q≤1073741824→1≤ss.length→ss.length≤1048576→Full Try.prog noY 63 [.ptr 0 0 0,.sl (drows ss)] [rdO bs q] fun o st'=>∃ s∈ss,o=.ret (.str s)∧st'=[rdO bs (q+1)]:=fun q ss h0 h1 h2 h3=>of_full bs q ss hb h0 h1 h2 h3
 have hx:=fun q h0 h1=>l11Text_full bs q hb h0 h1
 have hT:=l11Tree_3 bs hb
 have hpos:=size_pos t
 have hg:∀ (m:Int),0≤m→m < t.ids.length→∃ x:Int,(irows t.ids)[m.toNat]? = some [.int .i64 x]:=fun m h0 h1=>by
  have:m.toNat < t.ids.length:=by omega
  exact ⟨t.ids[m.toNat],by simp [irows,this]⟩
 have hf:=fun x=>l2Find_pure t ht x
 have hfx:∀ x,∃ (s:T) (b:Bool),fR (fT t x)=.tup [.agg s.cells,.bool b]∧s.size≤600000:=fun x=>by
  cases h:fT t x with
  | none=>exact ⟨TZ,false,rfl,by simp [TZ,T.size,T.sizeL]⟩
  | some s=>exact ⟨s,true,rfl,by have:=fT_size t x s h; omega⟩
 have hkl:∀ s:T,s.size≤600000→s.kids.length≤600000:=fun s h=>by
  have h2:∀ ts:List T,ts.length≤T.sizeL ts:=length_le_sizeL
  have h3:=T.kids_size s
  have:=h2 s.kids
  omega
 generalize irows t.ids=rows at *
 generalize t.ids.length=n at *
 cases t with
 | mk id kind text kids =>
 refine full_of_awp good Try.func59 rfl (by kernel_rfl) (by decide) ?_
 conv=>whnf
 refine .inl (hi.mono ?_)
 rintro r rfl
 conv=>whnf
 refine ⟨[0],false,?_⟩
 conv=>whnf
 refine (hp p _ p0 (by omega)).mono ?_
 rintro o st' ⟨c,c0,c1,rfl,rfl⟩
 obtain ⟨x,hgx⟩:=hg c c0 (by have:=c1 (by omega); omega)
 conv=>whnf
 refine ⟨c0,_,_,1,rfl,hgx,rfl,rfl,?_⟩
 conv=>whnf
 refine .inl ((hf x).mono ?_)
 rintro r rfl
 obtain ⟨y,yb,hy1,hy2⟩:=hfx x
 rw [hy1]
 have hyk:=hkl y hy2
 cases y with
 | mk yid yk yt yks =>
 simp only [T.kids] at hyk
 have hyl:=Go.Cod.rows_len yks
 conv=>whnf
 refine ⟨[0],false,?_⟩
 conv=>whnf
 refine (hp (p+1) 7 (by omega) (by omega)).mono ?_
 rintro o st' ⟨d,d0,d1,rfl,rfl⟩
 conv=>whnf
 have hend:∀ (s:Stp) (p' k':Int),s.Dr→p≤p'→p'≤p+1000→0≤k'→k'≤k+1000→EdR bs p k (.ret (.agg s.cells)) [rdO bs p',nxO k']:=fun s p' k' h1 h2 h3 h4 h5=>⟨s,p',k',h1,h2,h3,h4,h5,rfl,rfl⟩
 have hsec:kSec∈kinds11:=by decide
 have hput:∀ (kd:List UInt8) (k':Int),kd∈kinds11→0≤k'→k'≤1000000→Full Try.prog noY 80 [.ptr 0 0 0,.str kd,.int .i64 3,.ptr 1 0 0] [rdO bs (p+1+1+1+1),nxO k'] (TreeR bs (p+1+1+1+1) k' 256):=fun kd k' h1 h2 h3=>hT (p+1+1+1+1) k' kd (by omega) (by omega) h2 (by omega) h1
 have hw:90 < k.tmod 100→IntKind.i64.wrap (k - 50)=k - 50∧0≤k - 50:=fun h3=>by
  have h5:k.tmod 100≤k:=by rw [Int.tmod_eq_emod_of_nonneg k0]; omega
  exact ⟨wrap64 (by omega) (by omega),by omega⟩
 have hw0:90 < k.tmod 100→0≤k - 50:=fun h=>(hw h).2
 have hsec:kSec∈kinds11:=by decide
 have hput:∀ (kd:List UInt8) (k':Int),kd∈kinds11→0≤k'→k'≤1000000→Full Try.prog noY 80 [.ptr 0 0 0,.str kd,.int .i64 3,.ptr 1 0 0] [rdO bs (p+1+1+1+1),nxO k'] (TreeR bs (p+1+1+1+1) k' 256):=fun kd k' h1 h2 h3=>hT (p+1+1+1+1) k' kd (by omega) (by omega) h2 (by omega) h1
 have hw:90 < k.tmod 100→IntKind.i64.wrap (k - 50)=k - 50∧0≤k - 50:=fun h3=>by
  have h5:k.tmod 100≤k:=by rw [Int.tmod_eq_emod_of_nonneg k0]; omega
  exact ⟨wrap64 (by omega) (by omega),by omega⟩
 have hw0:90 < k.tmod 100→0≤k - 50:=fun h=>(hw h).2
 by_cases e0:d=0
 · rw [eqB_t e0]
   conv=>whnf
   refine ⟨[0],false,?_⟩
   conv=>whnf
   refine (ho (p+1+1) [[112,97,114],[112,97,114],[115,101,99],[110,111,116,101],[116,105,116,108,101]] (by omega) (by omega) (by simp) (by simp)).mono ?_
   rintro o st' ⟨kd,hkd,rfl,rfl⟩
   have hkd:kd∈kinds11:=by
    simp only [List.mem_cons,List.not_mem_nil,or_false] at hkd
    simp only [kinds11,kPar,kSec,kNote,kTitle,List.mem_cons,List.not_mem_nil,or_false]
    rcases hkd with rfl | rfl | rfl | rfl | rfl <;> simp
   conv=>whnf
   by_cases hdoc:yk=[100,111,99]
   case' pos =>
    rw [eqS_t hdoc]
    conv=>whnf
   case' neg =>
    rw [eqS_f hdoc]
    conv=>whnf
   all_goals
    refine ⟨by omega,?_⟩
    conv=>whnf
    by_cases hm:90 < k.tmod 100
    · rw [ltB_t hm]
      conv=>whnf
      rw [(hw hm).1]
      refine ⟨[0],false,?_⟩
      conv=>whnf
      refine (hp (p+1+1+1) _ (by omega) (by omega)).mono ?_
      rintro o st' ⟨c,c0,c1,rfl,rfl⟩
      conv=>whnf
      refine ⟨[0,1],false,?_⟩
      conv=>whnf
      first
       | refine (hput kSec (k - 50) hsec (by first | omega | exact hw0 hm) (by omega)).mono ?_
       | refine (hput kd (k - 50) hkd (by first | omega | exact hw0 hm) (by omega)).mono ?_
      rintro o st' ⟨nt,p',k',n1,n2,n3,n4,n5,n6,rfl,rfl⟩
      rcases nt with ⟨ni,nk,nx,nks⟩
      conv=>whnf
      refine ⟨[],false,?_⟩
      conv=>whnf
      exact hend ⟨1,x,c,.mk ni nk nx nks,[]⟩ p' k' ⟨n1,by show (T.mk ni nk nx nks).size≤256; omega,by simp⟩ (by omega) (by omega) (by omega) (by omega)
    · rw [ltB_f (by omega)]
      conv=>whnf
      refine ⟨[0],false,?_⟩
      conv=>whnf
      refine (hp (p+1+1+1) _ (by omega) (by omega)).mono ?_
      rintro o st' ⟨c,c0,c1,rfl,rfl⟩
      conv=>whnf
      refine ⟨[0,1],false,?_⟩
      conv=>whnf
      first
       | refine (hput kSec k hsec (by first | omega | exact hw0 hm) (by omega)).mono ?_
       | refine (hput kd k hkd (by first | omega | exact hw0 hm) (by omega)).mono ?_
      rintro o st' ⟨nt,p',k',n1,n2,n3,n4,n5,n6,rfl,rfl⟩
      rcases nt with ⟨ni,nk,nx,nks⟩
      conv=>whnf
      refine ⟨[],false,?_⟩
      conv=>whnf
      exact hend ⟨1,x,c,.mk ni nk nx nks,[]⟩ p' k' ⟨n1,by show (T.mk ni nk nx nks).size≤256; omega,by simp⟩ (by omega) (by omega) (by omega) (by omega)
 rw [eqB_f e0]
 conv=>whnf
 by_cases e1:d=1
 · rw [eqB_t e1]
   conv=>whnf
   refine ⟨[0],false,?_⟩
   conv=>whnf
   refine (ho (p+1+1) [[112,97,114],[112,97,114],[115,101,99],[110,111,116,101],[116,105,116,108,101]] (by omega) (by omega) (by simp) (by simp)).mono ?_
   rintro o st' ⟨kd,hkd,rfl,rfl⟩
   have hkd:kd∈kinds11:=by
    simp only [List.mem_cons,List.not_mem_nil,or_false] at hkd
    simp only [kinds11,kPar,kSec,kNote,kTitle,List.mem_cons,List.not_mem_nil,or_false]
    rcases hkd with rfl | rfl | rfl | rfl | rfl <;> simp
   conv=>whnf
   by_cases hdoc:yk=[100,111,99]
   case' pos =>
    rw [eqS_t hdoc]
    conv=>whnf
   case' neg =>
    rw [eqS_f hdoc]
    conv=>whnf
   all_goals
    refine ⟨by omega,?_⟩
    conv=>whnf
    by_cases hm:90 < k.tmod 100
    · rw [ltB_t hm]
      conv=>whnf
      rw [(hw hm).1]
      refine ⟨[0],false,?_⟩
      conv=>whnf
      refine (hp (p+1+1+1) _ (by omega) (by omega)).mono ?_
      rintro o st' ⟨c,c0,c1,rfl,rfl⟩
      conv=>whnf
      refine ⟨[0,1],false,?_⟩
      conv=>whnf
      first
       | refine (hput kSec (k - 50) hsec (by first | omega | exact hw0 hm) (by omega)).mono ?_
       | refine (hput kd (k - 50) hkd (by first | omega | exact hw0 hm) (by omega)).mono ?_
      rintro o st' ⟨nt,p',k',n1,n2,n3,n4,n5,n6,rfl,rfl⟩
      rcases nt with ⟨ni,nk,nx,nks⟩
      conv=>whnf
      refine ⟨[],false,?_⟩
      conv=>whnf
      exact hend ⟨1,x,c,.mk ni nk nx nks,[]⟩ p' k' ⟨n1,by show (T.mk ni nk nx nks).size≤256; omega,by simp⟩ (by omega) (by omega) (by omega) (by omega)
    · rw [ltB_f (by omega)]
      conv=>whnf
      refine ⟨[0],false,?_⟩
      conv=>whnf
      refine (hp (p+1+1+1) _ (by omega) (by omega)).mono ?_
      rintro o st' ⟨c,c0,c1,rfl,rfl⟩
      conv=>whnf
      refine ⟨[0,1],false,?_⟩
      conv=>whnf
      first
       | refine (hput kSec k hsec (by first | omega | exact hw0 hm) (by omega)).mono ?_
       | refine (hput kd k hkd (by first | omega | exact hw0 hm) (by omega)).mono ?_
      rintro o st' ⟨nt,p',k',n1,n2,n3,n4,n5,n6,rfl,rfl⟩
      rcases nt with ⟨ni,nk,nx,nks⟩
      conv=>whnf
      refine ⟨[],false,?_⟩
      conv=>whnf
      exact hend ⟨1,x,c,.mk ni nk nx nks,[]⟩ p' k' ⟨n1,by show (T.mk ni nk nx nks).size≤256; omega,by simp⟩ (by omega) (by omega) (by omega) (by omega)
 rw [eqB_f e1]
 conv=>whnf
 by_cases e2:d=2
 · rw [eqB_t e2]
   conv=>whnf
   refine ⟨[],false,?_⟩
   conv=>whnf
   exact hend ⟨2,x,0,.mk 0 [] [] [],[]⟩ _ k ⟨noneS_small,by simp [T.size,T.sizeL],by simp⟩ (by omega) (by omega) (by omega) (by omega)
 rw [eqB_f e2]
 conv=>whnf
 by_cases e3:d=3
 · rw [eqB_t e3]
   conv=>whnf
   refine ⟨[0],false,?_⟩
   conv=>whnf
   refine (hp (p+1+1) 3 (by omega) (by omega)).mono ?_
   rintro o st' ⟨c,c0,c1,rfl,rfl⟩
   conv=>whnf
   by_cases e4:c=0
   · rw [eqB_t e4]
     conv=>whnf
     refine ⟨[0],false,?_⟩
     conv=>whnf
     refine (ho (p+1+1+1) [[112,97,114],[110,111,116,101],[115,101,99],[116,105,116,108,101],[120]] (by omega) (by omega) (by simp) (by simp)).mono ?_
     rintro o st' ⟨kd,hkd,rfl,rfl⟩
     have hkl:kd.length≤1000:=by
      simp only [List.mem_cons,List.not_mem_nil,or_false] at hkd
      rcases hkd with rfl | rfl | rfl | rfl | rfl <;> decide
     conv=>whnf
     refine ⟨[],false,?_⟩
     conv=>whnf
     exact hend ⟨4,x,0,.mk 0 [] [] [],kd⟩ _ k ⟨noneS_small,by simp [T.size,T.sizeL],hkl⟩ (by omega) (by omega) (by omega) (by omega)
   · rw [eqB_f e4]
     conv=>whnf
     refine ⟨[0],false,?_⟩
     conv=>whnf
     refine (hx (p+1+1+1) (by omega) (by omega)).mono ?_
     rintro o st' ⟨tx,htx,rfl,rfl⟩
     conv=>whnf
     refine ⟨[],false,?_⟩
     conv=>whnf
     exact hend ⟨3,x,0,.mk 0 [] [] [],tx⟩ _ k ⟨noneS_small,by simp [T.size,T.sizeL],by simp only; omega⟩ (by omega) (by omega) (by omega) (by omega)
 · rw [eqB_f e3]
   conv=>whnf
   refine ⟨[0],false,?_⟩
   conv=>whnf
   refine (hx (p+1+1) (by omega) (by omega)).mono ?_
   rintro o st' ⟨tx,htx,rfl,rfl⟩
   conv=>whnf
   refine ⟨[],false,?_⟩
   conv=>whnf
   exact hend ⟨3,x,0,.mk 0 [] [] [],tx⟩ _ k ⟨noneS_small,by simp [T.size,T.sizeL],by simp only; omega⟩ (by omega) (by omega) (by omega) (by omega)
end Go.Cod
namespace Go.Cod
open Go Go.Proofs Go.ChangeShapes Go.WideShapes Go.ChangeAt Go.RowKit
set_option maxRecDepth 10000
end Go.Cod
namespace Go.Cod
open Go Go.Proofs
set_option maxRecDepth 10000
mutual
def T.hd:T→List (Int × List UInt8 × List UInt8)
 | .mk id kind text kids=>(id,kind,text)::T.hdL kids
def T.hdL:List T→List (Int × List UInt8 × List UInt8)
 | []=>[]
 | t::ts=>t.hd++T.hdL ts
end
end Go.Cod
namespace Go.Cod
open Go Go.Proofs
set_option maxRecDepth 10000
def goT (t0:T):T→List Stp→T × Bool
 | x,[]=>(x,true)
 | x,s::ls=>match doT x s with
   | some y=>goT t0 y ls
   | none=>(t0,false)
def stepsT (t:T) (ls:List Stp):T × Bool:=if okT t=true then goT t t ls else (TZ,false)
def prows (ls:List Stp):List (List V):=ls.map Stp.cells
theorem prows_len (ls:List Stp):(prows ls).length=ls.length:=by simp [prows]
theorem prows_get (ls:List Stp) (i:Nat) (h:i < ls.length):(prows ls)[i]? = some ls[i].cells:=by simp [prows,h]
theorem goT_drop (t0 x:T) (ls:List Stp) (i:Nat) (h:i < ls.length):goT t0 x (ls.drop i)=match doT x ls[i] with
 | some y=>goT t0 y (ls.drop (i+1))
 | none=>(t0,false):=by
 rw [List.drop_eq_getElem_cons h]; rfl
theorem treeCopy_pure (t:T) (ht:t.Small):Pure Try.prog 42 [.agg t.cells] (·=.agg t.cells):=by
 refine Full.freeze (Full.start (treeCopy_acc t ht [])) ?_
 rintro o st' ⟨l,h1,h2,rfl,rfl⟩
 refine ⟨_,_,.agg l.erase.cells,rfl,rfl,l.viewA h2 (fun e he=>by simpa using he),?_,by rw [h1]⟩
 cases l with
 | mk id kind text h kids=>rcases h with _ | ⟨b,c⟩ <;> rfl
def Stp.Sm (s:Stp):Prop:=s.node.Small∧s.node.size≤1048577∧s.text.length≤1048576
theorem doT_small {t:T} {s:Stp} {y:T} (ht:t.Small) (hok:okT t=true) (hs:s.Sm) (h:doT t s=some y):y.Small∧okT y=true:=by
 obtain ⟨h1,h2⟩:=doT_ok h
 exact ⟨editT_small ht (by have:=okT_size hok; omega) hs.1 hs.2.2 h1,h2⟩
set_option maxHeartbeats 8000000 in
theorem implStepsDo_pure (t:T) (ls:List Stp) (ht:t.Small) (hls:∀ s∈ls,s.Sm) (hl:ls.length≤1048576):Pure Try.prog 19 [.agg t.cells,.sl (prows ls)] (·=.tup [.agg (stepsT t ls).1.cells,.bool (stepsT t ls).2]):=by
 have f1:=implTreeOk t ht
 have f2:=treeCopy_pure t ht
 have hst:stepsT t ls=if okT t=true then goT t t ls else (TZ,false):=rfl
 have hlen:=prows_len ls
 have hget:=prows_get ls
 generalize stepsT t ls=res at *
 generalize prows ls=rows at *
 cases hok:okT t with
 | false =>
   rw [hok] at f1 hst
   rw [if_neg (by simp)] at hst
   subst hst
   cases t with
   | mk tid tk tx tks =>
   refine pure_of_awp good Try.func19 rfl (by kernel_rfl) (by decide) ?_
   conv=>whnf
   refine .inl (f1.mono ?_)
   rintro r rfl
   conv=>whnf
   rfl
 | true =>
   rw [hok] at f1 hst
   rw [if_pos rfl] at hst
   have hgo:goT t t ls=goT t t (ls.drop 0):=rfl
   rw [hgo] at hst
   have hD:∀ x i (h:i < ls.length),goT t x (ls.drop i)=match doT x ls[i] with
    | some y=>goT t y (ls.drop (i+1))
    | none=>(t,false):=fun x i h=>goT_drop t x ls i h
   have hE:∀ x,goT t x (ls.drop ls.length)=(x,true):=fun x=>by rw [List.drop_of_length_le (by omega)]; rfl
   have hok':=hok
   have ht':=ht
   obtain ⟨tc,htc⟩:∃ tc,tc=t:=⟨_,rfl⟩
   cases t with
   | mk tid tk tx tks =>
   refine pure_of_awp good Try.func19 rfl (by kernel_rfl) (by decide) ?_
   conv=>whnf
   refine .inl (f1.mono ?_)
   rintro r rfl
   conv=>whnf
   refine .inl (f2.mono ?_)
   rintro r rfl
   conv=>whnf
   refine loop_drop (fun n fr st=>∃ (i:Nat) (x:T),n+i=ls.length∧x.Small∧okT x=true∧res=goT (.mk tid tk tx tks) x (ls.drop i)∧st=[⟨[[.int .i64 tid,.str tk,.str tx,.sl (T.rows tks)]],4,true,true,true,.cell⟩,⟨[zrow],4,true,true,true,.cell⟩,⟨[x.cells],4,true,true,true,.cell⟩] ∧
    Holds fr [(2,.ptr 0 0 0),(4,.ptr 1 0 0),(6,.ptr 2 0 0),(17,.sl rows),(18,.int .i64 ls.length),(19,.int .i64 i)]) ls.length none
    ⟨0,_,rfl,ht',hok',hst,rfl,rfl,rfl,rfl,rfl,by rw [← hlen]; rfl,rfl,trivial⟩ ?_
   rintro n fr st ⟨i,x,hi,x1,x2,x3,rfl,hh⟩
   obtain ⟨fr,rfl⟩:=hh.split
   clear hh
   conv=>whnf
   by_cases hlt:i < ls.length
   · rw [ltB_t (by omega)]
     have hg:=hget i hlt
     have hs:=hls ls[i] (List.getElem_mem _)
     have hd:=hD x i hlt
     have f3:=implStepDo_pure x ls[i] x1 hs.1 hs.2.2
     have hsm:=fun y=>doT_small (y:=y) x1 x2 hs
     have hw:V.int .i64 (IntKind.i64.wrap ((i:Int)+1))=.int .i64 ((i+1:Nat):Int):=by rw [wrap64 (by omega) (by omega)]; simp
     have hyes:∀ y,doT x ls[i]=some y→stepT x ls[i]=(y,true):=fun y h=>by unfold stepT; rw [if_pos x2,h]
     have hno:doT x ls[i]=none→stepT x ls[i]=(x,false):=fun h=>by unfold stepT; rw [if_pos x2,h]
     generalize ls[i]=s at *
     obtain ⟨sk,sid,sat,sn,stx⟩:=s
     cases sn with
     | mk ni nk nx nks =>
     cases hdo:doT x ⟨sk,sid,sat,.mk ni nk nx nks,stx⟩ with
     | none =>
       rw [hno hdo] at f3
       rw [hdo] at hd
       cases x with
       | mk xi xk xx xks =>
       conv=>whnf
       refine ⟨by omega,rows,_,8,rfl,hg,rfl,rfl,?_⟩
       conv=>whnf
       refine .inl (f3.mono ?_)
       rintro r rfl
       conv=>whnf
       refine .inl (f2.mono ?_)
       rintro r rfl
       conv=>whnf
       rw [x3,hd]
       rfl
     | some y =>
       rw [hyes y hdo] at f3
       rw [hdo] at hd
       obtain ⟨y1,y2⟩:=hsm y hdo
       cases x with
       | mk xi xk xx xks =>
       cases y with
       | mk yi yk yx yks =>
       conv=>whnf
       refine ⟨by omega,rows,_,8,rfl,hg,rfl,rfl,?_⟩
       conv=>whnf
       refine .inl (f3.mono ?_)
       rintro r rfl
       conv=>whnf
       refine ⟨n - 1,by omega,some [0,1,2],?_⟩
       conv=>whnf
       exact ⟨i+1,_,by omega,y1,y2,x3.trans hd,rfl,rfl,rfl,rfl,rfl,rfl,hw,trivial⟩
   · rw [ltB_f (by omega)]
     have hil:i=ls.length:=by omega
     subst hil
     rw [hE] at x3
     cases x with
     | mk xi xk xx xks =>
     conv=>whnf
     rw [x3]
     rfl
end Go.Cod
namespace Go.Cod
open Go Go.Proofs
set_option linter.all false
set_option maxRecDepth 10000
def Stp.cellsN (s:Stp):List V:=[.int .i64 s.kind,.int .i64 s.id,.int .i64 s.at_]++(if s.kind=1 then s.node.cells else [.int .i64 0,.str [],.str [],.nils])++[.str s.text]
def nrows (ls:List Stp):List (List V):=ls.map Stp.cellsN
theorem nrows_len (ls:List Stp):(nrows ls).length=ls.length:=by simp [nrows]
theorem nrows_append (a b:List Stp):nrows (a++b)=nrows a++nrows b:=by simp [nrows]
theorem nrows_wid (ls:List Stp):∀ m∈nrows ls,m.length=8:=by
 intro m hm
 obtain ⟨s,_,rfl⟩:=List.mem_map.1 hm
 unfold Stp.cellsN
 split
 · simp [T.cells_len4]
 · rfl
set_option maxHeartbeats 4000000 in
theorem diffWords_pure (w i:T):Pure Try.prog 34 [.agg (w.cells++i.cells)] (·=.sl (nrows (wordsOf (w,i)))):=by
 obtain ⟨wi,wk,wx,wks⟩:=w
 obtain ⟨ii,ik,ix,iks⟩:=i
 have hwd:wordsOf (T.mk wi wk wx wks,T.mk ii ik ix iks)=(if wk≠ik then [⟨4,ii,0,TZ,ik⟩] else [])++(if wx≠ix then [⟨3,ii,0,TZ,ix⟩] else []):=rfl
 rw [hwd]
 refine pure_of_awp good Try.func34 rfl (by kernel_rfl) (by decide) ?_
 conv=>whnf
 rw [eqS_def]
 by_cases h1:wk=ik
 · rw [decide_eq_true h1,if_neg (by simp [h1])]
   conv=>whnf
   rw [eqS_def]
   by_cases h2:wx=ix
   · rw [decide_eq_true h2,if_neg (by simp [h2])]
     conv=>whnf
     rfl
   · rw [decide_eq_false h2,if_pos h2]
     conv=>whnf
     refine ⟨fun m hm=>by rw [List.mem_singleton.1 hm]; rfl,?_⟩
     conv=>whnf
     refine ⟨by show 1*104≤_; omega,.inr ⟨(by intro e; cases e),?_⟩⟩
     conv=>whnf
     rfl
 · rw [decide_eq_false h1,if_pos h1]
   conv=>whnf
   refine ⟨fun m hm=>by rw [List.mem_singleton.1 hm]; rfl,?_⟩
   conv=>whnf
   refine ⟨by show 1*104≤_; omega,.inr ⟨(by intro e; cases e),?_⟩⟩
   conv=>whnf
   rw [eqS_def]
   by_cases h2:wx=ix
   · rw [decide_eq_true h2,if_neg (by simp [h2])]
     conv=>whnf
     rfl
   · rw [decide_eq_false h2,if_pos h2]
     conv=>whnf
     refine ⟨fun m hm=>by rw [List.mem_singleton.1 hm]; rfl,?_⟩
     conv=>whnf
     refine ⟨by show (1+1)*104≤_; omega,?_⟩
     conv=>whnf
     rfl
end Go.Cod
