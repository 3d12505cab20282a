import Derived.Test.YtgnnacognpkgoaaCodF
namespace Go.Cod
open Go Go.Proofs
set_option linter.all false
set_option maxRecDepth 10000
def kbO (rows:List (List V)):O:=⟨rows,kindCode .i64,false,true,false,.map⟩
def KeptMap (kept:Int→Bool) (rows:List (List V)):Prop:=∀ x:Int,findRow (.int .i64 x) rows=if kept x then some (.bool true) else none
set_option maxHeartbeats 8000000 in
theorem diffCuts_full (kept:Int→Bool) (rows:List (List V)) (hK:KeptMap kept rows) (id:Int) (kind text:List UInt8) (kids:List T) (hl:kids.length≤1048576) (i:T) :
 Full Try.prog noY 33 [.agg (T.mk id kind text kids).cells,.map 0] [kbO rows] fun o st'=>o=.ret (.sl (nrows (cutsOf kept (.mk id kind text kids,i))))∧st'=[kbO rows]:=by
 have hlr:=Go.Cod.rows_len kids
 have hres:cutsOf kept (.mk id kind text kids,i)=(kids.filter fun k=>!kept k.id).map fun k=>cutStp k.id:=rfl
 rw [hres]
 refine full_of_awp good Try.func33 rfl (by kernel_rfl) (by decide) ?_
 conv=>whnf
 refine loop_drop (fun n fr st=>∃ k:Nat,n+k=kids.length ∧
  ((((kids.take k).filter fun k=>!kept k.id)=[]∧Holds fr [(1,.map 0),(5,.nils),(9,.sl (T.rows kids)),(10,.int .i64 kids.length),(11,.int .i64 k)]∧st=[kbO rows,⟨[[.int .i64 id,.str kind,.str text,.sl (T.rows kids)]],4,true,true,true,.cell⟩]) ∨
   (((kids.take k).filter fun k=>!kept k.id)≠[]∧Holds fr [(1,.map 0),(5,.own 2),(9,.sl (T.rows kids)),(10,.int .i64 kids.length),(11,.int .i64 k)]∧st=[kbO rows,⟨[[.int .i64 id,.str kind,.str text,.sl (T.rows kids)]],4,true,true,true,.cell⟩,⟨nrows (((kids.take k).filter fun k=>!kept k.id).map fun k=>cutStp k.id),8,true,true,false,.cell⟩]))) kids.length none
  ⟨0,rfl,.inl ⟨rfl,⟨rfl,rfl,rfl,by rw [← hlr]; rfl,rfl,trivial⟩,rfl⟩⟩ ?_
 rintro n fr st ⟨k,hk,hst⟩
 by_cases hlt:k < kids.length
 · have hg:=Go.Cod.rows_get kids k hlt
   have htk:(kids.take (k+1)).filter (fun k=>!kept k.id)=((kids.take k).filter fun k=>!kept k.id)++if kept kids[k].id then [] else [kids[k]]:=by
    rw [List.take_succ_eq_append_getElem hlt,List.filter_append]
    congr 1
    cases h:kept kids[k].id <;> simp [h]
   have hf:=hK kids[k].id
   have hwk:V.int .i64 (IntKind.i64.wrap ((k:Int)+1))=.int .i64 ((k+1:Nat):Int):=by rw [wrapJ1 k (by omega)]
   have hln:((kids.take k).filter fun k=>!kept k.id).length≤k:=Nat.le_trans (List.length_filter_le _ _) (by rw [List.length_take]; omega)
   generalize kids[k]=t at *
   generalize (kids.take k).filter (fun k=>!kept k.id)=L at *
   obtain ⟨ti,tk,tx,tks⟩:=t
   have hti:(T.mk ti tk tx tks).id=ti:=rfl
   rw [hti] at hf htk
   cases hkp:kept ti with
   | true =>
     simp only [hkp,if_true] at hf
     simp only [hkp,if_true,List.append_nil] at htk
     rcases hst with ⟨rfl,hh,rfl⟩ | ⟨hL,hh,rfl⟩
     · obtain ⟨fr,rfl⟩:=hh.split
       clear hh
       conv=>whnf
       rw [ltB_t (by omega)]
       conv=>whnf
       refine ⟨by omega,T.rows kids,_,4,rfl,hg,rfl,rfl,?_⟩
       conv=>whnf
       refine AtKey_intro _ hf ?_
       conv=>whnf
       refine ⟨n - 1,by omega,some [0,1],?_⟩
       conv=>whnf
       exact ⟨k+1,by omega,.inl ⟨htk,⟨rfl,rfl,rfl,rfl,hwk,trivial⟩,rfl⟩⟩
     · obtain ⟨fr,rfl⟩:=hh.split
       clear hh
       conv=>whnf
       rw [ltB_t (by omega)]
       conv=>whnf
       refine ⟨by omega,T.rows kids,_,4,rfl,hg,rfl,rfl,?_⟩
       conv=>whnf
       refine AtKey_intro _ hf ?_
       conv=>whnf
       refine ⟨n - 1,by omega,some [0,1,2],?_⟩
       conv=>whnf
       exact ⟨k+1,by omega,.inr ⟨by rw [htk]; exact hL,⟨rfl,rfl,rfl,rfl,hwk,trivial⟩,by rw [htk]; rfl⟩⟩
   | false =>
     simp only [hkp,Bool.false_eq_true,if_false] at hf
     simp only [hkp,Bool.false_eq_true,if_false] at htk
     rcases hst with ⟨rfl,hh,rfl⟩ | ⟨hL,hh,rfl⟩
     · obtain ⟨fr,rfl⟩:=hh.split
       clear hh
       conv=>whnf
       rw [ltB_t (by omega)]
       conv=>whnf
       refine ⟨by omega,T.rows kids,_,4,rfl,hg,rfl,rfl,?_⟩
       conv=>whnf
       refine AtKey_intro _ hf ?_
       conv=>whnf
       refine ⟨fun m hm=>by rw [List.mem_singleton.1 hm]; rfl,?_⟩
       conv=>whnf
       refine ⟨by show 1*104≤_; omega,.inr ⟨(by intro e; cases e),?_⟩⟩
       conv=>whnf
       refine ⟨n - 1,by omega,some [0,1,4],?_⟩
       conv=>whnf
       exact ⟨k+1,by omega,.inr ⟨by rw [htk]; simp,⟨rfl,rfl,rfl,rfl,hwk,trivial⟩,by rw [htk]; rfl⟩⟩
     · obtain ⟨fr,rfl⟩:=hh.split
       clear hh
       have hnl:(nrows (L.map fun k=>cutStp k.id)).length=L.length:=by rw [nrows_len,List.length_map]
       conv=>whnf
       rw [ltB_t (by omega)]
       conv=>whnf
       refine ⟨by omega,T.rows kids,_,4,rfl,hg,rfl,rfl,?_⟩
       conv=>whnf
       refine AtKey_intro _ hf ?_
       conv=>whnf
       refine ⟨fun m hm=>by rw [List.mem_singleton.1 hm]; rfl,?_⟩
       conv=>whnf
       refine ⟨by
        show ((nrows (L.map fun k=>cutStp k.id)).length+1)*104≤_
        omega,?_⟩
       conv=>whnf
       refine ⟨n - 1,by omega,some [0,1,5],?_⟩
       conv=>whnf
       refine ⟨k+1,by omega,.inr ⟨by rw [htk]; simp,⟨rfl,rfl,rfl,rfl,hwk,trivial⟩,?_⟩⟩
       rw [htk,List.map_append,nrows_append]
       rfl
 · have htk:kids.take k=kids:=List.take_of_length_le (by omega)
   rw [htk] at hst
   rcases hst with ⟨hL,hh,rfl⟩ | ⟨hL,hh,rfl⟩
   all_goals
    obtain ⟨fr,rfl⟩:=hh.split
    clear hh
    conv=>whnf
    rw [ltB_f (by omega)]
    conv=>whnf
    refine ⟨[],false,?_⟩
    conv=>whnf
   · exact ⟨by rw [hL]; rfl,rfl⟩
   · exact ⟨rfl,rfl⟩
end Go.Cod
namespace Go.Cod
open Go Go.Proofs
set_option linter.all false
set_option maxRecDepth 10000
theorem putsL_append (kept:Int→Bool) (x:Int):∀ (a b:List T) (n:Nat),putsL kept x n (a++b)=putsL kept x n a++putsL kept x (n+a.length) b
 | [],b,n=>by simp [putsL]
 | k::ks,b,n=>by
   simp only [List.cons_append,putsL,putsL_append kept x ks b (n+1),List.append_assoc,List.length_cons]
   congr 3
   omega
mutual
theorem puts_len (kept:Int→Bool):∀ t:T,(putsT kept t).length+1≤t.size
 | .mk id kind text kids=>by
   have:=putsL_len kept id 0 kids
   simp only [putsT,T.size]
   omega
theorem putsL_len (kept:Int→Bool) (x:Int):∀ (n:Nat) (ks:List T),(putsL kept x n ks).length≤T.sizeL ks
 | _,[]=>by simp [putsL]
 | n,k::ks=>by
   have h1:=puts_len kept k
   have h2:=putsL_len kept x (n+1) ks
   simp only [putsL,List.length_append,T.sizeL]
   split
   · omega
   · simp only [List.length_singleton]
     omega
end
theorem sizeL_take (ks:List T) (k:Nat):T.sizeL (ks.take k)≤T.sizeL ks:=by
 induction ks generalizing k with
 | nil=>simp
 | cons s ks ih =>
   cases k with
   | zero=>simp [T.sizeL]
   | succ k=>simp only [List.take_succ_cons,T.sizeL]; have:=ih k; omega
set_option maxHeartbeats 8000000 in
theorem diffPuts_run (kept:Int→Bool) (rows:List (List V)) (hK:KeptMap kept rows) (id:Int) (kind text:List UInt8) (kids:List T) (hl:kids.length≤1048576) (hz:T.sizeL kids≤1048576) (hsm:∀ t∈kids,t.Small)
 (ih:∀ t∈kids,Full Try.prog noY 35 [.agg t.cells,.map 0] [kbO rows] fun o st'=>o=.ret (.sl (nrows (putsT kept t)))∧st'=[kbO rows]) :
 Full Try.prog noY 35 [.agg (T.mk id kind text kids).cells,.map 0] [kbO rows] fun o st'=>o=.ret (.sl (nrows (putsT kept (.mk id kind text kids))))∧st'=[kbO rows]:=by
 have hlr:=Go.Cod.rows_len kids
 have hres:putsT kept (.mk id kind text kids)=putsL kept id 0 kids:=by rw [putsT]
 rw [hres]
 refine full_of_draw good Try.func35 rfl (by kernel_rfl) (by decide) fun X hX=>?_
 conv=>whnf
 refine loop_drop (fun n fr st=>∃ k:Nat,n+k=kids.length ∧
  ((putsL kept id 0 (kids.take k)=[]∧Holds fr [(1,.map 0),(2,.ptr 1 0 0),(5,.nils),(9,.sl (T.rows kids)),(10,.int .i64 kids.length),(11,.int .i64 k)]∧st=[kbO rows,⟨[[.int .i64 id,.str kind,.str text,.sl (T.rows kids)]],4,true,true,true,.cell⟩]) ∨
   (putsL kept id 0 (kids.take k)≠[]∧Holds fr [(1,.map 0),(2,.ptr 1 0 0),(5,.own 2),(9,.sl (T.rows kids)),(10,.int .i64 kids.length),(11,.int .i64 k)]∧st=[kbO rows,⟨[[.int .i64 id,.str kind,.str text,.sl (T.rows kids)]],4,true,true,true,.cell⟩,⟨nrows (putsL kept id 0 (kids.take k)),8,true,true,false,.cell⟩]))) kids.length none
  ⟨0,rfl,.inl ⟨rfl,⟨rfl,rfl,rfl,rfl,by rw [← hlr]; rfl,rfl,trivial⟩,rfl⟩⟩ ?_
 rintro n fr st ⟨k,hk,hst⟩
 by_cases hlt:k < kids.length
 · have hg:=Go.Cod.rows_get kids k hlt
   have htk:putsL kept id 0 (kids.take (k+1))=putsL kept id 0 (kids.take k)++if kept kids[k].id then putsT kept kids[k] else [⟨1,id,k,kids[k],[]⟩]:=by
    rw [List.take_succ_eq_append_getElem hlt,putsL_append,List.length_take,Nat.min_eq_left (by omega),Nat.zero_add]
    congr 1
    simp only [putsL,List.append_nil]
   have hf:=hK kids[k].id
   have hwk:V.int .i64 (IntKind.i64.wrap ((k:Int)+1))=.int .i64 ((k+1:Nat):Int):=by rw [wrapJ1 k (by omega)]
   have hln:(putsL kept id 0 (kids.take k)).length≤1048576:=Nat.le_trans (putsL_len kept id 0 _) (Nat.le_trans (sizeL_take _ _) hz)
   have hpn:(putsT kept kids[k]).length≤1048576:=by
    have h1:=puts_len kept kids[k]
    have h2:=sizeL_mem (List.getElem_mem hlt)
    omega
   have hrec:=ih kids[k] (List.getElem_mem hlt)
   have hcp:=treeCopy_pure kids[k] (hsm _ (List.getElem_mem hlt))
   generalize kids[k]=t at *
   generalize putsL kept id 0 (kids.take k)=L at *
   generalize putsT kept t=Q at *
   obtain ⟨ti,tk,tx,tks⟩:=t
   have hti:(T.mk ti tk tx tks).id=ti:=rfl
   rw [hti] at hf htk
   cases hkp:kept ti with
   | true =>
     simp only [hkp,if_true] at hf
     simp only [hkp,if_true] at htk
     have hql:=nrows_len Q
     have hqw:=nrows_wid Q
     rcases hst with ⟨rfl,hh,rfl⟩ | ⟨hL,hh,rfl⟩
     · obtain ⟨fr,rfl⟩:=hh.split
       clear hh
       conv=>whnf
       rw [ltB_t (by omega)]
       conv=>whnf
       refine ⟨by omega,T.rows kids,_,4,rfl,hg,rfl,rfl,?_⟩
       conv=>whnf
       refine AtKey_intro _ hf ?_
       conv=>whnf
       refine ⟨[0],false,?_⟩
       conv=>whnf
       refine hrec.mono ?_
       rintro o st' ⟨rfl,rfl⟩
       conv=>whnf
       refine ⟨hqw,?_⟩
       conv=>whnf
       refine ⟨by
        show (nrows Q).length*104≤_
        omega,?_⟩
       by_cases hq:Q=[]
       · refine .inl ⟨by rw [hq]; rfl,?_⟩
         conv=>whnf
         refine ⟨n - 1,by omega,some [0,1],?_⟩
         conv=>whnf
         exact ⟨k+1,by omega,.inl ⟨by rw [htk,hq]; rfl,⟨rfl,rfl,rfl,rfl,rfl,hwk,trivial⟩,rfl⟩⟩
       · refine .inr ⟨by intro e; exact hq (by simpa [nrows] using e),?_⟩
         conv=>whnf
         refine ⟨n - 1,by omega,some [0,1,3],?_⟩
         conv=>whnf
         exact ⟨k+1,by omega,.inr ⟨by rw [htk]; simpa using hq,⟨rfl,rfl,rfl,rfl,rfl,hwk,trivial⟩,by rw [htk]; rfl⟩⟩
     · obtain ⟨fr,rfl⟩:=hh.split
       clear hh
       have hnl:=nrows_len L
       conv=>whnf
       rw [ltB_t (by omega)]
       conv=>whnf
       refine ⟨by omega,T.rows kids,_,4,rfl,hg,rfl,rfl,?_⟩
       conv=>whnf
       refine AtKey_intro _ hf ?_
       conv=>whnf
       refine ⟨[0],false,?_⟩
       conv=>whnf
       refine hrec.mono ?_
       rintro o st' ⟨rfl,rfl⟩
       conv=>whnf
       refine ⟨hqw,?_⟩
       conv=>whnf
       refine ⟨by
        show ((nrows L).length+(nrows Q).length)*104≤_
        omega,?_⟩
       conv=>whnf
       refine ⟨n - 1,by omega,some [0,1,4],?_⟩
       conv=>whnf
       refine ⟨k+1,by omega,.inr ⟨by rw [htk]; simp [hL],⟨rfl,rfl,rfl,rfl,rfl,hwk,trivial⟩,?_⟩⟩
       rw [htk,nrows_append]
       rfl
   | false =>
     simp only [hkp,Bool.false_eq_true,if_false] at hf
     simp only [hkp,Bool.false_eq_true,if_false] at htk
     rcases hst with ⟨rfl,hh,rfl⟩ | ⟨hL,hh,rfl⟩
     · obtain ⟨fr,rfl⟩:=hh.split
       clear hh
       conv=>whnf
       rw [ltB_t (by omega)]
       conv=>whnf
       refine ⟨by omega,T.rows kids,_,4,rfl,hg,rfl,rfl,?_⟩
       conv=>whnf
       refine AtKey_intro _ hf ?_
       conv=>whnf
       refine draw_go hX ?_
       conv=>whnf
       refine .inl (hcp.mono ?_)
       rintro r rfl
       conv=>whnf
       repeat' (first
        | (refine ⟨fun m hm=>by rw [List.mem_singleton.1 hm]; rfl,?_⟩
           conv=>whnf)
        | (refine And.intro (by (conv=>whnf); rfl) ?_
           conv=>whnf)
        | fail)
       refine ⟨by show 1*104≤_; omega,.inr ⟨(by intro e; cases e),?_⟩⟩
       conv=>whnf
       refine ⟨n - 1,by omega,some [0,1,4],?_⟩
       conv=>whnf
       exact ⟨k+1,by omega,.inr ⟨by rw [htk]; simp,⟨rfl,rfl,rfl,rfl,rfl,hwk,trivial⟩,by rw [htk]; rfl⟩⟩
     · obtain ⟨fr,rfl⟩:=hh.split
       clear hh
       have hnl:=nrows_len L
       conv=>whnf
       rw [ltB_t (by omega)]
       conv=>whnf
       refine ⟨by omega,T.rows kids,_,4,rfl,hg,rfl,rfl,?_⟩
       conv=>whnf
       refine AtKey_intro _ hf ?_
       conv=>whnf
       refine draw_go hX ?_
       conv=>whnf
       refine .inl (hcp.mono ?_)
       rintro r rfl
       conv=>whnf
       repeat' (first
        | (refine ⟨fun m hm=>by rw [List.mem_singleton.1 hm]; rfl,?_⟩
           conv=>whnf)
        | (refine And.intro (by (conv=>whnf); rfl) ?_
           conv=>whnf)
        | fail)
       refine ⟨by
        show ((nrows L).length+1)*104≤_
        omega,?_⟩
       conv=>whnf
       refine ⟨n - 1,by omega,some [0,1,5],?_⟩
       conv=>whnf
       refine ⟨k+1,by omega,.inr ⟨by rw [htk]; simp,⟨rfl,rfl,rfl,rfl,rfl,hwk,trivial⟩,?_⟩⟩
       rw [htk,nrows_append]
       rfl
 · have htk:kids.take k=kids:=List.take_of_length_le (by omega)
   rw [htk] at hst
   rcases hst with ⟨hL,hh,rfl⟩ | ⟨hL,hh,rfl⟩
   all_goals
    obtain ⟨fr,rfl⟩:=hh.split
    clear hh
    conv=>whnf
    rw [ltB_f (by omega)]
    conv=>whnf
    refine ⟨[],false,?_⟩
    conv=>whnf
   · exact ⟨by rw [hL]; rfl,rfl⟩
   · exact ⟨rfl,rfl⟩
theorem diffPuts_full (kept:Int→Bool) (rows:List (List V)) (hK:KeptMap kept rows):∀ t:T,t.Small→t.size≤1048577→Full Try.prog noY 35 [.agg t.cells,.map 0] [kbO rows] fun o st'=>o=.ret (.sl (nrows (putsT kept t)))∧st'=[kbO rows]:=by
 intro t
 induction t using T.ind with
 | h id kd tx ks ih =>
   intro ht hz
   cases ht with
   | mk i1 i2 i3 i4 i5 =>
   simp only [T.size] at hz
   refine diffPuts_run kept rows hK id kd tx ks i4 (by omega) i5 fun t ht=>?_
   have:=sizeL_mem ht
   exact ih t ht (i5 t ht) (by omega)
end Go.Cod
namespace Go.Cod
open Go Go.Proofs
set_option linter.all false
set_option maxRecDepth 10000
theorem putRow_in (l:List Int) (x:Int) (h:x∈l):putRow (.int .i64 x) (.bool true) (seenRows l)=seenRows l:=by
 induction l with
 | nil=>cases h
 | cons a l ih =>
   simp only [seenRows,List.map_cons] at ih ⊢
   by_cases e:a=x
   · subst e; simp [putRow,rowKey,keyEq]
   · have h2:x∈l:=by
      rcases List.mem_cons.1 h with h | h
      · exact absurd h.symm e
      · exact h
     simp only [putRow,rowKey,keyEq,e,decide_false,Bool.false_eq_true,if_false,ih h2]
def seenAdd (l:List Int) (x:Int):List Int:=if x∈l then l else l++[x]
theorem putRow_add (l:List Int) (x:Int):putRow (.int .i64 x) (.bool true) (seenRows l)=seenRows (seenAdd l x):=by
 unfold seenAdd
 by_cases h:x∈l
 · rw [if_pos h,putRow_in l x h]
 · rw [if_neg h,putRow_seen l x h]
theorem mem_add {l:List Int} {x y:Int}:y∈seenAdd l x↔y∈l∨y=x:=by
 unfold seenAdd
 by_cases h:x∈l
 · rw [if_pos h]
   exact ⟨.inl,fun q=>q.elim id fun e=>e ▸ h⟩
 · rw [if_neg h]; simp
theorem prRows_get (P:List (T × T)) (k:Nat) (h:k < P.length):(prRows P)[k]? = some (P[k].1.cells++P[k].2.cells):=by simp [prRows,h]
def accV:List Stp→V
 | []=>.nils
 | _::_=>.own 3
def accO:List Stp→St
 | []=>[]
 | s::ss=>[⟨nrows (s::ss),8,true,true,false,.cell⟩]
theorem fm_len {α:Type} {f:α→List Stp} {m:Nat}:∀ {l:List α},(∀ p∈l,(f p).length≤m)→(l.flatMap f).length≤l.length*m
 | [],_=>by simp
 | p::l,h=>by
   rw [List.flatMap_cons,List.length_append,List.length_cons,Nat.succ_mul]
   have h1:=h p List.mem_cons_self
   have h2:=fm_len (l:=l) fun q hq=>h q (List.mem_cons_of_mem _ hq)
   omega
theorem pairs_small:∀ (i w w' i':T),w.Small→i.Small→(w',i')∈pairsT w i→w'.Small∧i'.Small:=by
 intro i
 induction i using T.ind with
 | h id kd tx ks ih =>
   intro w w' i' hw hi hp
   rw [pairsT_eq] at hp
   rcases List.mem_cons.1 hp with hp | hp
   · cases hp; exact ⟨hw,hi⟩
   · obtain ⟨k,k1,k2,k3⟩:=pairsL_mem hp
     obtain ⟨s,s1,s2,s3⟩:=kidW_some (common_l k2)
     rw [s2] at k3
     cases hi with
     | mk i1 i2 i3 i4 i5 =>
     obtain ⟨wi,wk,wx,wks⟩:=w
     cases hw with
     | mk w1 w2 w3 w4 w5=>exact ih k k1 s w' i' (w5 _ s1) (i5 _ k1) k3
theorem cuts_len (kept:Int→Bool) (w i:T) (h:w.Small):(cutsOf kept (w,i)).length≤1048576:=by
 obtain ⟨wi,wk,wx,wks⟩:=w
 cases h with
 | mk w1 w2 w3 w4 w5 =>
 unfold cutsOf
 rw [List.length_map]
 exact Nat.le_trans (List.length_filter_le _ _) w4
theorem words_len (p:T × T):(wordsOf p).length≤2:=by
 unfold wordsOf
 split <;> split <;> simp
def dsT (a b:T):List Stp × Bool:=if okT a=true∧okT b=true∧a.id=b.id then (diffT a b,true) else ([],false)
set_option maxHeartbeats 16000000 in
theorem implDiffSteps_no (a b:T) (ha:a.Small) (hb:b.Small) (h:¬ (okT a=true∧okT b=true∧a.id=b.id)):Pure Try.prog 8 [.agg a.cells,.agg b.cells] (·=.tup [.sl [],.bool false]):=by
 have f1:=implTreeOk a ha
 have f2:=implTreeOk b hb
 obtain ⟨ai,ak,ax,aks⟩:=a
 obtain ⟨bi,bk,bx,bks⟩:=b
 simp only [T.id] at h
 refine pure_of_awp good Try.func8 rfl (by kernel_rfl) (by decide) ?_
 conv=>whnf
 refine .inl (f1.mono ?_)
 rintro r rfl
 cases h1:okT (.mk ai ak ax aks) with
 | false =>
   conv=>whnf
   rfl
 | true =>
   conv=>whnf
   refine .inl (f2.mono ?_)
   rintro r rfl
   cases h2:okT (.mk bi bk bx bks) with
   | false =>
     conv=>whnf
     rfl
   | true =>
     conv=>whnf
     rw [eqB_f (fun e=>h ⟨h1,h2,e⟩)]
     conv=>whnf
     rfl
set_option maxHeartbeats 16000000 in
theorem implDiffSteps_yes (a b:T) (ha:a.Small) (hb:b.Small) (h1:okT a=true) (h2:okT b=true) (h3:a.id=b.id):Pure Try.prog 8 [.agg a.cells,.agg b.cells] (·=.tup [.sl (nrows (diffT a b)),.bool true]):=by
 have f1:=implTreeOk a ha
 have f2:=implTreeOk b hb
 rw [h1] at f1
 rw [h2] at f2
 have hbn:=((okT_iff' b).1 h2).2.1
 have hbz:=okT_size h2
 have fp:=diffPairs_pure b a ha hb hbn (by omega)
 have hpz:=pairs_len a b
 have hps:=pairs_small b a
 have fc:=fun kept rows (hK:KeptMap kept rows) (w i:T) (hw:w.Small)=>(show Full Try.prog noY 33 [.agg w.cells,.map 0] [kbO rows] fun o st'=>o=.ret (.sl (nrows (cutsOf kept (w,i))))∧st'=[kbO rows] by
  obtain ⟨wi,wk,wx,wks⟩:=w
  cases hw with
  | mk w1 w2 w3 w4 w5=>exact diffCuts_full kept rows hK wi wk wx wks w4 i)
 have fu:=fun kept rows (hK:KeptMap kept rows)=>diffPuts_full kept rows hK b hb (by omega)
 have hpl:∀ kept,(putsT kept b).length≤20:=fun kept=>by have:=puts_len kept b; omega
 have hres:diffT a b=(pairsT a b).flatMap (cutsOf (keptB (pairsT a b)))++((pairsT a b).flatMap wordsOf++putsT (keptB (pairsT a b)) b):=rfl
 rw [hres]
 have hsm:∀ p∈pairsT a b,p.1.Small:=fun p hp=>(hps p.1 p.2 ha hb hp).1
 clear hres hps
 generalize hP:pairsT a b=P at *
 generalize hkp:keptB P=kept at *
 obtain ⟨ai,ak,ax,aks⟩:=a
 obtain ⟨bi,bk,bx,bks⟩:=b
 simp only [T.id] at h3
 have hgl:=prRows_len P
 refine pure_of_awp good Try.func8 rfl (by kernel_rfl) (by decide) ?_
 conv=>whnf
 refine .inl (f1.mono ?_)
 rintro r rfl
 conv=>whnf
 refine .inl (f2.mono ?_)
 rintro r rfl
 conv=>whnf
 rw [eqB_t h3]
 conv=>whnf
 refine .inl (fp.mono ?_)
 rintro r rfl
 conv=>whnf
 refine loop_drop (fun n fr st=>∃ (k:Nat) (l:List Int),n+k=P.length∧(∀ x,x∈l↔x∈keptOf (P.take k))∧Holds fr [(2,.ptr 0 0 0),(3,.ptr 1 0 0),(6,.sl (prRows P)),(7,.map 2),(34,.sl (prRows P)),(35,.int .i64 P.length),(36,.int .i64 k)] ∧
  st=[⟨[[.int .i64 ai,.str ak,.str ax,.sl (T.rows aks)]],4,true,true,true,.cell⟩,⟨[[.int .i64 bi,.str bk,.str bx,.sl (T.rows bks)]],4,true,true,true,.cell⟩,kbO (seenRows l)]) P.length none
  ⟨0,[],rfl,by simp [keptOf],⟨rfl,rfl,rfl,rfl,rfl,by rw [← hgl]; rfl,rfl,trivial⟩,rfl⟩ ?_
 rintro n fr st ⟨k,l,hk,hl,hh,rfl⟩
 obtain ⟨fr,rfl⟩:=hh.split
 clear hh
 by_cases hlt:k < P.length
 · have hg:=prRows_get P k hlt
   have hwk:V.int .i64 (IntKind.i64.wrap ((k:Int)+1))=.int .i64 ((k+1:Nat):Int):=by rw [wrapJ1 k (by omega)]
   have hnext:∀ x,x∈seenAdd l P[k].2.id↔x∈keptOf (P.take (k+1)):=fun x=>by
    rw [mem_add,hl x,List.take_succ_eq_append_getElem hlt]
    simp only [keptOf,List.map_append,List.mem_append,List.map_cons,List.map_nil,List.mem_singleton]
   generalize P[k]=p at *
   obtain ⟨⟨wi,wk,wx,wks⟩,⟨ii,ik,ix,iks⟩⟩:=p
   conv=>whnf
   rw [ltB_t (by omega)]
   conv=>whnf
   refine ⟨by omega,prRows P,_,8,rfl,hg,rfl,rfl,?_⟩
   conv=>whnf
   refine ⟨n - 1,by omega,some [0,1,2],?_⟩
   conv=>whnf
   refine ⟨k+1,_,by omega,hnext,⟨rfl,rfl,rfl,rfl,rfl,rfl,hwk,trivial⟩,?_⟩
   show [_,_,_]=[_,_,_]
   rw [← putRow_add]
   rfl
 · rw [List.take_of_length_le (by omega)] at hl
   have hK:KeptMap kept (seenRows l):=fun x=>by
    rw [findRow_seen,← hkp]
    unfold keptB
    by_cases hx:x∈l
    · rw [if_pos hx,decide_eq_true ((hl x).1 hx),if_pos rfl]
    · rw [if_neg hx,decide_eq_false fun z=>hx ((hl x).2 z),if_neg (by simp)]
   replace fc:=fun w i hw=>fc kept (seenRows l) hK w i hw
   replace fu:=fu kept (seenRows l) hK
   replace hpl:=hpl kept
   generalize seenRows l=rows at *
   clear hK hl hP hkp fp f1 f2
   conv=>whnf
   rw [ltB_f (by omega)]
   conv=>whnf
   refine loop_drop (fun n fr st=>∃ (k:Nat) (acc:List Stp),n+k=P.length∧acc=(P.take k).flatMap (cutsOf kept)∧Holds fr [(2,.ptr 0 0 0),(3,.ptr 1 0 0),(6,.sl (prRows P)),(7,.map 2),(10,accV acc),(45,.sl (prRows P)),(46,.int .i64 P.length),(47,.int .i64 k)]∧st=[⟨[[.int .i64 ai,.str ak,.str ax,.sl (T.rows aks)]],4,true,true,true,.cell⟩,⟨[[.int .i64 bi,.str bk,.str bx,.sl (T.rows bks)]],4,true,true,true,.cell⟩,kbO rows]++accO acc) P.length none ?_ ?_
   · exact ⟨0,[],rfl,rfl,⟨rfl,rfl,rfl,rfl,rfl,rfl,by rw [← hgl]; rfl,rfl,trivial⟩,rfl⟩
   rintro n fr st ⟨k,acc,hk,hacc,hh,rfl⟩
   obtain ⟨fr,rfl⟩:=hh.split
   clear hh
   by_cases hlt:k < P.length
   · have hg:=prRows_get P k hlt
     have hmem:=List.getElem_mem hlt
     have hQ:acc++cutsOf kept P[k]=(P.take (k+1)).flatMap (cutsOf kept):=by
      rw [List.take_succ_eq_append_getElem hlt,List.flatMap_append,List.flatMap_singleton,hacc]
     have hwk:V.int .i64 (IntKind.i64.wrap ((k:Int)+1))=.int .i64 ((k+1:Nat):Int):=by rw [wrapJ1 k (by omega)]
     have hlb:acc.length≤200000000:=by
      rw [hacc]
      have h1:=fm_len (f:=cutsOf kept) (l:=P.take k) (m:=1048576) fun p hp=>cuts_len kept _ _ (hsm _ (List.mem_of_mem_take hp))
      have h2:(P.take k).length≤20:=by rw [List.length_take]; omega
      have h3:(P.take k).length*1048576≤20*1048576:=Nat.mul_le_mul_right _ h2
      omega
     have hlq:(cutsOf kept P[k]).length≤2000000:=Nat.le_trans (cuts_len kept _ _ (hsm _ hmem)) (by omega)
     have hc:=fc P[k].1 P[k].2 (hsm _ hmem)
     have hqw:=nrows_wid (cutsOf kept P[k])
     have hql:=nrows_len (cutsOf kept P[k])
     have hal:=nrows_len acc
     generalize cutsOf kept P[k]=Q at *
     generalize P[k]=p at *
     obtain ⟨⟨wi,wk,wx,wks⟩,⟨ii,ik,ix,iks⟩⟩:=p
     clear hacc hmem
     rcases acc with _ | ⟨s0,acc⟩
     · conv=>whnf
       rw [ltB_t (by omega)]
       conv=>whnf
       refine ⟨by omega,prRows P,_,8,rfl,hg,rfl,rfl,?_⟩
       conv=>whnf
       refine ⟨[2],false,?_⟩
       conv=>whnf
       refine hc.mono ?_
       rintro o st' ⟨rfl,rfl⟩
       conv=>whnf
       refine ⟨hqw,?_⟩
       conv=>whnf
       refine ⟨by
        show (nrows Q).length*104≤_
        omega,?_⟩
       rcases Q with _ | ⟨q,Q⟩
       · refine .inl ⟨rfl,?_⟩
         conv=>whnf
         refine ⟨n - 1,by omega,some [0,1,2],?_⟩
         conv=>whnf
         exact ⟨k+1,[],by omega,hQ,⟨rfl,rfl,rfl,rfl,rfl,rfl,rfl,hwk,trivial⟩,rfl⟩
       · refine .inr ⟨(by intro e; cases e),?_⟩
         conv=>whnf
         refine ⟨n - 1,by omega,some [0,1,2,4],?_⟩
         conv=>whnf
         exact ⟨k+1,q::Q,by omega,hQ,⟨rfl,rfl,rfl,rfl,rfl,rfl,rfl,hwk,trivial⟩,rfl⟩
     · conv=>whnf
       rw [ltB_t (by omega)]
       conv=>whnf
       refine ⟨by omega,prRows P,_,8,rfl,hg,rfl,rfl,?_⟩
       conv=>whnf
       refine ⟨[2],false,?_⟩
       conv=>whnf
       refine hc.mono ?_
       rintro o st' ⟨rfl,rfl⟩
       conv=>whnf
       refine ⟨hqw,?_⟩
       conv=>whnf
       refine ⟨by
        show ((nrows (s0::acc)).length+(nrows Q).length)*104≤_
        omega,?_⟩
       conv=>whnf
       refine ⟨n - 1,by omega,some [0,1,2,5],?_⟩
       conv=>whnf
       refine ⟨k+1,s0::(acc++Q),by omega,hQ,⟨rfl,rfl,rfl,rfl,rfl,rfl,rfl,hwk,trivial⟩,?_⟩
       show [_,_,_,_]=[_,_,_,_]
       rw [show s0::(acc++Q)=(s0::acc)++Q from rfl,nrows_append]
       rfl
   rw [List.take_of_length_le (by omega)] at hacc
   have hC:acc.length≤100000000:=by
    rw [hacc]
    have h1:=fm_len (f:=cutsOf kept) (l:=P) (m:=1048576) fun p hp=>cuts_len kept _ _ (hsm _ hp)
    have h3:P.length*1048576≤20*1048576:=Nat.mul_le_mul_right _ (by omega)
    omega
   rw [← hacc]
   clear hacc
   generalize acc=C at *
   rcases C with _ | ⟨s0,C⟩
   all_goals
    conv=>whnf
    rw [ltB_f (by omega)]
    conv=>whnf
   · refine loop_drop (fun n fr st=>∃ (k:Nat) (acc:List Stp),n+k=P.length∧acc=[]++(P.take k).flatMap (wordsOf)∧Holds fr [(2,.ptr 0 0 0),(3,.ptr 1 0 0),(6,.sl (prRows P)),(7,.map 2),(10,accV acc),(58,.sl (prRows P)),(59,.int .i64 P.length),(60,.int .i64 k)]∧st=[⟨[[.int .i64 ai,.str ak,.str ax,.sl (T.rows aks)]],4,true,true,true,.cell⟩,⟨[[.int .i64 bi,.str bk,.str bx,.sl (T.rows bks)]],4,true,true,true,.cell⟩,kbO rows]++accO acc) P.length none ?_ ?_
     · exact ⟨0,_,rfl,(List.append_nil _).symm,⟨rfl,rfl,rfl,rfl,rfl,rfl,by rw [← hgl]; rfl,rfl,trivial⟩,rfl⟩
     rintro n fr st ⟨k,acc,hk,hacc,hh,rfl⟩
     obtain ⟨fr,rfl⟩:=hh.split
     clear hh
     by_cases hlt:k < P.length
     · have hg:=prRows_get P k hlt
       have hmem:=List.getElem_mem hlt
       have hQ:acc++wordsOf P[k]=[]++(P.take (k+1)).flatMap (wordsOf):=by
        rw [List.take_succ_eq_append_getElem hlt,List.flatMap_append,List.flatMap_singleton,hacc,List.append_assoc]
       have hwk:V.int .i64 (IntKind.i64.wrap ((k:Int)+1))=.int .i64 ((k+1:Nat):Int):=by rw [wrapJ1 k (by omega)]
       have hlb:acc.length≤200000000:=by
        rw [hacc]
        rw [List.length_append]
        have h1:=fm_len (f:=wordsOf) (l:=P.take k) (m:=2) fun p hp=>words_len p
        have h2:(P.take k).length≤20:=by rw [List.length_take]; omega
        simp only [List.length_cons,List.length_nil] at hC ⊢
        omega
       have hlq:(wordsOf P[k]).length≤2000000:=Nat.le_trans (words_len _) (by omega)
       have hw:=diffWords_pure P[k].1 P[k].2
       have hqw:=nrows_wid (wordsOf P[k])
       have hql:=nrows_len (wordsOf P[k])
       have hal:=nrows_len acc
       generalize wordsOf P[k]=Q at *
       generalize P[k]=p at *
       obtain ⟨⟨wi,wk,wx,wks⟩,⟨ii,ik,ix,iks⟩⟩:=p
       clear hacc hmem
       rcases acc with _ | ⟨s0,acc⟩
       · conv=>whnf
         rw [ltB_t (by omega)]
         conv=>whnf
         refine ⟨by omega,prRows P,_,8,rfl,hg,rfl,rfl,?_⟩
         conv=>whnf
         refine .inl (hw.mono ?_)
         rintro r rfl
         conv=>whnf
         refine ⟨hqw,?_⟩
         conv=>whnf
         refine ⟨by
          show (nrows Q).length*104≤_
          omega,?_⟩
         rcases Q with _ | ⟨q,Q⟩
         · refine .inl ⟨rfl,?_⟩
           conv=>whnf
           refine ⟨n - 1,by omega,some [0,1,2],?_⟩
           conv=>whnf
           exact ⟨k+1,[],by omega,hQ,⟨rfl,rfl,rfl,rfl,rfl,rfl,rfl,hwk,trivial⟩,rfl⟩
         · refine .inr ⟨(by intro e; cases e),?_⟩
           conv=>whnf
           refine ⟨n - 1,by omega,some [0,1,2,4],?_⟩
           conv=>whnf
           exact ⟨k+1,q::Q,by omega,hQ,⟨rfl,rfl,rfl,rfl,rfl,rfl,rfl,hwk,trivial⟩,rfl⟩
       · conv=>whnf
         rw [ltB_t (by omega)]
         conv=>whnf
         refine ⟨by omega,prRows P,_,8,rfl,hg,rfl,rfl,?_⟩
         conv=>whnf
         refine .inl (hw.mono ?_)
         rintro r rfl
         conv=>whnf
         refine ⟨hqw,?_⟩
         conv=>whnf
         refine ⟨by
          show ((nrows (s0::acc)).length+(nrows Q).length)*104≤_
          omega,?_⟩
         conv=>whnf
         refine ⟨n - 1,by omega,some [0,1,2,5],?_⟩
         conv=>whnf
         refine ⟨k+1,s0::(acc++Q),by omega,hQ,⟨rfl,rfl,rfl,rfl,rfl,rfl,rfl,hwk,trivial⟩,?_⟩
         show [_,_,_,_]=[_,_,_,_]
         rw [show s0::(acc++Q)=(s0::acc)++Q from rfl,nrows_append]
         rfl
     · rw [List.take_of_length_le (by omega)] at hacc
       have hlb:acc.length≤200000000:=by
        rw [hacc]
        rw [List.length_append]
        have h1:=fm_len (f:=wordsOf) (l:=P) (m:=2) fun p hp=>words_len p
        simp only [List.length_cons,List.length_nil] at hC ⊢
        omega
       have hfin:[]++(P.flatMap wordsOf++putsT kept (.mk bi bk bx bks))=acc++putsT kept (.mk bi bk bx bks):=by rw [hacc,List.append_assoc]
       rw [hfin]
       have hqw:=nrows_wid (putsT kept (.mk bi bk bx bks))
       have hql:=nrows_len (putsT kept (.mk bi bk bx bks))
       have hal:=nrows_len acc
       clear hacc hfin
       generalize putsT kept (.mk bi bk bx bks)=Q at *
       rcases acc with _ | ⟨s1,acc⟩
       · conv=>whnf
         rw [ltB_f (by omega)]
         conv=>whnf
         refine ⟨[2],false,?_⟩
         conv=>whnf
         refine fu.mono ?_
         rintro o st' ⟨rfl,rfl⟩
         conv=>whnf
         refine ⟨hqw,?_⟩
         conv=>whnf
         refine ⟨by
          show (nrows Q).length*104≤_
          omega,?_⟩
         rcases Q with _ | ⟨q,Q⟩
         · refine .inl ⟨rfl,?_⟩
           conv=>whnf
           rfl
         · refine .inr ⟨(by intro e; cases e),?_⟩
           conv=>whnf
           rfl
       · conv=>whnf
         rw [ltB_f (by omega)]
         conv=>whnf
         refine ⟨[2],false,?_⟩
         conv=>whnf
         refine fu.mono ?_
         rintro o st' ⟨rfl,rfl⟩
         conv=>whnf
         refine ⟨hqw,?_⟩
         conv=>whnf
         refine ⟨by
          show ((nrows (s1::acc)).length+(nrows Q).length)*104≤_
          omega,?_⟩
         conv=>whnf
         rw [nrows_append]
         rfl
   · refine loop_drop (fun n fr st=>∃ (k:Nat) (acc:List Stp),n+k=P.length∧acc=(s0::C)++(P.take k).flatMap (wordsOf)∧Holds fr [(2,.ptr 0 0 0),(3,.ptr 1 0 0),(6,.sl (prRows P)),(7,.map 2),(10,accV acc),(58,.sl (prRows P)),(59,.int .i64 P.length),(60,.int .i64 k)]∧st=[⟨[[.int .i64 ai,.str ak,.str ax,.sl (T.rows aks)]],4,true,true,true,.cell⟩,⟨[[.int .i64 bi,.str bk,.str bx,.sl (T.rows bks)]],4,true,true,true,.cell⟩,kbO rows]++accO acc) P.length none ?_ ?_
     · exact ⟨0,_,rfl,(List.append_nil _).symm,⟨rfl,rfl,rfl,rfl,rfl,rfl,by rw [← hgl]; rfl,rfl,trivial⟩,rfl⟩
     rintro n fr st ⟨k,acc,hk,hacc,hh,rfl⟩
     obtain ⟨fr,rfl⟩:=hh.split
     clear hh
     by_cases hlt:k < P.length
     · have hg:=prRows_get P k hlt
       have hmem:=List.getElem_mem hlt
       have hQ:acc++wordsOf P[k]=(s0::C)++(P.take (k+1)).flatMap (wordsOf):=by
        rw [List.take_succ_eq_append_getElem hlt,List.flatMap_append,List.flatMap_singleton,hacc,List.append_assoc]
       have hwk:V.int .i64 (IntKind.i64.wrap ((k:Int)+1))=.int .i64 ((k+1:Nat):Int):=by rw [wrapJ1 k (by omega)]
       have hlb:acc.length≤200000000:=by
        rw [hacc]
        rw [List.length_append]
        have h1:=fm_len (f:=wordsOf) (l:=P.take k) (m:=2) fun p hp=>words_len p
        have h2:(P.take k).length≤20:=by rw [List.length_take]; omega
        simp only [List.length_cons,List.length_nil] at hC ⊢
        omega
       have hlq:(wordsOf P[k]).length≤2000000:=Nat.le_trans (words_len _) (by omega)
       have hw:=diffWords_pure P[k].1 P[k].2
       have hqw:=nrows_wid (wordsOf P[k])
       have hql:=nrows_len (wordsOf P[k])
       have hal:=nrows_len acc
       generalize wordsOf P[k]=Q at *
       generalize P[k]=p at *
       obtain ⟨⟨wi,wk,wx,wks⟩,⟨ii,ik,ix,iks⟩⟩:=p
       clear hacc hmem
       rcases acc with _ | ⟨s0,acc⟩
       · conv=>whnf
         rw [ltB_t (by omega)]
         conv=>whnf
         refine ⟨by omega,prRows P,_,8,rfl,hg,rfl,rfl,?_⟩
         conv=>whnf
         refine .inl (hw.mono ?_)
         rintro r rfl
         conv=>whnf
         refine ⟨hqw,?_⟩
         conv=>whnf
         refine ⟨by
          show (nrows Q).length*104≤_
          omega,?_⟩
         rcases Q with _ | ⟨q,Q⟩
         · refine .inl ⟨rfl,?_⟩
           conv=>whnf
           refine ⟨n - 1,by omega,some [0,1,2],?_⟩
           conv=>whnf
           exact ⟨k+1,[],by omega,hQ,⟨rfl,rfl,rfl,rfl,rfl,rfl,rfl,hwk,trivial⟩,rfl⟩
         · refine .inr ⟨(by intro e; cases e),?_⟩
           conv=>whnf
           refine ⟨n - 1,by omega,some [0,1,2,4],?_⟩
           conv=>whnf
           exact ⟨k+1,q::Q,by omega,hQ,⟨rfl,rfl,rfl,rfl,rfl,rfl,rfl,hwk,trivial⟩,rfl⟩
       · conv=>whnf
         rw [ltB_t (by omega)]
         conv=>whnf
         refine ⟨by omega,prRows P,_,8,rfl,hg,rfl,rfl,?_⟩
         conv=>whnf
         refine .inl (hw.mono ?_)
         rintro r rfl
         conv=>whnf
         refine ⟨hqw,?_⟩
         conv=>whnf
         refine ⟨by
          show ((nrows (s0::acc)).length+(nrows Q).length)*104≤_
          omega,?_⟩
         conv=>whnf
         refine ⟨n - 1,by omega,some [0,1,2,5],?_⟩
         conv=>whnf
         refine ⟨k+1,s0::(acc++Q),by omega,hQ,⟨rfl,rfl,rfl,rfl,rfl,rfl,rfl,hwk,trivial⟩,?_⟩
         show [_,_,_,_]=[_,_,_,_]
         rw [show s0::(acc++Q)=(s0::acc)++Q from rfl,nrows_append]
         rfl
     · rw [List.take_of_length_le (by omega)] at hacc
       have hlb:acc.length≤200000000:=by
        rw [hacc]
        rw [List.length_append]
        have h1:=fm_len (f:=wordsOf) (l:=P) (m:=2) fun p hp=>words_len p
        simp only [List.length_cons,List.length_nil] at hC ⊢
        omega
       have hfin:(s0::C)++(P.flatMap wordsOf++putsT kept (.mk bi bk bx bks))=acc++putsT kept (.mk bi bk bx bks):=by rw [hacc,List.append_assoc]
       rw [hfin]
       have hqw:=nrows_wid (putsT kept (.mk bi bk bx bks))
       have hql:=nrows_len (putsT kept (.mk bi bk bx bks))
       have hal:=nrows_len acc
       clear hacc hfin
       generalize putsT kept (.mk bi bk bx bks)=Q at *
       rcases acc with _ | ⟨s1,acc⟩
       · conv=>whnf
         rw [ltB_f (by omega)]
         conv=>whnf
         refine ⟨[2],false,?_⟩
         conv=>whnf
         refine fu.mono ?_
         rintro o st' ⟨rfl,rfl⟩
         conv=>whnf
         refine ⟨hqw,?_⟩
         conv=>whnf
         refine ⟨by
          show (nrows Q).length*104≤_
          omega,?_⟩
         rcases Q with _ | ⟨q,Q⟩
         · refine .inl ⟨rfl,?_⟩
           conv=>whnf
           rfl
         · refine .inr ⟨(by intro e; cases e),?_⟩
           conv=>whnf
           rfl
       · conv=>whnf
         rw [ltB_f (by omega)]
         conv=>whnf
         refine ⟨[2],false,?_⟩
         conv=>whnf
         refine fu.mono ?_
         rintro o st' ⟨rfl,rfl⟩
         conv=>whnf
         refine ⟨hqw,?_⟩
         conv=>whnf
         refine ⟨by
          show ((nrows (s1::acc)).length+(nrows Q).length)*104≤_
          omega,?_⟩
         conv=>whnf
         rw [nrows_append]
         rfl
theorem implDiffSteps_pure (a b:T) (ha:a.Small) (hb:b.Small):Pure Try.prog 8 [.agg a.cells,.agg b.cells] (·=.tup [.sl (nrows (dsT a b).1),.bool (dsT a b).2]):=by
 unfold dsT
 by_cases h:okT a=true∧okT b=true∧a.id=b.id
 · rw [if_pos h]; exact implDiffSteps_yes a b ha hb h.1 h.2.1 h.2.2
 · rw [if_neg h]; exact implDiffSteps_no a b ha hb h
end Go.Cod
namespace Go.Cod
open Go Go.Proofs
set_option linter.all false
variable [Lam]
end Go.Cod
namespace Go.Cod
set_option linter.all false
def Closed (p:Nat→Nat) (l h:Nat):Prop:=∀ x,l≤x→x < h→l≤p x
theorem Closed.from {p l h m} (H:Closed p m h) (hh:l≤m):∀ x,m≤x→x < h→l≤p x:=fun x a b=>Nat.le_trans hh (H x a b)
variable {p q:Nat→Nat} {u:Nat→Nat→Nat}
end Go.Cod
namespace Go.Cod
set_option linter.all false
structure Th where
 k:List UInt8
 t:List UInt8
 f:Nat
def Th.add (s:Nat) (h:Th):Th:=⟨h.k,h.t,h.f+s⟩
end Go.Cod
namespace Go.Cod
open Go Go.Proofs
set_option linter.all false
set_option maxRecDepth 10000
def numR (m:Nat) (g:Nat→Int):List (List V):=(List.range m).map fun j=>[V.int .i64 (g j)]
theorem numR_len (m:Nat) (g:Nat→Int):(numR m g).length=m:=by simp [numR]
theorem numR_get {m:Nat} (g:Nat→Int) {j:Nat} (h:j < m):(numR m g)[j]? = some [.int .i64 (g j)]:=by simp [numR,h]
theorem numR_zero {m:Nat} {g:Nat→Int} (h:∀ j,g j=0):List.replicate m [V.int .i64 0]=numR m g:=by
 apply List.ext_getElem?
 intro j
 by_cases hj:j < m
 · rw [numR_get g hj,List.getElem?_replicate,if_pos hj,h]
 · rw [List.getElem?_eq_none (by simp; omega),List.getElem?_eq_none (by rw [numR_len]; omega)]
def upd1 (g:Nat→Int) (j:Nat) (v:Int):Nat→Int:=fun y=>if y=j then v else g y
def upd2 (f:Nat→Nat→Int) (i j:Nat) (v:Int):Nat→Nat→Int:=fun x y=>if x=i∧y=j then v else f x y
theorem numR_set (m:Nat) (g:Nat→Int) (j:Nat) (v:Int):(numR m g).set j [.int .i64 v]=numR m (upd1 g j v):=by
 apply List.ext_getElem?
 intro y
 rw [List.getElem?_set]
 by_cases hy:y < m
 · rw [numR_get (upd1 g j v) hy]
   by_cases e:j=y
   · subst e; rw [if_pos rfl,if_pos (by rw [numR_len]; exact hy)]; unfold upd1; rw [if_pos rfl]
   · rw [if_neg e,numR_get g hy]; unfold upd1; rw [if_neg (Ne.symm e)]
 · rw [List.getElem?_eq_none (l:=numR m (upd1 g j v)) (by rw [numR_len]; omega)]
   split
   · rw [if_neg (by rw [numR_len]; omega)]
   · rw [List.getElem?_eq_none (by rw [numR_len]; omega)]
def rootR (n:Nat) (bs:List Nat) (m:Nat):List (List V):=bs.map (fun x=>[V.dref x m m])++List.replicate (n - bs.length) [.nils]
theorem rootR_get {n:Nat} {bs:List Nat} {m i x:Nat} (h:bs[i]? = some x):(rootR n bs m)[i]? = some [.dref x m m]:=by
 have hi:=(List.getElem?_eq_some_iff.1 h).1
 unfold rootR
 rw [List.getElem?_append_left (by simpa using hi),List.getElem?_map,h]; rfl
structure Tab (es:List (List V)) (b n:Nat) (bs:List Nat) (m:Nat) (f:Nat→Nat→Int):Prop where
 root:ent b n 1 (rootR n bs m)∈es
 row:∀ (i x:Nat),bs[i]? = some x→ent x m 1 (numR m (f i))∈es
 nd:(b::bs).Nodup
 le:bs.length≤n
theorem lab_ent (b c s:Nat) (r:List (List V)):labOf (ent b c s r)=b:=rfl
theorem Tab.put {es b n bs m f} (h:Tab es b n bs m f) {i x:Nat} (hi:bs[i]? = some x) (j:Nat) (v:Int):Tab (putEnt x ((numR m (f i)).set j [.int .i64 v]) es) b n bs m (upd2 f i j v):=by
 have hnd:=List.nodup_cons.1 h.nd
 refine ⟨putEnt_other h.root ?_,fun i' y hi'=>?_,h.nd,h.le⟩
 · rw [lab_ent]; rintro rfl; exact hnd.1 (List.mem_of_getElem? hi)
 · by_cases e:i'=i
   · subst e
     rw [hi] at hi'; cases hi'
     have:=putEnt_mem (rows':=(numR m (f i')).set j [.int .i64 v]) (h.row i' x hi)
     rw [numR_set] at this ⊢
     rw [show upd2 f i' j v i'=upd1 (f i') j v by funext y; simp [upd2,upd1]]
     exact this
   · have hne:y≠x:=by
      rintro rfl
      exact e ((List.getElem?_inj (List.getElem?_eq_some_iff.1 hi').1 hnd.2).1 (hi'.trans hi.symm))
     rw [show upd2 f i j v i'=f i' by funext y; simp [upd2,e]]
     exact putEnt_other (h.row i' y hi') (by rw [lab_ent]; exact hne)
theorem Tab.at {es b n bs m f} (h:Tab es b n bs m f) {i:Nat} (hi:i < bs.length):∃ x,bs[i]? = some x∧(rootR n bs m)[i]? = some [.dref x m m]∧ent x m 1 (numR m (f i))∈es:=by
 have e:=List.getElem?_eq_getElem hi
 exact ⟨_,e,rootR_get e,h.row _ _ e⟩
end Go.Cod
namespace Go.Cod
open Go Go.Proofs
set_option linter.all false
set_option maxRecDepth 10000
def updO (lab:Nat→Option Nat) (i x:Nat):Nat→Option Nat:=fun y=>if y=i then some x else lab y
def cellO (lab:Nat→Option Nat) (m i:Nat):V:=match lab i with
 | some x=>.dref x m m
 | none=>.nils
structure TabP (es:List (List V)) (b n m:Nat) (lab:Nat→Option Nat) (f:Nat→Nat→Int):Prop where
 root:∃ R:List (List V),R.length=n∧ent b n 1 R∈es∧∀ i,i < n→R[i]? = some [cellO lab m i]
 row:∀ i x,lab i=some x→ent x m 1 (numR m (f i))∈es
 nb:∀ i x,lab i=some x→x≠b
 inj:∀ i j x,lab i=some x→lab j=some x→i=j
 lt:∀ i x,lab i=some x→i < n
theorem TabP.begin (es:List (List V)) (b n m:Nat) (f:Nat→Nat→Int):TabP (es++[ent b n 1 (List.replicate n [.nils])]) b n m (fun _=>none) f :=
 ⟨⟨List.replicate n [.nils],List.length_replicate,List.mem_append_right _ (by simp),fun i hi=>by rw [List.getElem?_replicate,if_pos hi]; rfl⟩,fun i x h=>(by cases h),fun i x h=>(by cases h),fun i j x h=>(by cases h),fun i x h=>(by cases h)⟩
theorem TabP.put {es b n m lab f} (h:TabP es b n m lab f) {i x:Nat} (hi:lab i=some x) (j:Nat) (v:Int):TabP (putEnt x ((numR m (f i)).set j [.int .i64 v]) es) b n m lab (upd2 f i j v):=by
 obtain ⟨R,r1,r2,r3⟩:=h.root
 refine ⟨⟨R,r1,putEnt_other r2 ?_,r3⟩,fun i' y hi'=>?_,h.nb,h.inj,h.lt⟩
 · rw [lab_ent]; exact fun e=>h.nb i x hi e.symm
 · by_cases e:i'=i
   · subst e
     rw [hi] at hi'; cases hi'
     have:=putEnt_mem (rows':=(numR m (f i')).set j [.int .i64 v]) (h.row i' x hi)
     rw [numR_set] at this ⊢
     rw [show upd2 f i' j v i'=upd1 (f i') j v by funext y; simp [upd2,upd1]]
     exact this
   · have hne:y≠x:=by
      rintro rfl
      exact e (h.inj i' i y hi' hi)
     rw [show upd2 f i j v i'=f i' by funext y; simp [upd2,e]]
     exact putEnt_other (h.row i' y hi') (by rw [lab_ent]; exact hne)
theorem TabP.fresh {es b n m lab f} (h:TabP es b n m lab f) {x:Nat} (hx:∀ e∈es,labOf e≠x):x≠b∧∀ i,lab i≠some x:=by
 obtain ⟨R,r1,r2,r3⟩:=h.root
 exact ⟨fun e=>hx _ r2 e.symm,fun i hi=>hx _ (h.row i x hi) rfl⟩
theorem TabP.grow {es b n m lab f} (h:TabP es b n m lab f) {i:Nat} (hi:i < n) (hf:∀ j,f i j=0) {x:Nat} (hx:∀ e∈es,labOf e≠x) {R:List (List V)} (r1:R.length=n) (r2:ent b n 1 R∈es) (r3:∀ i,i < n→R[i]? = some [cellO lab m i]) :
 TabP (putEnt b (R.set i [.dref x m m]) (es++[ent x m 1 (List.replicate m [.int .i64 0])])) b n m (updO lab i x) f:=by
 obtain ⟨x1,x2⟩:=h.fresh hx
 refine ⟨⟨_,by rw [List.length_set]; exact r1,putEnt_mem (List.mem_append_left _ r2),fun j hj=>?_⟩,fun j y hy=>?_,fun j y hy=>?_,fun j k y hj hk=>?_,fun j y hy=>?_⟩
 · rw [List.getElem?_set]
   by_cases e:i=j
   · subst e
     rw [if_pos rfl,if_pos (by omega)]
     unfold cellO updO
     rw [if_pos rfl]
   · rw [if_neg e,r3 j hj]
     unfold cellO updO
     rw [if_neg (Ne.symm e)]
 · unfold updO at hy
   by_cases e:j=i
   · rw [if_pos e] at hy
     cases hy; subst e
     refine putEnt_other (List.mem_append_right _ ?_) (by rw [lab_ent]; exact x1)
     rw [← numR_zero hf]; simp
   · rw [if_neg e] at hy
     exact putEnt_other (List.mem_append_left _ (h.row j y hy)) (by rw [lab_ent]; exact h.nb j y hy)
 · unfold updO at hy
   by_cases e:j=i
   · rw [if_pos e] at hy
     cases hy; exact x1
   · rw [if_neg e] at hy; exact h.nb j y hy
 · unfold updO at hj hk
   by_cases e:j=i <;> by_cases g:k=i
   · rw [e,g]
   · rw [if_pos e] at hj; rw [if_neg g] at hk
     cases hj; exact absurd hk (x2 k)
   · rw [if_neg e] at hj; rw [if_pos g] at hk
     cases hk; exact absurd hj (x2 j)
   · rw [if_neg e] at hj; rw [if_neg g] at hk
     exact h.inj j k y hj hk
 · unfold updO at hy
   by_cases e:j=i
   · rw [e]; exact hi
   · rw [if_neg e] at hy; exact h.lt j y hy
def lq (a b:List Int) (i k:Nat):Int:=(lcsL (a.drop i) (b.drop k):Nat)
theorem lq_a (a b:List Int) (k:Nat):lq a b a.length k=0:=by unfold lq; rw [List.drop_length,nil_lcsL]; rfl
theorem lq_b (a b:List Int) (i:Nat):lq a b i b.length=0:=by unfold lq; rw [List.drop_length,lcsL_nil]; rfl
theorem lq_step (a b:List Int) (i k:Nat) (hi:i < a.length) (hk:k < b.length):lq a b i k=(let n:=if lq a b i (k+1) > lq a b (i+1) k then lq a b i (k+1) else lq a b (i+1) k
 if a[i]=b[k]∧lq a b (i+1) (k+1)+1 > n then lq a b (i+1) (k+1)+1 else n):=by
 have ha:=List.drop_eq_getElem_cons (l:=a) (i:=i) hi
 have hb:=List.drop_eq_getElem_cons (l:=b) (i:=k) hk
 have hs:=lcsL_spec a[i] b[k] (a.drop (i+1)) (b.drop (k+1))
 rw [← ha,← hb] at hs
 unfold lq
 rw [hs]
 by_cases e:a[i]=b[k]
 · rw [if_pos e]
   simp only [e,true_and]
   split <;> split <;> omega
 · rw [if_neg e]
   simp only [e,false_and,if_false]
   split <;> omega
theorem lq_step' (a b:List Int) (i k:Nat) (hi:i < a.length) (hk:k < b.length) (N:Int) (hN:N=if lq a b (i+1) k < lq a b i (k+1) then lq a b i (k+1) else lq a b (i+1) k):lq a b i k=if a[i]=b[k]∧N < lq a b (i+1) (k+1)+1 then lq a b (i+1) (k+1)+1 else N:=by
 subst hN
 exact lq_step a b i k hi hk
theorem lq_le (a b:List Int) (i k:Nat):0≤lq a b i k∧lq a b i k≤a.length:=by
 unfold lq
 have:=lcsL_le (a.drop i) (b.drop k)
 rw [List.length_drop] at this
 omega
theorem TabP.congr {es b n m lab f g} (h:TabP es b n m lab f) (hg:∀ i x j,lab i=some x→j < m→f i j=g i j):TabP es b n m lab g :=
 ⟨h.root,fun i x hi=>by
   have:numR m (f i)=numR m (g i):=by
    unfold numR
    exact List.map_congr_left fun j hj=>by rw [hg i x j hi (List.mem_range.1 hj)]
   rw [← this]; exact h.row i x hi,h.nb,h.inj,h.lt⟩
end Go.Cod
namespace Go.Cod
open Go Go.Proofs
set_option linter.all false
set_option maxRecDepth 10000
theorem wrapD1 (n:Nat) (h:n≤10000000):IntKind.i64.wrap ((n:Int) - 1)=(n:Int) - 1:=wrap64 (by omega) (by omega)
set_option maxHeartbeats 8000000 in
theorem l5Longest_new (a b:List Int) (la:a.length≤1048576) (lb:b.length≤1048576):Full Try.prog noY 91 [.sl (irows a),.sl (irows b)] [poolO []] fun o st'=>∃ (t:Nat) (lab:Nat→Option Nat) (es:List (List V)),
 o=.ret (.dref t (a.length+1) (a.length+1))∧st'=[poolO es]∧TabP es t (a.length+1) (b.length+1) lab (lq a b)∧∀ i,i≤a.length→∃ x,lab i=some x:=by
 refine full_of_draw good Try.func91 rfl (by kernel_rfl) (by decide) fun X hX=>?_
 conv=>whnf
 rw [irows_len,wrapJ1 _ (by omega)]
 refine semMake (k:=0) (m:=a.length+1) good rfl rfl rfl rfl rfl rfl rfl rfl (by show (a.length+1)*24≤_; omega) (by omega) fun t ht=>?_
 conv=>whnf
 have hT:=TabP.begin [] t (a.length+1) (b.length+1) (fun _ _=>0)
 simp only [List.nil_append] at hT
 refine loop_drop (fun n fr st=>∃ (lab:Nat→Option Nat) (es:List (List V)) (f:Nat→Nat→Int),n≤a.length+1∧st=[poolO es]∧TabP es t (a.length+1) (b.length+1) lab f∧(∀ i,n≤i→i≤a.length→∃ x,lab i=some x)∧(∀ i k,n≤i→i≤a.length→k≤b.length→f i k=lq a b i k)∧(∀ i k,i < n→f i k=0) ∧
  Holds fr [(0,.sl (irows a)),(1,.sl (irows b)),(5,.dref t (a.length+1) (a.length+1)),(6,.int .i64 ((n:Int) - 1))]) (a.length+1) none ?_ ?_
 · exact ⟨_,_,_,Nat.le_refl _,rfl,hT,fun i h1 h2=>absurd h1 (by omega),fun i k h1 h2=>absurd h1 (by omega),fun _ _ _=>rfl,rfl,rfl,rfl,by show V.int .i64 _=.int .i64 _; rw [irows_len]; congr 1; omega,trivial⟩
 clear hT ht
 rintro n fr st ⟨lab,es,f,hn,rfl,hT,hL,hF,hZ,hh⟩
 obtain ⟨fr,rfl⟩:=hh.split
 clear hh
 rcases n with _ | i
 · conv=>whnf
   rw [leB_f (by omega)]
   conv=>whnf
   refine ⟨[],false,?_⟩
   conv=>whnf
   refine ⟨t,lab,es,rfl,rfl,hT.congr fun i x j hx hj=>?_,fun i hi=>hL i (Nat.zero_le _) hi⟩
   have:=hT.lt i x hx
   exact hF i j (Nat.zero_le _) (by omega) (by omega)
 · rw [show (((i+1:Nat):Int) - 1)=(i:Int) by omega]
   conv=>whnf
   rw [leB_t (by omega)]
   conv=>whnf
   rw [irows_len,wrapJ1 b.length (by omega)]
   refine semMake (k:=0) (m:=b.length+1) good rfl rfl rfl rfl rfl rfl rfl rfl (by show (b.length+1)*8≤_; omega) (by omega) fun x hx=>?_
   conv=>whnf
   obtain ⟨R,r1,r2,r3⟩:=hT.root
   have hG:=hT.grow (i:=i) (by omega) (fun j=>hZ i j (by omega)) hx r1 r2 r3
   refine ⟨by omega,by omega,?_⟩
   conv=>whnf
   refine ⟨0,a.length+1,R,[cellO lab (b.length+1) i],_,List.mem_append_left _ r2,r3 i (by omega),rfl,?_⟩
   conv=>whnf
   have hLx:updO lab i x i=some x:=by unfold updO; rw [if_pos rfl]
   have hLL:∀ i',i≤i'→i'≤a.length→∃ y,updO lab i x i'=some y:=fun i' h1 h2=>by
    by_cases e:i'=i
    · exact ⟨x,by rw [e]; exact hLx⟩
    · obtain ⟨y,hy⟩:=hL i' (by omega) h2
      exact ⟨y,by unfold updO; rw [if_neg e]; exact hy⟩
   generalize updO lab i x=lab' at *
   have hFi:∀ k,b.length≤k→k≤b.length→f i k=lq a b i k:=fun k h1 h2=>by
    obtain rfl:k=b.length:=by omega
    rw [lq_b,hZ i _ (by omega)]
   have hwb:V.int .i64 (IntKind.i64.wrap ((b.length:Int) - 1))=.int .i64 ((b.length:Int) - 1):=by rw [wrapD1 _ (by omega)]
   have hwi:V.int .i64 (IntKind.i64.wrap ((i:Int) - 1))=.int .i64 ((i:Int) - 1):=by rw [wrapD1 _ (by omega)]
   clear hT hL
   refine loop_drop (fun m fr st=>∃ (es:List (List V)) (f:Nat→Nat→Int),m≤b.length∧st=[poolO es]∧TabP es t (a.length+1) (b.length+1) lab' f∧(∀ i' k,i+1≤i'→i'≤a.length→k≤b.length→f i' k=lq a b i' k)∧(∀ i' k,i' < i→f i' k=0)∧(∀ k,m≤k→k≤b.length→f i k=lq a b i k)∧(∀ k,k < m→f i k=0) ∧
    Holds fr [(0,.sl (irows a)),(1,.sl (irows b)),(5,.dref t (a.length+1) (a.length+1)),(6,.int .i64 i),(7,.int .i64 ((m:Int) - 1))]) b.length none ?_ ?_
   · exact ⟨_,f,Nat.le_refl _,rfl,hG,hF,fun i' k h=>hZ i' k (by omega),hFi,fun k _=>hZ i k (by omega),rfl,rfl,rfl,rfl,by rw [← hwb,← irows_len b]; rfl,trivial⟩
   clear hG hF hZ hFi r1 r2 r3 hx fr
   rintro m fr st ⟨es,f,hm,rfl,hT,hF,hZ,hFi,hZi,hh⟩
   obtain ⟨fr,rfl⟩:=hh.split
   clear hh
   rcases m with _ | k
   · conv=>whnf
     rw [leB_f (by omega)]
     conv=>whnf
     refine ⟨i,by omega,none,lab',es,f,by omega,rfl,hT,hLL,fun i' k h1 h2 h3=>?_,hZ,rfl,rfl,rfl,hwi,trivial⟩
     by_cases e:i'=i
     · rw [e]; exact hFi k (Nat.zero_le _) h3
     · exact hF i' k (by omega) h2 h3
   · rw [show (((k+1:Nat):Int) - 1)=(k:Int) by omega]
     conv=>whnf
     rw [leB_t (by omega)]
     conv=>whnf
     rw [irows_len]
     by_cases hia:i < a.length
     · rw [ltB_t (by omega)]
       conv=>whnf
       obtain ⟨x',hx'⟩:=hLL i (Nat.le_refl _) (by omega)
       obtain rfl:x=x':=by rw [hLx] at hx'; exact Option.some.inj hx'
       obtain ⟨y,hy⟩:=hLL (i+1) (by omega) (by omega)
       obtain ⟨R,r1,r2,r3⟩:=hT.root
       have g0:R[i]? = some [.dref x (b.length+1) (b.length+1)]:=by rw [r3 i (by omega)]; unfold cellO; rw [hLx]
       have g1:R[i+1]? = some [.dref y (b.length+1) (b.length+1)]:=by rw [r3 (i+1) (by omega)]; unfold cellO; rw [hy]
       have t0:=hT.row i x hLx
       have t1:=hT.row (i+1) y hy
       have wi1:=wrapJ1 i (by omega)
       have wk1:=wrapJ1 k (by omega)
       have v1:=numR_get (m:=b.length+1) (f (i+1)) (show k < b.length+1 by omega)
       have v2:=numR_get (m:=b.length+1) (f i) (show k+1 < b.length+1 by omega)
       have v3:=numR_get (m:=b.length+1) (f (i+1)) (show k+1 < b.length+1 by omega)
       have e1:=hF (i+1) k (by omega) (by omega) (by omega)
       have e2:=hFi (k+1) (by omega) (by omega)
       have e3:=hF (i+1) (k+1) (by omega) (by omega) (by omega)
       rw [e1] at v1
       rw [e2] at v2
       rw [e3] at v3
       have hst:=lq_step' a b i k hia (by omega)
       have b1:=lq_le a b (i+1) (k+1)
       have ga:=irows_get a i hia
       have gb:=irows_get b k (by omega)
       generalize hp:a[i]=p at *
       generalize hq:b[k]=q at *
       refine ⟨by rw [wi1]; omega,by rw [wi1]; omega,?_⟩
       conv=>whnf
       refine ⟨0,a.length+1,_,_,r2,by rw [wi1]; exact g1,?_⟩
       conv=>whnf
       refine ⟨by omega,by omega,?_⟩
       conv=>whnf
       refine ⟨0,b.length+1,_,_,t1,v1,?_⟩
       conv=>whnf
       refine ⟨by omega,by omega,?_⟩
       conv=>whnf
       refine ⟨0,a.length+1,_,_,r2,g0,?_⟩
       conv=>whnf
       refine ⟨by rw [wk1]; omega,by rw [wk1]; omega,?_⟩
       conv=>whnf
       refine ⟨0,b.length+1,_,_,t0,by rw [wk1]; exact v2,?_⟩
       conv=>whnf
       have hput:=hT.put (i:=i) hLx k (lq a b i k)
       have hF':∀ i' k',i+1≤i'→i'≤a.length→k'≤b.length→upd2 f i k (lq a b i k) i' k'=lq a b i' k':=fun i' k' h1 h2 h3=>by
        unfold upd2; rw [if_neg (by omega)]; exact hF i' k' h1 h2 h3
       have hZ':∀ i' k',i' < i→upd2 f i k (lq a b i k) i' k'=0:=fun i' k' h=>by
        unfold upd2; rw [if_neg (by omega)]; exact hZ i' k' h
       have hFi':∀ k',k≤k'→k'≤b.length→upd2 f i k (lq a b i k) i k'=lq a b i k':=fun k' h1 h2=>by
        unfold upd2
        by_cases e:k'=k
        · rw [if_pos ⟨rfl,e⟩,e]
        · rw [if_neg (fun h=>e h.2)]; exact hFi k' (by omega) h2
       have hZi':∀ k',k' < k→upd2 f i k (lq a b i k) i k'=0:=fun k' h=>by
        unfold upd2; rw [if_neg (by omega)]; exact hZi k' (by omega)
       have hwk:V.int .i64 (IntKind.i64.wrap ((k:Int) - 1))=.int .i64 ((k:Int) - 1):=by rw [wrapD1 _ (by omega)]
       have wT:IntKind.i64.wrap (lq a b (i+1) (k+1)+1)=lq a b (i+1) (k+1)+1:=wrap64 (by omega) (by omega)
       have v0:=numR_get (m:=b.length+1) (f i) (show k < b.length+1 by omega)
       by_cases hUD:lq a b (i+1) k < lq a b i (k+1)
       · rw [ltB_t hUD]
         conv=>whnf
         refine ⟨by omega,by omega,?_⟩
         conv=>whnf
         refine ⟨0,a.length+1,_,_,r2,g0,?_⟩
         conv=>whnf
         refine ⟨by rw [wk1]; omega,by rw [wk1]; omega,?_⟩
         conv=>whnf
         refine ⟨0,b.length+1,_,_,t0,by rw [wk1]; exact v2,?_⟩
         conv=>whnf
         replace hst:=hst (lq a b i (k+1)) (by rw [if_pos hUD])
         refine draw_with hX [(0,.sl (irows a)),(1,.sl (irows b)),(5,.dref t (a.length+1) (a.length+1)),(6,.int .i64 i),(7,.int .i64 k),(8,.int .i64 (lq a b i (k+1)))] ⟨rfl,rfl,rfl,rfl,rfl,rfl,trivial⟩ fun C hC fr=>?_
         conv=>whnf
         refine ⟨by omega,irows a,_,1,rfl,ga,rfl,rfl,?_⟩
         conv=>whnf
         refine ⟨by omega,irows b,_,1,rfl,gb,rfl,rfl,?_⟩
         conv=>whnf
         by_cases hpq:p=q
         · rw [eqB_t hpq]
           conv=>whnf
           refine ⟨by rw [wi1]; omega,by rw [wi1]; omega,?_⟩
           conv=>whnf
           refine ⟨0,a.length+1,_,_,r2,by rw [wi1]; exact g1,?_⟩
           conv=>whnf
           refine ⟨by rw [wk1]; omega,by rw [wk1]; omega,?_⟩
           conv=>whnf
           refine ⟨0,b.length+1,_,_,t1,by rw [wk1]; exact v3,?_⟩
           conv=>whnf
           by_cases hTN:lq a b i (k+1) < lq a b (i+1) (k+1)+1
           · have hE:lq a b i k=lq a b (i+1) (k+1)+1:=by rw [hst,if_pos ⟨hpq,hTN⟩]
             rw [wT,ltB_t hTN]
             conv=>whnf
             refine hC _ _ ?_
             conv=>whnf
             refine ⟨by rw [wi1]; omega,by rw [wi1]; omega,?_⟩
             conv=>whnf
             refine ⟨0,a.length+1,_,_,r2,by rw [wi1]; exact g1,?_⟩
             conv=>whnf
             refine ⟨by rw [wk1]; omega,by rw [wk1]; omega,?_⟩
             conv=>whnf
             refine ⟨0,b.length+1,_,_,t1,by rw [wk1]; exact v3,?_⟩
             conv=>whnf
             rw [wT]
             refine ⟨by omega,by omega,?_⟩
             conv=>whnf
             refine ⟨0,a.length+1,_,_,r2,g0,?_⟩
             conv=>whnf
             refine ⟨by omega,by omega,?_⟩
             conv=>whnf
             refine ⟨0,b.length+1,_,_,_,t0,v0,rfl,?_⟩
             conv=>whnf
             refine ⟨k,by omega,none,_,_,by omega,?_,hput,hF',hZ',hFi',hZi',rfl,rfl,rfl,rfl,hwk,trivial⟩
             show [_]=[_]
             rw [hE]
             rfl
           · have hE:lq a b i k=lq a b i (k+1):=by rw [hst,if_neg (fun h=>hTN h.2)]
             rw [wT,ltB_f (by omega)]
             conv=>whnf
             refine hC _ _ ?_
             conv=>whnf
             refine ⟨by omega,by omega,?_⟩
             conv=>whnf
             refine ⟨0,a.length+1,_,_,r2,g0,?_⟩
             conv=>whnf
             refine ⟨by omega,by omega,?_⟩
             conv=>whnf
             refine ⟨0,b.length+1,_,_,_,t0,v0,rfl,?_⟩
             conv=>whnf
             refine ⟨k,by omega,none,_,_,by omega,?_,hput,hF',hZ',hFi',hZi',rfl,rfl,rfl,rfl,hwk,trivial⟩
             show [_]=[_]
             rw [hE]
             rfl
         · have hE:lq a b i k=lq a b i (k+1):=by rw [hst,if_neg (fun h=>hpq h.1)]
           rw [eqB_f hpq]
           conv=>whnf
           refine hC _ _ ?_
           conv=>whnf
           refine ⟨by omega,by omega,?_⟩
           conv=>whnf
           refine ⟨0,a.length+1,_,_,r2,g0,?_⟩
           conv=>whnf
           refine ⟨by omega,by omega,?_⟩
           conv=>whnf
           refine ⟨0,b.length+1,_,_,_,t0,v0,rfl,?_⟩
           conv=>whnf
           refine ⟨k,by omega,none,_,_,by omega,?_,hput,hF',hZ',hFi',hZi',rfl,rfl,rfl,rfl,hwk,trivial⟩
           show [_]=[_]
           rw [hE]
           rfl
       · rw [ltB_f (by omega)]
         conv=>whnf
         replace hst:=hst (lq a b (i+1) k) (by rw [if_neg hUD])
         refine draw_with hX [(0,.sl (irows a)),(1,.sl (irows b)),(5,.dref t (a.length+1) (a.length+1)),(6,.int .i64 i),(7,.int .i64 k),(8,.int .i64 (lq a b (i+1) k))] ⟨rfl,rfl,rfl,rfl,rfl,rfl,trivial⟩ fun C hC fr=>?_
         conv=>whnf
         refine ⟨by omega,irows a,_,1,rfl,ga,rfl,rfl,?_⟩
         conv=>whnf
         refine ⟨by omega,irows b,_,1,rfl,gb,rfl,rfl,?_⟩
         conv=>whnf
         by_cases hpq:p=q
         · rw [eqB_t hpq]
           conv=>whnf
           refine ⟨by rw [wi1]; omega,by rw [wi1]; omega,?_⟩
           conv=>whnf
           refine ⟨0,a.length+1,_,_,r2,by rw [wi1]; exact g1,?_⟩
           conv=>whnf
           refine ⟨by rw [wk1]; omega,by rw [wk1]; omega,?_⟩
           conv=>whnf
           refine ⟨0,b.length+1,_,_,t1,by rw [wk1]; exact v3,?_⟩
           conv=>whnf
           by_cases hTN:lq a b (i+1) k < lq a b (i+1) (k+1)+1
           · have hE:lq a b i k=lq a b (i+1) (k+1)+1:=by rw [hst,if_pos ⟨hpq,hTN⟩]
             rw [wT,ltB_t hTN]
             conv=>whnf
             refine hC _ _ ?_
             conv=>whnf
             refine ⟨by rw [wi1]; omega,by rw [wi1]; omega,?_⟩
             conv=>whnf
             refine ⟨0,a.length+1,_,_,r2,by rw [wi1]; exact g1,?_⟩
             conv=>whnf
             refine ⟨by rw [wk1]; omega,by rw [wk1]; omega,?_⟩
             conv=>whnf
             refine ⟨0,b.length+1,_,_,t1,by rw [wk1]; exact v3,?_⟩
             conv=>whnf
             rw [wT]
             refine ⟨by omega,by omega,?_⟩
             conv=>whnf
             refine ⟨0,a.length+1,_,_,r2,g0,?_⟩
             conv=>whnf
             refine ⟨by omega,by omega,?_⟩
             conv=>whnf
             refine ⟨0,b.length+1,_,_,_,t0,v0,rfl,?_⟩
             conv=>whnf
             refine ⟨k,by omega,none,_,_,by omega,?_,hput,hF',hZ',hFi',hZi',rfl,rfl,rfl,rfl,hwk,trivial⟩
             show [_]=[_]
             rw [hE]
             rfl
           · have hE:lq a b i k=lq a b (i+1) k:=by rw [hst,if_neg (fun h=>hTN h.2)]
             rw [wT,ltB_f (by omega)]
             conv=>whnf
             refine hC _ _ ?_
             conv=>whnf
             refine ⟨by omega,by omega,?_⟩
             conv=>whnf
             refine ⟨0,a.length+1,_,_,r2,g0,?_⟩
             conv=>whnf
             refine ⟨by omega,by omega,?_⟩
             conv=>whnf
             refine ⟨0,b.length+1,_,_,_,t0,v0,rfl,?_⟩
             conv=>whnf
             refine ⟨k,by omega,none,_,_,by omega,?_,hput,hF',hZ',hFi',hZi',rfl,rfl,rfl,rfl,hwk,trivial⟩
             show [_]=[_]
             rw [hE]
             rfl
         · have hE:lq a b i k=lq a b (i+1) k:=by rw [hst,if_neg (fun h=>hpq h.1)]
           rw [eqB_f hpq]
           conv=>whnf
           refine hC _ _ ?_
           conv=>whnf
           refine ⟨by omega,by omega,?_⟩
           conv=>whnf
           refine ⟨0,a.length+1,_,_,r2,g0,?_⟩
           conv=>whnf
           refine ⟨by omega,by omega,?_⟩
           conv=>whnf
           refine ⟨0,b.length+1,_,_,_,t0,v0,rfl,?_⟩
           conv=>whnf
           refine ⟨k,by omega,none,_,_,by omega,?_,hput,hF',hZ',hFi',hZi',rfl,rfl,rfl,rfl,hwk,trivial⟩
           show [_]=[_]
           rw [hE]
           rfl
     · rw [ltB_f (by omega)]
       conv=>whnf
       refine ⟨i,by omega,none,lab',es,f,by omega,rfl,hT,hLL,fun i' k' h1 h2 h3=>?_,hZ,rfl,rfl,rfl,hwi,trivial⟩
       by_cases e:i'=i
       · obtain rfl:i=a.length:=by omega
         rw [e]
         by_cases hk':k' < k+1
         · rw [lq_a,hZi k' hk']
         · exact hFi k' (by omega) h3
       · exact hF i' k' (by omega) h2 h3
end Go.Cod
namespace Go.Cod
open Go Go.Proofs
set_option linter.all false
set_option maxRecDepth 10000
set_option maxHeartbeats 8000000 in
theorem l5Both_pure (a b:List Int) (la:a.length≤1048576) (lb:b.length≤1048576):Pure Try.prog 68 [.sl (irows a),.sl (irows b)] (·=.sl (irows (lcs a b))):=by
 have hlo:=Full.start (st0:=[]) (l5Longest_new a b la lb)
 refine pure_of_draw good Try.func68 rfl (by kernel_rfl) (by decide) fun X hX=>?_
 conv=>whnf
 refine .inr (.inl ⟨[],false,?_⟩)
 conv=>whnf
 refine hlo.mono ?_
 rintro o st' ⟨t,lab,es,rfl,rfl,hT,hL⟩
 clear hlo
 conv=>whnf
 refine loop_drop (fun n fr st=>∃ (i j:Nat) (c:List Int),n=(a.length - i)+(b.length - j)∧i≤a.length∧j≤b.length∧c++lcs (a.drop i) (b.drop j)=lcs a b∧c.length≤i ∧
  ((c=[]∧Holds fr [(0,.sl (irows a)),(1,.sl (irows b)),(5,.dref t (a.length+1) (a.length+1)),(6,.nils),(7,.int .i64 i),(8,.int .i64 j)]∧st=[poolO es]) ∨
   (c≠[]∧Holds fr [(0,.sl (irows a)),(1,.sl (irows b)),(5,.dref t (a.length+1) (a.length+1)),(6,.own 1),(7,.int .i64 i),(8,.int .i64 j)]∧st=[poolO es,⟨irows c,1,true,true,false,.cell⟩]))) (a.length+b.length) none
  ⟨0,0,[],by omega,by omega,by omega,rfl,Nat.le_refl _,.inl ⟨rfl,⟨rfl,rfl,rfl,rfl,rfl,rfl,trivial⟩,rfl⟩⟩ ?_
 rintro n fr st ⟨i,j,c,hn,hi,hj,hc,hcl,⟨rfl,hh,rfl⟩ | ⟨hc0,hh,rfl⟩⟩
 · obtain ⟨fr,rfl⟩:=hh.split
   clear hh
   have wi1:=fun (h:i < a.length)=>wrapJ1 i (by omega)
   have wj1:=fun (h:j < b.length)=>wrapJ1 j (by omega)
   conv=>whnf
   by_cases hlt:i < a.length
   · rw [irows_len,ltB_t (by omega)]
     conv=>whnf
     by_cases hlt2:j < b.length
     · rw [irows_len,ltB_t (by omega)]
       conv=>whnf
       have ha:=List.drop_eq_getElem_cons (l:=a) (i:=i) (by omega)
       have hb:=List.drop_eq_getElem_cons (l:=b) (i:=j) (by omega)
       have hs:=lcs_cons a[i] b[j] (a.drop (i+1)) (b.drop (j+1))
       rw [← ha,← hb] at hs
       have hga:=irows_get a i (by omega)
       have hgb:=irows_get b j (by omega)
       replace wi1:=wi1 hlt
       replace wj1:=wj1 hlt2
       have hwi:V.int .i64 (IntKind.i64.wrap ((i:Int)+1))=.int .i64 ((i+1:Nat):Int):=by rw [wi1]
       have hwj:V.int .i64 (IntKind.i64.wrap ((j:Int)+1))=.int .i64 ((j+1:Nat):Int):=by rw [wj1]
       generalize hp:a[i]=p at *
       generalize hq:b[j]=q at *
       refine draw_go hX ?_
       conv=>whnf
       repeat' (first
        | (refine ⟨by omega,irows a,_,1,rfl,hga,rfl,rfl,?_⟩
           conv=>whnf)
        | (refine ⟨by omega,irows b,_,1,rfl,hgb,rfl,rfl,?_⟩
           conv=>whnf)
        | fail)
       by_cases hpq:p=q
       · rw [eqB_t hpq]
         rw [if_pos hpq] at hs
         rw [hs] at hc
         conv=>whnf
         refine ⟨by omega,irows a,_,1,rfl,hga,rfl,rfl,?_⟩
         conv=>whnf
         refine ⟨fun m hm=>by rw [List.mem_singleton.1 hm]; rfl,?_⟩
         conv=>whnf
         refine ⟨by show 1*8≤_; omega,.inr ⟨(by intro e; cases e),?_⟩⟩
         conv=>whnf
         refine ⟨(a.length - (i+1))+(b.length - (j+1)),by omega,some [0,2],?_⟩
         conv=>whnf
         refine ⟨i+1,j+1,[p],rfl,by omega,by omega,hc,by simp,.inr ⟨by simp,⟨rfl,rfl,rfl,rfl,hwi,hwj,trivial⟩,?_⟩⟩
         rfl
       · rw [eqB_f hpq]
         rw [if_neg hpq] at hs
         obtain ⟨x,hx⟩:=hL i (by omega)
         obtain ⟨y,hy⟩:=hL (i+1) (by omega)
         obtain ⟨R,r1,r2,r3⟩:=hT.root
         have g0:R[i]? = some [.dref x (b.length+1) (b.length+1)]:=by rw [r3 i (by omega)]; unfold cellO; rw [hx]
         have g1:R[i+1]? = some [.dref y (b.length+1) (b.length+1)]:=by rw [r3 (i+1) (by omega)]; unfold cellO; rw [hy]
         have t0:=hT.row i x hx
         have t1:=hT.row (i+1) y hy
         have v1:=numR_get (m:=b.length+1) (lq a b (i+1)) (show j < b.length+1 by omega)
         have v2:=numR_get (m:=b.length+1) (lq a b i) (show j+1 < b.length+1 by omega)
         conv=>whnf
         refine draw_go hX ?_
         conv=>whnf
         refine ⟨by rw [wi1]; omega,by rw [wi1]; omega,?_⟩
         conv=>whnf
         refine ⟨0,a.length+1,_,_,r2,by rw [wi1]; exact g1,?_⟩
         conv=>whnf
         refine ⟨by omega,by omega,?_⟩
         conv=>whnf
         refine ⟨0,b.length+1,_,_,t1,v1,?_⟩
         conv=>whnf
         refine ⟨by omega,by omega,?_⟩
         conv=>whnf
         refine ⟨0,a.length+1,_,_,r2,g0,?_⟩
         conv=>whnf
         refine ⟨by rw [wj1]; omega,by rw [wj1]; omega,?_⟩
         conv=>whnf
         refine ⟨0,b.length+1,_,_,t0,by rw [wj1]; exact v2,?_⟩
         conv=>whnf
         by_cases hle:lcsL (a.drop i) (b.drop (j+1))≤lcsL (a.drop (i+1)) (b.drop j)
         · rw [leB_t (show lq a b i (j+1)≤lq a b (i+1) j by unfold lq; omega)]
           rw [if_pos hle] at hs
           rw [hs] at hc
           conv=>whnf
           refine ⟨(a.length - (i+1))+(b.length - j),by omega,none,?_⟩
           conv=>whnf
           exact ⟨i+1,j,[],rfl,by omega,by omega,hc,Nat.zero_le _,.inl ⟨rfl,⟨rfl,rfl,rfl,rfl,hwi,rfl,trivial⟩,rfl⟩⟩
         · rw [leB_f (show lq a b (i+1) j < lq a b i (j+1) by unfold lq; omega)]
           rw [if_neg hle] at hs
           rw [hs] at hc
           conv=>whnf
           refine ⟨(a.length - i)+(b.length - (j+1)),by omega,none,?_⟩
           conv=>whnf
           exact ⟨i,j+1,[],rfl,by omega,by omega,hc,Nat.zero_le _,.inl ⟨rfl,⟨rfl,rfl,rfl,rfl,rfl,hwj,trivial⟩,rfl⟩⟩
     · rw [irows_len,ltB_f (by omega)]
       conv=>whnf
       have hz:lcs (a.drop i) (b.drop j)=[]:=by rw [List.drop_of_length_le (l:=b) (by omega),lcs_nil]
       rw [hz,List.append_nil] at hc
       rw [← hc]
       try rfl
   · rw [irows_len,ltB_f (by omega)]
     conv=>whnf
     have hz:lcs (a.drop i) (b.drop j)=[]:=by rw [List.drop_of_length_le (l:=a) (by omega),nil_lcs]
     rw [hz,List.append_nil] at hc
     rw [← hc]
     try rfl
 · obtain ⟨fr,rfl⟩:=hh.split
   clear hh
   have wi1:=fun (h:i < a.length)=>wrapJ1 i (by omega)
   have wj1:=fun (h:j < b.length)=>wrapJ1 j (by omega)
   conv=>whnf
   by_cases hlt:i < a.length
   · rw [irows_len,ltB_t (by omega)]
     conv=>whnf
     by_cases hlt2:j < b.length
     · rw [irows_len,ltB_t (by omega)]
       conv=>whnf
       have ha:=List.drop_eq_getElem_cons (l:=a) (i:=i) (by omega)
       have hb:=List.drop_eq_getElem_cons (l:=b) (i:=j) (by omega)
       have hs:=lcs_cons a[i] b[j] (a.drop (i+1)) (b.drop (j+1))
       rw [← ha,← hb] at hs
       have hga:=irows_get a i (by omega)
       have hgb:=irows_get b j (by omega)
       replace wi1:=wi1 hlt
       replace wj1:=wj1 hlt2
       have hwi:V.int .i64 (IntKind.i64.wrap ((i:Int)+1))=.int .i64 ((i+1:Nat):Int):=by rw [wi1]
       have hwj:V.int .i64 (IntKind.i64.wrap ((j:Int)+1))=.int .i64 ((j+1:Nat):Int):=by rw [wj1]
       generalize hp:a[i]=p at *
       generalize hq:b[j]=q at *
       refine draw_go hX ?_
       conv=>whnf
       repeat' (first
        | (refine ⟨by omega,irows a,_,1,rfl,hga,rfl,rfl,?_⟩
           conv=>whnf)
        | (refine ⟨by omega,irows b,_,1,rfl,hgb,rfl,rfl,?_⟩
           conv=>whnf)
        | fail)
       by_cases hpq:p=q
       · rw [eqB_t hpq]
         rw [if_pos hpq] at hs
         rw [hs] at hc
         conv=>whnf
         refine ⟨by omega,irows a,_,1,rfl,hga,rfl,rfl,?_⟩
         conv=>whnf
         refine ⟨fun m hm=>by rw [List.mem_singleton.1 hm]; rfl,?_⟩
         conv=>whnf
         refine ⟨by show ((irows c).length+1)*8≤_; rw [irows_len]; omega,?_⟩
         conv=>whnf
         refine ⟨(a.length - (i+1))+(b.length - (j+1)),by omega,some [0,3],?_⟩
         conv=>whnf
         refine ⟨i+1,j+1,c++[p],rfl,by omega,by omega,by rw [← hc]; simp,by simp; omega,.inr ⟨by simp,⟨rfl,rfl,rfl,rfl,hwi,hwj,trivial⟩,?_⟩⟩
         rw [irows_snoc]; rfl
       · rw [eqB_f hpq]
         rw [if_neg hpq] at hs
         obtain ⟨x,hx⟩:=hL i (by omega)
         obtain ⟨y,hy⟩:=hL (i+1) (by omega)
         obtain ⟨R,r1,r2,r3⟩:=hT.root
         have g0:R[i]? = some [.dref x (b.length+1) (b.length+1)]:=by rw [r3 i (by omega)]; unfold cellO; rw [hx]
         have g1:R[i+1]? = some [.dref y (b.length+1) (b.length+1)]:=by rw [r3 (i+1) (by omega)]; unfold cellO; rw [hy]
         have t0:=hT.row i x hx
         have t1:=hT.row (i+1) y hy
         have v1:=numR_get (m:=b.length+1) (lq a b (i+1)) (show j < b.length+1 by omega)
         have v2:=numR_get (m:=b.length+1) (lq a b i) (show j+1 < b.length+1 by omega)
         conv=>whnf
         refine draw_go hX ?_
         conv=>whnf
         refine ⟨by rw [wi1]; omega,by rw [wi1]; omega,?_⟩
         conv=>whnf
         refine ⟨0,a.length+1,_,_,r2,by rw [wi1]; exact g1,?_⟩
         conv=>whnf
         refine ⟨by omega,by omega,?_⟩
         conv=>whnf
         refine ⟨0,b.length+1,_,_,t1,v1,?_⟩
         conv=>whnf
         refine ⟨by omega,by omega,?_⟩
         conv=>whnf
         refine ⟨0,a.length+1,_,_,r2,g0,?_⟩
         conv=>whnf
         refine ⟨by rw [wj1]; omega,by rw [wj1]; omega,?_⟩
         conv=>whnf
         refine ⟨0,b.length+1,_,_,t0,by rw [wj1]; exact v2,?_⟩
         conv=>whnf
         by_cases hle:lcsL (a.drop i) (b.drop (j+1))≤lcsL (a.drop (i+1)) (b.drop j)
         · rw [leB_t (show lq a b i (j+1)≤lq a b (i+1) j by unfold lq; omega)]
           rw [if_pos hle] at hs
           rw [hs] at hc
           conv=>whnf
           refine ⟨(a.length - (i+1))+(b.length - j),by omega,none,?_⟩
           conv=>whnf
           exact ⟨i+1,j,c,rfl,by omega,by omega,hc,by omega,.inr ⟨hc0,⟨rfl,rfl,rfl,rfl,hwi,rfl,trivial⟩,rfl⟩⟩
         · rw [leB_f (show lq a b (i+1) j < lq a b i (j+1) by unfold lq; omega)]
           rw [if_neg hle] at hs
           rw [hs] at hc
           conv=>whnf
           refine ⟨(a.length - i)+(b.length - (j+1)),by omega,none,?_⟩
           conv=>whnf
           exact ⟨i,j+1,c,rfl,by omega,by omega,hc,by omega,.inr ⟨hc0,⟨rfl,rfl,rfl,rfl,rfl,hwj,trivial⟩,rfl⟩⟩
     · rw [irows_len,ltB_f (by omega)]
       conv=>whnf
       have hz:lcs (a.drop i) (b.drop j)=[]:=by rw [List.drop_of_length_le (l:=b) (by omega),lcs_nil]
       rw [hz,List.append_nil] at hc
       rw [← hc]
       try rfl
   · rw [irows_len,ltB_f (by omega)]
     conv=>whnf
     have hz:lcs (a.drop i) (b.drop j)=[]:=by rw [List.drop_of_length_le (l:=a) (by omega),nil_lcs]
     rw [hz,List.append_nil] at hc
     rw [← hc]
     try rfl
end Go.Cod
namespace Go.Cod
open Go Go.Proofs
set_option linter.all false
set_option maxRecDepth 10000
def SlIn (es:List (List V)) (h:Option (Nat × Nat)) (L:List Stp):Prop:=match h with
 | none=>L=[]
 | some (b,c)=>ent b c 8 (nrows L)∈es
def Apart (h k:Option (Nat × Nat)):Prop:=∀ b c b' c',h=some (b,c)→k=some (b',c')→b≠b'
theorem Apart.symm {h k:Option (Nat × Nat)} (a:Apart h k):Apart k h:=fun b c b' c' p q e=>a b' c' b c q p e.symm
structure D3 (es:List (List V)) (h1 h2 h3:Option (Nat × Nat)) (c s p:List Stp):Prop where
 i1:SlIn es h1 c
 i2:SlIn es h2 s
 i3:SlIn es h3 p
 d12:Apart h1 h2
 d13:Apart h1 h3
 d23:Apart h2 h3
theorem D3.s12 {es h1 h2 h3 c s p} (h:D3 es h1 h2 h3 c s p):D3 es h2 h1 h3 s c p:=⟨h.i2,h.i1,h.i3,h.d12.symm,h.d23,h.d13⟩
theorem D3.s13 {es h1 h2 h3 c s p} (h:D3 es h1 h2 h3 c s p):D3 es h3 h2 h1 p s c:=⟨h.i3,h.i2,h.i1,h.d23.symm,h.d13.symm,h.d12.symm⟩
theorem SlIn.put {es:List (List V)} {b c:Nat} {k:Option (Nat × Nat)} {L:List Stp} (h:SlIn es k L) (ha:Apart (some (b,c)) k) (r:List (List V)):SlIn (putEnt b r es) k L:=by
 rcases k with _ | ⟨b',c'⟩
 · exact h
 · exact putEnt_other h (by rw [lab_ent]; exact fun e=>ha b c b' c' rfl rfl e.symm)
theorem SlIn.more {es:List (List V)} {k:Option (Nat × Nat)} {L:List Stp} (h:SlIn es k L) (es':List (List V)):SlIn (es++es') k L:=by
 rcases k with _ | ⟨b',c'⟩
 · exact h
 · exact List.mem_append_left _ h
theorem SlIn.fresh {es:List (List V)} {k:Option (Nat × Nat)} {L:List Stp} (h:SlIn es k L) {b c:Nat} (hb:∀ e∈es,labOf e≠b):Apart (some (b,c)) k:=by
 intro x y b' c' e1 e2
 cases e1
 subst e2
 exact fun e=>hb _ h (by rw [lab_ent]; exact e.symm)
theorem D3.room {es b c0 h2 h3 c s p} (h:D3 es (some (b,c0)) h2 h3 c s p) (c':List Stp):D3 (putEnt b (nrows c') es) (some (b,c0)) h2 h3 c' s p :=
 ⟨putEnt_mem h.i1,h.i2.put h.d12 _,h.i3.put h.d13 _,h.d12,h.d13,h.d23⟩
theorem D3.new {es h1 h2 h3 c s p} (h:D3 es h1 h2 h3 c s p) {b c0:Nat} (hb:∀ e∈es,labOf e≠b) (c':List Stp):D3 (es++[ent b c0 8 (nrows c')]) (some (b,c0)) h2 h3 c' s p :=
 ⟨List.mem_append_right _ (by simp),h.i2.more _,h.i3.more _,h.i2.fresh hb,h.i3.fresh hb,h.d23⟩
theorem laid_nrows (c q:List Stp):laidRows (nrows c) (nrows q) c.length=nrows (c++q):=by
 unfold laidRows
 rw [List.take_of_length_le (by rw [nrows_len]; omega),List.drop_of_length_le (by rw [nrows_len,nrows_len]; omega),nrows_append,List.append_nil]
theorem semStep {o:Oper} {sl x:Operand} {t u e:TypeId} {ti:TI} (ho:o.op=.call { callee:=.builtin .append,args:=#[sl,x],argTypes:=#[t,u] }) (hk:kindOf (tauOf tauL) t=some (.slice e)) (hti:tauOf tauL e=some ti) (hu:notInt (kindOf (tauOf tauL) u)=true)
 (hz:ti.zero.cells.length=ti.size) (hsz:ti.size=8) (hby:ti.bytes=104) {vs:List V} {vx:V} {k:Nat} {h:Option (Nat × Nat)} {L:List Stp} {q:Stp} {es:List (List V)} {st:St} {K:V→St→Prop} (hvs:vs=[hdV h L.length,vx]) (hpe:st[k]? = some (poolO es)) (hin:SlIn es h L)
 (hsrc:PSrc st vx (nrows [q])) (hl:L.length≤1000000) (hr:∀ b c,h=some (b,c)→K (.dref b (L.length+1) c) (st.set k (poolO (putEnt b (nrows (L++[q])) es))))
 (hg:∀ b c,(∀ e∈es,labOf e≠b)→K (.dref b (L.length+1) c) (st.set k (poolO (es++[ent b c 8 (nrows (L++[q]))])))):SemOp Try.prog o vs st K:=by
 have hw:∀ m∈nrows [q],m.length=ti.size:=by rw [hsz]; exact nrows_wid _
 rcases h with _ | ⟨b,c⟩
 · have hL:L=[]:=hin
   subst hL
   refine semAppendNil (m:=1) good ho hk hti hu hz (by omega) hvs hpe hsrc hw rfl (by omega) (by rw [hby]; omega) fun b c _ hf=>?_
   rw [hsz]
   exact hg b c hf
 · have hm:ent b c ti.size (nrows L)∈es:=by rw [hsz]; exact hin
   refine semAppendE (m:=1) (rows:=nrows L) (es1:=putEnt b (nrows (L++[q])) es) good ho hk hti hu hz (by omega) hvs (by simp only [poolEs,hpe]; rfl) hm hsrc hw rfl (by rw [nrows_len]; omega) (by rw [hby]; omega) (by rw [laid_nrows]) (fun _=>hr b c rfl) fun _ b' c' _ hf=>?_
   rw [List.take_of_length_le (by rw [nrows_len]; omega),← nrows_append,hsz]
   exact hg b' c' hf
theorem semStep1 {o:Oper} {sl x:Operand} {t u e:TypeId} {ti:TI} (ho:o.op=.call { callee:=.builtin .append,args:=#[sl,x],argTypes:=#[t,u] }) (hk:kindOf (tauOf tauL) t=some (.slice e)) (hti:tauOf tauL e=some ti) (hu:notInt (kindOf (tauOf tauL) u)=true)
 (hz:ti.zero.cells.length=ti.size) (hsz:ti.size=8) (hby:ti.bytes=104) {vs:List V} {vx:V} {k:Nat} {h1 h2 h3:Option (Nat × Nat)} {c s p:List Stp} {q:Stp} {es:List (List V)} {st:St} {K:V→St→Prop} (hvs:vs=[hdV h1 c.length,vx]) (hpe:st[k]? = some (poolO es)) (hD:D3 es h1 h2 h3 c s p)
 (hsrc:PSrc st vx (nrows [q])) (hl:c.length≤1000000) (hK:∀ es' b cc,D3 es' (some (b,cc)) h2 h3 (c++[q]) s p→K (.dref b (c.length+1) cc) (st.set k (poolO es'))):SemOp Try.prog o vs st K :=
 semStep ho hk hti hu hz hsz hby hvs hpe hD.i1 hsrc hl (fun b cc e=>by subst e; exact hK _ b cc (hD.room _)) fun b cc hf=>hK _ b cc (hD.new hf _)
theorem semStep2 {o:Oper} {sl x:Operand} {t u e:TypeId} {ti:TI} (ho:o.op=.call { callee:=.builtin .append,args:=#[sl,x],argTypes:=#[t,u] }) (hk:kindOf (tauOf tauL) t=some (.slice e)) (hti:tauOf tauL e=some ti) (hu:notInt (kindOf (tauOf tauL) u)=true)
 (hz:ti.zero.cells.length=ti.size) (hsz:ti.size=8) (hby:ti.bytes=104) {vs:List V} {vx:V} {k:Nat} {h1 h2 h3:Option (Nat × Nat)} {c s p:List Stp} {q:Stp} {es:List (List V)} {st:St} {K:V→St→Prop} (hvs:vs=[hdV h2 s.length,vx]) (hpe:st[k]? = some (poolO es)) (hD:D3 es h1 h2 h3 c s p)
 (hsrc:PSrc st vx (nrows [q])) (hl:s.length≤1000000) (hK:∀ es' b cc,D3 es' h1 (some (b,cc)) h3 c (s++[q]) p→K (.dref b (s.length+1) cc) (st.set k (poolO es'))):SemOp Try.prog o vs st K :=
 semStep ho hk hti hu hz hsz hby hvs hpe hD.i2 hsrc hl (fun b cc e=>by subst e; exact hK _ b cc (hD.s12.room _).s12) fun b cc hf=>hK _ b cc (hD.s12.new hf _).s12
theorem semStep3 {o:Oper} {sl x:Operand} {t u e:TypeId} {ti:TI} (ho:o.op=.call { callee:=.builtin .append,args:=#[sl,x],argTypes:=#[t,u] }) (hk:kindOf (tauOf tauL) t=some (.slice e)) (hti:tauOf tauL e=some ti) (hu:notInt (kindOf (tauOf tauL) u)=true)
 (hz:ti.zero.cells.length=ti.size) (hsz:ti.size=8) (hby:ti.bytes=104) {vs:List V} {vx:V} {k:Nat} {h1 h2 h3:Option (Nat × Nat)} {c s p:List Stp} {q:Stp} {es:List (List V)} {st:St} {K:V→St→Prop} (hvs:vs=[hdV h3 p.length,vx]) (hpe:st[k]? = some (poolO es)) (hD:D3 es h1 h2 h3 c s p)
 (hsrc:PSrc st vx (nrows [q])) (hl:p.length≤1000000) (hK:∀ es' b cc,D3 es' h1 h2 (some (b,cc)) c s (p++[q])→K (.dref b (p.length+1) cc) (st.set k (poolO es'))):SemOp Try.prog o vs st K :=
 semStep ho hk hti hu hz hsz hby hvs hpe hD.i3 hsrc hl (fun b cc e=>by subst e; exact hK _ b cc (hD.s13.room _).s13) fun b cc hf=>hK _ b cc (hD.s13.new hf _).s13
def dbox (x y z:V):O:=⟨[[x,y,z]],3,true,true,true,.cell⟩
def cutsL (w i:T):List Stp:=(pairsT w i).flatMap fun p=>cutsOf (locB p) p
def setsL (w i:T):List Stp:=(pairsT w i).flatMap wordsOf
def NodeR (w i:T) (c s p:List Stp) (o:Out) (st':St):Prop:=o=.ret (.tup [])∧∃ (es:List (List V)) (h1 h2 h3:Option (Nat × Nat)),D3 es h1 h2 h3 (c++cutsL w i) (s++setsL w i) (p++sputT w i) ∧
 st'=[dbox (hdV h1 (c++cutsL w i).length) (hdV h2 (s++setsL w i).length) (hdV h3 (p++sputT w i).length),poolO es]
end Go.Cod
namespace Go.Cod
open Go Go.Proofs
set_option linter.all false
set_option maxRecDepth 10000
theorem sputL_append (w:T) (x:Int) (c:List Int):∀ (a b:List T) (n:Nat),sputL w x c n (a++b)=sputL w x c n a++sputL w x c (n+a.length) b
 | [],b,n=>by simp [sputL]
 | k::ks,b,n=>by
   simp only [List.cons_append,sputL,sputL_append w x c ks b (n+1),List.append_assoc,List.length_cons]
   congr 3
   omega
theorem fL_mem2:∀ (ts:List T) (k:T),(T.idsL ts).Nodup→k∈ts→fL ts k.id=some k
 | [],_,_,h=>by cases h
 | t::ts,k,hn,h=>by
   simp only [T.idsL,List.nodup_append] at hn
   simp only [fL]
   rcases List.mem_cons.1 h with rfl | h
   · cases k with
     | mk a b c d =>
     have:fT (T.mk a b c d) (T.mk a b c d).id=some (.mk a b c d):=by
      simp only [fT,T.id,if_true]
     rw [this]
   · have hm:k.id∈T.idsL ts:=idsL_kid (List.mem_map.2 ⟨k,h,rfl⟩)
     have h3:k.id∉t.ids:=fun hc=>hn.2.2 k.id hc k.id hm rfl
     rw [(fT_none t k.id).2 h3]
     exact fL_mem2 ts k hn.2.1 h
theorem fT_kid2 {t k:T} (hn:t.ids.Nodup) (hk:k∈t.kids):fT t k.id=some k:=by
 obtain ⟨a,b,c,d⟩:=t
 have hk:k∈d:=hk
 have hm:k.id∈T.idsL d:=kid_ids (t:=.mk 0 [] [] d) hk _ (T.id_mem k)
 simp only [T.ids,List.nodup_cons] at hn
 have hne:¬ a=k.id:=fun e=>hn.1 (by rw [e]; exact hm)
 simp only [fT,if_neg hne]
 exact fL_mem2 d k hn.2 hk
set_option maxHeartbeats 8000000 in
theorem node_tt (wi:Int) (wk wx:List UInt8) (wks:List T) (ik ix:List UInt8) (iks:List T) (lw:wks.length≤1048576) (li:iks.length≤1048576) (h4:wk.length≤1048576) (hws:(T.mk wi wk wx wks).Small) (his:∀ t∈iks,t.Small) (hwn:(T.mk wi wk wx wks).ids.Nodup)
 (ih:∀ k∈iks,k.id∈wks.map T.id→∀ es h1 h2 h3 c s p,D3 es h1 h2 h3 c s p→c.length+(cutsL (kidIn wks k.id) k).length≤1000000→s.length+(setsL (kidIn wks k.id) k).length≤1000000→p.length+(sputT (kidIn wks k.id) k).length≤1000000 →
   Full Try.prog noY 36 [.ptr 0 0 0,.agg (kidIn wks k.id).cells,.agg k.cells] [dbox (hdV h1 c.length) (hdV h2 s.length) (hdV h3 p.length),poolO es] (NodeR (kidIn wks k.id) k c s p))
 (e1:wk=ik) (e2:wx=ix) (es:List (List V)) (h1 h2 h3:Option (Nat × Nat)) (c s p:List Stp) (hD:D3 es h1 h2 h3 c s p) (bc:c.length+(cutsL (.mk wi wk wx wks) (.mk wi ik ix iks)).length≤1000000) (bs:s.length+(setsL (.mk wi wk wx wks) (.mk wi ik ix iks)).length≤1000000) (bp:p.length+(sputT (.mk wi wk wx wks) (.mk wi ik ix iks)).length≤1000000) :
 Full Try.prog noY 36 [.ptr 0 0 0,.agg (T.mk wi wk wx wks).cells,.agg (T.mk wi ik ix iks).cells] [dbox (hdV h1 c.length) (hdV h2 s.length) (hdV h3 p.length),poolO es] (NodeR (.mk wi wk wx wks) (.mk wi ik ix iks) c s p):=by
 have n1:=l5Numbers_pure (.mk wi wk wx wks) lw
 have n2:=l5Numbers_pure (.mk wi ik ix iks) li
 rw [show (T.mk wi wk wx wks).kidIds=wks.map T.id from rfl] at n1
 rw [show (T.mk wi ik ix iks).kidIds=iks.map T.id from rfl] at n2
 have n3:=l5Both_pure (wks.map T.id) (iks.map T.id) (by rw [List.length_map]; omega) (by rw [List.length_map]; omega)
 have hsub:=lcs_sub _ (wks.map T.id) (iks.map T.id) (Nat.le_refl _)
 have hcut:cutsL (.mk wi wk wx wks) (.mk wi ik ix iks)=((wks.filter fun k=>!decide (k.id∈lcs (wks.map T.id) (iks.map T.id))).map fun k=>cutStp k.id)++(pairsL (.mk wi wk wx wks) (lcs (wks.map T.id) (iks.map T.id)) iks).flatMap fun p=>cutsOf (locB p) p:=by
  unfold cutsL; rw [pairsT,List.flatMap_cons]; rfl
 have hset:setsL (.mk wi wk wx wks) (.mk wi ik ix iks)=((if wk≠ik then [⟨4,wi,0,TZ,ik⟩] else [])++(if wx≠ix then [⟨3,wi,0,TZ,ix⟩] else []))++(pairsL (.mk wi wk wx wks) (lcs (wks.map T.id) (iks.map T.id)) iks).flatMap wordsOf:=by
  unfold setsL; rw [pairsT,List.flatMap_cons]; rfl
 have hput:sputT (.mk wi wk wx wks) (.mk wi ik ix iks)=sputL (.mk wi wk wx wks) wi (lcs (wks.map T.id) (iks.map T.id)) 0 iks:=by rw [sputT]; rfl
 have hfind:∀ x,x∈wks.map T.id→fT (.mk wi wk wx wks) x=some (kidIn wks x):=fun x hx=>by
  obtain ⟨k1,k2⟩:=kidIn_mem hx
  have:=fT_kid2 hwn (k:=kidIn wks x) k1
  rwa [k2] at this
 unfold NodeR
 rw [hcut] at bc ⊢
 rw [hset] at bs ⊢
 rw [hput] at bp ⊢
 clear hcut hset hput
 have hcl:(lcs (wks.map T.id) (iks.map T.id)).length≤1048576:=by have:=hsub.1.length_le; rw [List.length_map] at this; omega
 have hhas:=fun x=>l2Has_pure (lcs (wks.map T.id) (iks.map T.id)) x (by omega)
 generalize lcs (wks.map T.id) (iks.map T.id)=cm at *
 have hlr:=Go.Cod.rows_len wks
 have hlr2:=Go.Cod.rows_len iks
 refine full_of_draw good Try.func36 rfl (by kernel_rfl) (by decide) fun X hX=>?_
 conv=>whnf
 refine draw_go hX ?_
 conv=>whnf
 repeat' (first
  | (refine ⟨_,.inl n1,?_⟩
     conv=>whnf)
  | (refine ⟨_,.inl n2,?_⟩
     conv=>whnf)
  | (refine ⟨_,.inl n3,?_⟩
     conv=>whnf)
  | (rintro r rfl
     conv=>whnf)
  | (refine And.intro ?_ ?_))
 clear n1 n2 n3
 refine loop_drop (fun n fr st=>∃ (k:Nat) (es:List (List V)) (h1:Option (Nat × Nat)) (c':List Stp),n+k=wks.length∧c'=c++(((wks.take k).filter fun k=>!decide (k.id∈cm)).map fun k=>cutStp k.id)∧D3 es h1 h2 h3 c' s p ∧
  Holds fr [(0,.ptr 0 0 0),(4,.ptr 2 0 0),(5,.ptr 3 0 0),(6,.sl (irows cm)),(7,.int .i64 k)] ∧
  st=[dbox (hdV h1 c'.length) (hdV h2 s.length) (hdV h3 p.length),poolO es,⟨[[.int .i64 wi,.str wk,.str wx,.sl (T.rows wks)]],4,true,true,true,.cell⟩,⟨[[.int .i64 wi,.str ik,.str ix,.sl (T.rows iks)]],4,true,true,true,.cell⟩]) wks.length none ?_ ?_
 · exact ⟨0,es,h1,c,rfl,by simp,hD,⟨rfl,rfl,rfl,rfl,rfl,trivial⟩,rfl⟩
 clear hD
 rintro n fr st ⟨k,es,h1,c',hk,hc',hD,hh,rfl⟩
 obtain ⟨fr,rfl⟩:=hh.split
 clear hh
 conv=>whnf
 rw [hlr]
 by_cases hlt:k < wks.length
 · rw [ltB_t (by omega)]
   conv=>whnf
   have hg:=Go.Cod.rows_get wks k hlt
   have htk:((wks.take (k+1)).filter fun k=>!decide (k.id∈cm))=((wks.take k).filter fun k=>!decide (k.id∈cm))++if wks[k].id∈cm then [] else [wks[k]]:=by
    rw [List.take_succ_eq_append_getElem hlt,List.filter_append]
    congr 1
    by_cases h:wks[k].id∈cm <;> simp [h]
   have hwk:V.int .i64 (IntKind.i64.wrap ((k:Int)+1))=.int .i64 ((k+1:Nat):Int):=by rw [wrapJ1 k (by omega)]
   have hlb:c'.length≤1000000:=by
    have h1:((wks.take k).filter fun k=>!decide (k.id∈cm)).length≤(wks.filter fun k=>!decide (k.id∈cm)).length:=by
     conv=>rhs; rw [← List.take_append_drop k wks,List.filter_append,List.length_append]
     omega
    rw [hc']
    simp only [List.length_append,List.length_map] at bc ⊢
    omega
   generalize wks[k]=t at *
   obtain ⟨ti,tk,tx,tks⟩:=t
   have hti:(T.mk ti tk tx tks).id=ti:=rfl
   rw [hti] at htk
   have hha:=hhas ti
   refine ⟨by omega,T.rows wks,_,4,rfl,hg,rfl,rfl,?_⟩
   conv=>whnf
   refine .inl (hha.mono ?_)
   rintro r rfl
   by_cases hm:ti∈cm
   · rw [if_pos hm,List.append_nil] at htk
     rw [decide_eq_true hm]
     conv=>whnf
     refine ⟨n - 1,by omega,none,k+1,es,h1,c',by omega,by rw [htk]; exact hc',hD,⟨rfl,rfl,rfl,rfl,hwk,trivial⟩,rfl⟩
   · rw [if_neg hm] at htk
     rw [decide_eq_false hm]
     conv=>whnf
     refine draw_with hX [(0,.ptr 0 0 0),(4,.ptr 2 0 0),(5,.ptr 3 0 0),(6,.sl (irows cm)),(7,.int .i64 k)] ⟨rfl,rfl,rfl,rfl,rfl,trivial⟩ fun C hC fr=>?_
     have hJ:∀ fr es' b cc tmp,D3 es' (some (b,cc)) h2 h3 (c'++[cutStp ti]) s p→Holds fr [(0,.ptr 0 0 0),(4,.ptr 2 0 0),(5,.ptr 3 0 0),(6,.sl (irows cm)),(7,.int .i64 k)] →
      C fr [dbox (.dref b (c'.length+1) cc) (hdV h2 s.length) (hdV h3 p.length),poolO es',⟨[[.int .i64 wi,.str wk,.str wx,.sl (T.rows wks)]],4,true,true,true,.cell⟩,⟨[[.int .i64 wi,.str ik,.str ix,.sl (T.rows iks)]],4,true,true,true,.cell⟩,⟨tmp,8,true,true,false,.cell⟩]:=by
      intro fr es' b cc tmp hD' hh
      obtain ⟨fr,rfl⟩:=hh.split
      refine hC _ _ ?_
      clear hC hh
      conv=>whnf
      refine ⟨n - 1,by omega,some [0,1,2,3],?_⟩
      conv=>whnf
      refine ⟨k+1,es',some (b,cc),c'++[cutStp ti],by omega,by rw [htk,hc',List.map_append,← List.append_assoc]; rfl,hD',⟨rfl,rfl,rfl,rfl,hwk,trivial⟩,?_⟩
      rw [List.length_append]
      rcases h2 with _ | ⟨_,_⟩ <;> rcases h3 with _ | ⟨_,_⟩ <;> rfl
     clear hC
     rcases h1 with _ | ⟨b0,cc0⟩
     all_goals
      conv=>whnf
      refine ⟨by omega,T.rows wks,_,4,rfl,hg,rfl,rfl,?_⟩
      conv=>whnf
      refine semStep1 (k:=1) (q:=cutStp ti) rfl rfl rfl rfl rfl rfl rfl rfl rfl hD (.inl rfl) hlb fun es' b cc hD'=>?_
      conv=>whnf
      exact hJ _ es' b cc _ hD' ⟨rfl,rfl,rfl,rfl,rfl,trivial⟩
 · rw [ltB_f (by omega)]
   rw [List.take_of_length_le (by omega)] at hc'
   conv=>whnf
   have hsb:s.length+(0)≤1000000:=by
    have hz:=bs
    rw [if_neg (by simp [e1]),if_neg (by simp [e2])] at hz
    simp only [List.length_append,List.length_singleton,List.length_nil] at hz
    omega
   have hcl':c'.length=c.length+(wks.filter fun k=>!decide (k.id∈cm)).length:=by rw [hc',List.length_append,List.length_map]
   rw [eqS_t e1]
   conv=>whnf
   rw [eqS_t e2]
   conv=>whnf
   obtain ⟨S,hSS⟩:∃ S,S=s++((if wk≠ik then [(⟨4,wi,0,TZ,ik⟩:Stp)] else [])++(if wx≠ix then [(⟨3,wi,0,TZ,ix⟩:Stp)] else [])):=⟨_,rfl⟩
   have hSs:S=s:=by rw [hSS,if_neg (by simp [e1]),if_neg (by simp [e2])]; simp
   have hsl':S.length=s.length+((if wk≠ik then [(⟨4,wi,0,TZ,ik⟩:Stp)] else []).length+(if wx≠ix then [(⟨3,wi,0,TZ,ix⟩:Stp)] else []).length):=by rw [hSS]; simp only [List.length_append]
   refine loop_drop (fun n fr st=>∃ (k:Nat) (es:List (List V)) (h1 h2 h3:Option (Nat × Nat)) (cc ss pp:List Stp),n+k=iks.length∧cc=c'++(pairsL (.mk wi wk wx wks) cm (iks.take k)).flatMap (fun p=>cutsOf (locB p) p)∧ss=S++(pairsL (.mk wi wk wx wks) cm (iks.take k)).flatMap wordsOf∧pp=p++sputL (.mk wi wk wx wks) wi cm 0 (iks.take k)∧D3 es h1 h2 h3 cc ss pp ∧
    Holds fr [(0,.ptr 0 0 0),(4,.ptr 2 0 0),(5,.ptr 3 0 0),(6,.sl (irows cm)),(8,.int .i64 k)]∧st=[dbox (hdV h1 cc.length) (hdV h2 ss.length) (hdV h3 pp.length),poolO es,⟨[[.int .i64 wi,.str wk,.str wx,.sl (T.rows wks)]],4,true,true,true,.cell⟩,⟨[[.int .i64 wi,.str ik,.str ix,.sl (T.rows iks)]],4,true,true,true,.cell⟩]) iks.length (some [0,1,2,3]) ?_ ?_
   · conv=>whnf
     exact ⟨0,es,h1,h2,h3,c',S,p,rfl,by simp [pairsL],by simp [pairsL],by simp [sputL],by rw [hSs]; exact hD,⟨rfl,rfl,rfl,rfl,rfl,trivial⟩,by rw [hSs]; rcases h1 with _ | ⟨_,_⟩ <;> rcases h2 with _ | ⟨_,_⟩ <;> rcases h3 with _ | ⟨_,_⟩ <;> rfl⟩
   clear hD
   rintro n fr st ⟨k,es,h1,h2,h3,cc,ss,pp,hk,hcc,hss,hpp,hD,hh,rfl⟩
   obtain ⟨fr,rfl⟩:=hh.split
   clear hh
   conv=>whnf
   rw [hlr2]
   by_cases hlt:k < iks.length
   · rw [ltB_t (by omega)]
     conv=>whnf
     have hg:=Go.Cod.rows_get iks k hlt
     have hmem:=List.getElem_mem hlt
     have htk:iks.take (k+1)=iks.take k++[iks[k]]:=by rw [List.take_succ_eq_append_getElem hlt]
     have hpk:pairsL (.mk wi wk wx wks) cm (iks.take (k+1))=pairsL (.mk wi wk wx wks) cm (iks.take k)++(if iks[k].id∈cm then pairsT (kidW (.mk wi wk wx wks) iks[k].id) iks[k] else []):=by
      rw [htk,pairsL_append]; simp only [pairsL,List.append_nil]
     have hsk:sputL (.mk wi wk wx wks) wi cm 0 (iks.take (k+1))=sputL (.mk wi wk wx wks) wi cm 0 (iks.take k)++(if iks[k].id∈cm then sputT (kidW (.mk wi wk wx wks) iks[k].id) iks[k] else [⟨1,wi,k,iks[k],[]⟩]):=by
      rw [htk,sputL_append,List.length_take,Nat.min_eq_left (by omega),Nat.zero_add]; simp only [sputL,List.append_nil]
     have hpf:∀ F:T × T→List Stp,((pairsL (.mk wi wk wx wks) cm (iks.take (k+1))).flatMap F).length≤((pairsL (.mk wi wk wx wks) cm iks).flatMap F).length:=fun F=>by
      conv=>rhs; rw [← List.take_append_drop (k+1) iks,pairsL_append,List.flatMap_append,List.length_append]
      omega
     have hsf:(sputL (.mk wi wk wx wks) wi cm 0 (iks.take (k+1))).length≤(sputL (.mk wi wk wx wks) wi cm 0 iks).length:=by
      conv=>rhs; rw [← List.take_append_drop (k+1) iks,sputL_append,List.length_append]
      omega
     have hwk:V.int .i64 (IntKind.i64.wrap ((k:Int)+1))=.int .i64 ((k+1:Nat):Int):=by rw [wrapJ1 k (by omega)]
     have f1:=hpf fun p=>cutsOf (locB p) p
     have f2:=hpf wordsOf
     clear hpf htk
     have hcp:=l2Copy_pure iks[k] (his _ hmem)
     have hfd:=l2Find_pure (.mk wi wk wx wks) hws iks[k].id
     have hfi:iks[k].id∈cm→fT (.mk wi wk wx wks) iks[k].id=some (kidIn wks iks[k].id):=fun h=>hfind _ (hsub.1.subset h)
     have hrec:=fun h:iks[k].id∈cm=>ih iks[k] hmem (hsub.1.subset h) es h1 h2 h3 cc ss pp hD
     rw [show kidW (.mk wi wk wx wks) iks[k].id=kidIn wks iks[k].id from rfl] at hpk hsk
     have hha:=hhas iks[k].id
     generalize iks[k]=t at *
     clear hmem
     by_cases hm:t.id∈cm
     · replace hfi:=hfi hm
       replace hrec:=hrec hm
       rw [if_pos hm] at hpk hsk
       rw [hfi] at hfd
       rw [hpk,List.flatMap_append] at f1 f2
       rw [hsk] at hsf
       simp only [List.length_append,List.length_map] at f1 f2 hsf bc bs bp
       have hrec:=hrec (by rw [hcc]; simp only [List.length_append,hcl'] ; unfold cutsL; omega) (by rw [hss]; simp only [List.length_append,hsl']; unfold setsL; omega) (by rw [hpp]; simp only [List.length_append]; omega)
       rw [decide_eq_true hm] at hha
       unfold NodeR at hrec
       have q1:cc++cutsL (kidIn wks t.id) t=c'++(pairsL (.mk wi wk wx wks) cm (iks.take (k+1))).flatMap (fun p=>cutsOf (locB p) p):=by rw [hpk,List.flatMap_append,hcc,List.append_assoc]; rfl
       have q2:ss++setsL (kidIn wks t.id) t=S++(pairsL (.mk wi wk wx wks) cm (iks.take (k+1))).flatMap wordsOf:=by rw [hpk,List.flatMap_append,hss,List.append_assoc]; rfl
       have q3:pp++sputT (kidIn wks t.id) t=p++sputL (.mk wi wk wx wks) wi cm 0 (iks.take (k+1)):=by rw [hsk,hpp,List.append_assoc]
       clear hpk hsk f1 f2 hsf hcc hss hpp hfi
       generalize kidIn wks t.id=z at *
       obtain ⟨ti,tk,tx,tks⟩:=t
       obtain ⟨zi,zk,zx,zks⟩:=z
       refine ⟨by omega,T.rows iks,_,4,rfl,hg,rfl,rfl,?_⟩
       conv=>whnf
       refine .inl (hha.mono ?_)
       rintro r rfl
       conv=>whnf
       refine draw_go hX ?_
       conv=>whnf
       repeat' (first
        | (refine ⟨by omega,T.rows iks,_,4,rfl,hg,rfl,rfl,?_⟩
           conv=>whnf)
        | (refine ⟨_,.inl hfd,?_⟩
           conv=>whnf)
        | (rintro r rfl
           conv=>whnf)
        | (refine And.intro ?_ ?_
           all_goals (conv=>whnf))
        | fail)
       all_goals (try rfl)
       refine draw_with hX [(0,.ptr 0 0 0),(4,.ptr 2 0 0),(5,.ptr 3 0 0),(6,.sl (irows cm)),(8,.int .i64 k),(9,.ptr 4 0 0)] ⟨rfl,rfl,rfl,rfl,rfl,rfl,trivial⟩ fun C hC fr=>?_
       have hJ:∀ fr es' g1 g2 g3,D3 es' g1 g2 g3 (cc++cutsL (.mk zi zk zx zks) (.mk ti tk tx tks)) (ss++setsL (.mk zi zk zx zks) (.mk ti tk tx tks)) (pp++sputT (.mk zi zk zx zks) (.mk ti tk tx tks))→Holds fr [(0,.ptr 0 0 0),(4,.ptr 2 0 0),(5,.ptr 3 0 0),(6,.sl (irows cm)),(8,.int .i64 k)] →
        C fr [dbox (hdV g1 (cc++cutsL (.mk zi zk zx zks) (.mk ti tk tx tks)).length) (hdV g2 (ss++setsL (.mk zi zk zx zks) (.mk ti tk tx tks)).length) (hdV g3 (pp++sputT (.mk zi zk zx zks) (.mk ti tk tx tks)).length),poolO es',⟨[[.int .i64 wi,.str wk,.str wx,.sl (T.rows wks)]],4,true,true,true,.cell⟩,⟨[[.int .i64 wi,.str ik,.str ix,.sl (T.rows iks)]],4,true,true,true,.cell⟩,⟨[[.int .i64 zi,.str zk,.str zx,.sl (T.rows zks)]],4,true,true,true,.cell⟩]:=by
        intro fr es' g1 g2 g3 hD' hh
        obtain ⟨fr,rfl⟩:=hh.split
        refine hC _ _ ?_
        clear hC hh
        rcases g1 with _ | ⟨_,_⟩ <;> rcases g2 with _ | ⟨_,_⟩ <;> rcases g3 with _ | ⟨_,_⟩
        all_goals
         conv=>whnf
         refine ⟨n - 1,by omega,some [0,1,2,3],?_⟩
         conv=>whnf
         exact ⟨k+1,es',_,_,_,_,_,_,by omega,q1,q2,q3,hD',⟨rfl,rfl,rfl,rfl,hwk,trivial⟩,rfl⟩
       clear hC hD
       rcases h1 with _ | ⟨a1,a2⟩ <;> rcases h2 with _ | ⟨a3,a4⟩ <;> rcases h3 with _ | ⟨a5,a6⟩
       all_goals
        conv=>whnf
        refine ⟨by omega,T.rows iks,_,4,rfl,hg,rfl,rfl,?_⟩
        conv=>whnf
        refine ⟨[0,1],true,?_⟩
        conv=>whnf
        refine hrec.mono ?_
        rintro o st' ⟨rfl,es',g1,g2,g3,hD',rfl⟩
        have hz:=fun fr=>hJ fr es' g1 g2 g3 hD'
        rcases g1 with _ | ⟨_,_⟩ <;> rcases g2 with _ | ⟨_,_⟩ <;> rcases g3 with _ | ⟨_,_⟩
        all_goals
         conv=>whnf
         exact hz _ ⟨rfl,rfl,rfl,rfl,rfl,trivial⟩
     · rw [if_neg hm] at hpk hsk
       rw [List.append_nil] at hpk
       have hlb:pp.length≤1000000:=by
        rw [hsk] at hsf
        rw [hpp]
        simp only [List.length_append] at hsf bp ⊢
        omega
       rw [decide_eq_false hm] at hha
       have q3:pp++[⟨1,wi,k,t,[]⟩]=p++sputL (.mk wi wk wx wks) wi cm 0 (iks.take (k+1)):=by rw [hsk,hpp,List.append_assoc]
       rw [← hpk] at hcc hss
       clear hpk hsk hpp f1 f2 hsf hrec hfi hfd
       obtain ⟨ti,tk,tx,tks⟩:=t
       refine ⟨by omega,T.rows iks,_,4,rfl,hg,rfl,rfl,?_⟩
       conv=>whnf
       refine .inl (hha.mono ?_)
       rintro r rfl
       conv=>whnf
       refine draw_with hX [(0,.ptr 0 0 0),(4,.ptr 2 0 0),(5,.ptr 3 0 0),(6,.sl (irows cm)),(8,.int .i64 k)] ⟨rfl,rfl,rfl,rfl,rfl,trivial⟩ fun C hC fr=>?_
       have hJ:∀ fr es' b c0 tmp,D3 es' h1 h2 (some (b,c0)) cc ss (pp++[⟨1,wi,k,.mk ti tk tx tks,[]⟩])→Holds fr [(0,.ptr 0 0 0),(4,.ptr 2 0 0),(5,.ptr 3 0 0),(6,.sl (irows cm)),(8,.int .i64 k)] →
        C fr [dbox (hdV h1 cc.length) (hdV h2 ss.length) (.dref b (pp.length+1) c0),poolO es',⟨[[.int .i64 wi,.str wk,.str wx,.sl (T.rows wks)]],4,true,true,true,.cell⟩,⟨[[.int .i64 wi,.str ik,.str ix,.sl (T.rows iks)]],4,true,true,true,.cell⟩,⟨tmp,8,true,true,false,.cell⟩]:=by
        intro fr es' b c0 tmp hD' hh
        obtain ⟨fr,rfl⟩:=hh.split
        refine hC _ _ ?_
        clear hC hh
        conv=>whnf
        refine ⟨n - 1,by omega,some [0,1,2,3],?_⟩
        conv=>whnf
        refine ⟨k+1,es',h1,h2,some (b,c0),cc,ss,pp++[⟨1,wi,k,.mk ti tk tx tks,[]⟩],by omega,hcc,hss,q3,hD',⟨rfl,rfl,rfl,rfl,hwk,trivial⟩,?_⟩
        rw [List.length_append]
        rcases h1 with _ | ⟨_,_⟩ <;> rcases h2 with _ | ⟨_,_⟩ <;> rfl
       clear hC
       rcases h3 with _ | ⟨b0,cc0⟩
       all_goals
        conv=>whnf
        repeat' (first
         | (refine ⟨by omega,T.rows iks,_,4,rfl,hg,rfl,rfl,?_⟩
            conv=>whnf)
         | (refine ⟨_,.inl hcp,?_⟩
            conv=>whnf)
         | (rintro r rfl
            conv=>whnf)
         | (refine semStep3 (k:=1) (q:=⟨1,wi,k,.mk ti tk tx tks,[]⟩) rfl rfl rfl rfl rfl rfl rfl rfl rfl hD (.inl rfl) hlb ?_
            intro es' b c0 hD'
            conv=>whnf
            exact hJ _ es' b c0 _ hD' ⟨rfl,rfl,rfl,rfl,rfl,trivial⟩)
         | fail)
   · rw [ltB_f (by omega)]
     rw [List.take_of_length_le (by omega)] at hcc hss hpp
     have E1:c++(((wks.filter fun k=>!decide (k.id∈cm)).map fun k=>cutStp k.id)++(pairsL (.mk wi wk wx wks) cm iks).flatMap fun p=>cutsOf (locB p) p)=cc:=by rw [← List.append_assoc,← hc',← hcc]
     have E2:s++(((if wk≠ik then [(⟨4,wi,0,TZ,ik⟩:Stp)] else [])++(if wx≠ix then [(⟨3,wi,0,TZ,ix⟩:Stp)] else []))++(pairsL (.mk wi wk wx wks) cm iks).flatMap wordsOf)=ss:=by rw [← List.append_assoc,← hSS,← hss]
     rcases h1 with _ | ⟨a1,a2⟩ <;> rcases h2 with _ | ⟨a3,a4⟩ <;> rcases h3 with _ | ⟨a5,a6⟩
     all_goals
      conv=>whnf
      refine ⟨[],true,?_⟩
      conv=>whnf
      rw [E1,E2,← hpp]
      exact ⟨rfl,es,_,_,_,hD,rfl⟩
end Go.Cod
namespace Go.Cod
open Go Go.Proofs
set_option linter.all false
set_option maxRecDepth 10000
set_option maxHeartbeats 8000000 in
theorem node_ft (wi:Int) (wk wx:List UInt8) (wks:List T) (ik ix:List UInt8) (iks:List T) (lw:wks.length≤1048576) (li:iks.length≤1048576) (h4:wk.length≤1048576) (hws:(T.mk wi wk wx wks).Small) (his:∀ t∈iks,t.Small) (hwn:(T.mk wi wk wx wks).ids.Nodup)
 (ih:∀ k∈iks,k.id∈wks.map T.id→∀ es h1 h2 h3 c s p,D3 es h1 h2 h3 c s p→c.length+(cutsL (kidIn wks k.id) k).length≤1000000→s.length+(setsL (kidIn wks k.id) k).length≤1000000→p.length+(sputT (kidIn wks k.id) k).length≤1000000 →
   Full Try.prog noY 36 [.ptr 0 0 0,.agg (kidIn wks k.id).cells,.agg k.cells] [dbox (hdV h1 c.length) (hdV h2 s.length) (hdV h3 p.length),poolO es] (NodeR (kidIn wks k.id) k c s p))
 (e1:wk≠ik) (e2:wx=ix) (es:List (List V)) (h1 h2 h3:Option (Nat × Nat)) (c s p:List Stp) (hD:D3 es h1 h2 h3 c s p) (bc:c.length+(cutsL (.mk wi wk wx wks) (.mk wi ik ix iks)).length≤1000000) (bs:s.length+(setsL (.mk wi wk wx wks) (.mk wi ik ix iks)).length≤1000000) (bp:p.length+(sputT (.mk wi wk wx wks) (.mk wi ik ix iks)).length≤1000000) :
 Full Try.prog noY 36 [.ptr 0 0 0,.agg (T.mk wi wk wx wks).cells,.agg (T.mk wi ik ix iks).cells] [dbox (hdV h1 c.length) (hdV h2 s.length) (hdV h3 p.length),poolO es] (NodeR (.mk wi wk wx wks) (.mk wi ik ix iks) c s p):=by
 have n1:=l5Numbers_pure (.mk wi wk wx wks) lw
 have n2:=l5Numbers_pure (.mk wi ik ix iks) li
 rw [show (T.mk wi wk wx wks).kidIds=wks.map T.id from rfl] at n1
 rw [show (T.mk wi ik ix iks).kidIds=iks.map T.id from rfl] at n2
 have n3:=l5Both_pure (wks.map T.id) (iks.map T.id) (by rw [List.length_map]; omega) (by rw [List.length_map]; omega)
 have hsub:=lcs_sub _ (wks.map T.id) (iks.map T.id) (Nat.le_refl _)
 have hcut:cutsL (.mk wi wk wx wks) (.mk wi ik ix iks)=((wks.filter fun k=>!decide (k.id∈lcs (wks.map T.id) (iks.map T.id))).map fun k=>cutStp k.id)++(pairsL (.mk wi wk wx wks) (lcs (wks.map T.id) (iks.map T.id)) iks).flatMap fun p=>cutsOf (locB p) p:=by
  unfold cutsL; rw [pairsT,List.flatMap_cons]; rfl
 have hset:setsL (.mk wi wk wx wks) (.mk wi ik ix iks)=((if wk≠ik then [⟨4,wi,0,TZ,ik⟩] else [])++(if wx≠ix then [⟨3,wi,0,TZ,ix⟩] else []))++(pairsL (.mk wi wk wx wks) (lcs (wks.map T.id) (iks.map T.id)) iks).flatMap wordsOf:=by
  unfold setsL; rw [pairsT,List.flatMap_cons]; rfl
 have hput:sputT (.mk wi wk wx wks) (.mk wi ik ix iks)=sputL (.mk wi wk wx wks) wi (lcs (wks.map T.id) (iks.map T.id)) 0 iks:=by rw [sputT]; rfl
 have hfind:∀ x,x∈wks.map T.id→fT (.mk wi wk wx wks) x=some (kidIn wks x):=fun x hx=>by
  obtain ⟨k1,k2⟩:=kidIn_mem hx
  have:=fT_kid2 hwn (k:=kidIn wks x) k1
  rwa [k2] at this
 unfold NodeR
 rw [hcut] at bc ⊢
 rw [hset] at bs ⊢
 rw [hput] at bp ⊢
 clear hcut hset hput
 have hcl:(lcs (wks.map T.id) (iks.map T.id)).length≤1048576:=by have:=hsub.1.length_le; rw [List.length_map] at this; omega
 have hhas:=fun x=>l2Has_pure (lcs (wks.map T.id) (iks.map T.id)) x (by omega)
 generalize lcs (wks.map T.id) (iks.map T.id)=cm at *
 have hlr:=Go.Cod.rows_len wks
 have hlr2:=Go.Cod.rows_len iks
 refine full_of_draw good Try.func36 rfl (by kernel_rfl) (by decide) fun X hX=>?_
 conv=>whnf
 refine draw_go hX ?_
 conv=>whnf
 repeat' (first
  | (refine ⟨_,.inl n1,?_⟩
     conv=>whnf)
  | (refine ⟨_,.inl n2,?_⟩
     conv=>whnf)
  | (refine ⟨_,.inl n3,?_⟩
     conv=>whnf)
  | (rintro r rfl
     conv=>whnf)
  | (refine And.intro ?_ ?_))
 clear n1 n2 n3
 refine loop_drop (fun n fr st=>∃ (k:Nat) (es:List (List V)) (h1:Option (Nat × Nat)) (c':List Stp),n+k=wks.length∧c'=c++(((wks.take k).filter fun k=>!decide (k.id∈cm)).map fun k=>cutStp k.id)∧D3 es h1 h2 h3 c' s p ∧
  Holds fr [(0,.ptr 0 0 0),(4,.ptr 2 0 0),(5,.ptr 3 0 0),(6,.sl (irows cm)),(7,.int .i64 k)] ∧
  st=[dbox (hdV h1 c'.length) (hdV h2 s.length) (hdV h3 p.length),poolO es,⟨[[.int .i64 wi,.str wk,.str wx,.sl (T.rows wks)]],4,true,true,true,.cell⟩,⟨[[.int .i64 wi,.str ik,.str ix,.sl (T.rows iks)]],4,true,true,true,.cell⟩]) wks.length none ?_ ?_
 · exact ⟨0,es,h1,c,rfl,by simp,hD,⟨rfl,rfl,rfl,rfl,rfl,trivial⟩,rfl⟩
 clear hD
 rintro n fr st ⟨k,es,h1,c',hk,hc',hD,hh,rfl⟩
 obtain ⟨fr,rfl⟩:=hh.split
 clear hh
 conv=>whnf
 rw [hlr]
 by_cases hlt:k < wks.length
 · rw [ltB_t (by omega)]
   conv=>whnf
   have hg:=Go.Cod.rows_get wks k hlt
   have htk:((wks.take (k+1)).filter fun k=>!decide (k.id∈cm))=((wks.take k).filter fun k=>!decide (k.id∈cm))++if wks[k].id∈cm then [] else [wks[k]]:=by
    rw [List.take_succ_eq_append_getElem hlt,List.filter_append]
    congr 1
    by_cases h:wks[k].id∈cm <;> simp [h]
   have hwk:V.int .i64 (IntKind.i64.wrap ((k:Int)+1))=.int .i64 ((k+1:Nat):Int):=by rw [wrapJ1 k (by omega)]
   have hlb:c'.length≤1000000:=by
    have h1:((wks.take k).filter fun k=>!decide (k.id∈cm)).length≤(wks.filter fun k=>!decide (k.id∈cm)).length:=by
     conv=>rhs; rw [← List.take_append_drop k wks,List.filter_append,List.length_append]
     omega
    rw [hc']
    simp only [List.length_append,List.length_map] at bc ⊢
    omega
   generalize wks[k]=t at *
   obtain ⟨ti,tk,tx,tks⟩:=t
   have hti:(T.mk ti tk tx tks).id=ti:=rfl
   rw [hti] at htk
   have hha:=hhas ti
   refine ⟨by omega,T.rows wks,_,4,rfl,hg,rfl,rfl,?_⟩
   conv=>whnf
   refine .inl (hha.mono ?_)
   rintro r rfl
   by_cases hm:ti∈cm
   · rw [if_pos hm,List.append_nil] at htk
     rw [decide_eq_true hm]
     conv=>whnf
     refine ⟨n - 1,by omega,none,k+1,es,h1,c',by omega,by rw [htk]; exact hc',hD,⟨rfl,rfl,rfl,rfl,hwk,trivial⟩,rfl⟩
   · rw [if_neg hm] at htk
     rw [decide_eq_false hm]
     conv=>whnf
     refine draw_with hX [(0,.ptr 0 0 0),(4,.ptr 2 0 0),(5,.ptr 3 0 0),(6,.sl (irows cm)),(7,.int .i64 k)] ⟨rfl,rfl,rfl,rfl,rfl,trivial⟩ fun C hC fr=>?_
     have hJ:∀ fr es' b cc tmp,D3 es' (some (b,cc)) h2 h3 (c'++[cutStp ti]) s p→Holds fr [(0,.ptr 0 0 0),(4,.ptr 2 0 0),(5,.ptr 3 0 0),(6,.sl (irows cm)),(7,.int .i64 k)] →
      C fr [dbox (.dref b (c'.length+1) cc) (hdV h2 s.length) (hdV h3 p.length),poolO es',⟨[[.int .i64 wi,.str wk,.str wx,.sl (T.rows wks)]],4,true,true,true,.cell⟩,⟨[[.int .i64 wi,.str ik,.str ix,.sl (T.rows iks)]],4,true,true,true,.cell⟩,⟨tmp,8,true,true,false,.cell⟩]:=by
      intro fr es' b cc tmp hD' hh
      obtain ⟨fr,rfl⟩:=hh.split
      refine hC _ _ ?_
      clear hC hh
      conv=>whnf
      refine ⟨n - 1,by omega,some [0,1,2,3],?_⟩
      conv=>whnf
      refine ⟨k+1,es',some (b,cc),c'++[cutStp ti],by omega,by rw [htk,hc',List.map_append,← List.append_assoc]; rfl,hD',⟨rfl,rfl,rfl,rfl,hwk,trivial⟩,?_⟩
      rw [List.length_append]
      rcases h2 with _ | ⟨_,_⟩ <;> rcases h3 with _ | ⟨_,_⟩ <;> rfl
     clear hC
     rcases h1 with _ | ⟨b0,cc0⟩
     all_goals
      conv=>whnf
      refine ⟨by omega,T.rows wks,_,4,rfl,hg,rfl,rfl,?_⟩
      conv=>whnf
      refine semStep1 (k:=1) (q:=cutStp ti) rfl rfl rfl rfl rfl rfl rfl rfl rfl hD (.inl rfl) hlb fun es' b cc hD'=>?_
      conv=>whnf
      exact hJ _ es' b cc _ hD' ⟨rfl,rfl,rfl,rfl,rfl,trivial⟩
 · rw [ltB_f (by omega)]
   rw [List.take_of_length_le (by omega)] at hc'
   conv=>whnf
   have hsb:s.length+(1)≤1000000:=by
    have hz:=bs
    rw [if_pos e1,if_neg (by simp [e2])] at hz
    simp only [List.length_append,List.length_singleton,List.length_nil] at hz
    omega
   have hcl':c'.length=c.length+(wks.filter fun k=>!decide (k.id∈cm)).length:=by rw [hc',List.length_append,List.length_map]
   rw [eqS_f e1]
   conv=>whnf
   refine draw_with hX [(0,.ptr 0 0 0),(4,.ptr 2 0 0),(5,.ptr 3 0 0),(6,.sl (irows cm))] ⟨rfl,rfl,rfl,rfl,trivial⟩ fun C1 hC1 fr=>?_
   have hJ1:∀ fr es1 b1 c1 t1,D3 es1 h1 (some (b1,c1)) h3 c' (s++[⟨4,wi,0,TZ,ik⟩]) p→Holds fr [(0,.ptr 0 0 0),(4,.ptr 2 0 0),(5,.ptr 3 0 0),(6,.sl (irows cm))] →
    C1 fr [dbox (hdV h1 c'.length) (.dref b1 (s.length+1) c1) (hdV h3 p.length),poolO es1,⟨[[.int .i64 wi,.str wk,.str wx,.sl (T.rows wks)]],4,true,true,true,.cell⟩,⟨[[.int .i64 wi,.str ik,.str ix,.sl (T.rows iks)]],4,true,true,true,.cell⟩,⟨t1,8,true,true,false,.cell⟩]:=by
    intro fr es1 b1 c1 t1 hD1 hh
    obtain ⟨fr,rfl⟩:=hh.split
    refine hC1 _ _ ?_
    clear hC1 hh
    conv=>whnf
    rw [eqS_t e2]
    conv=>whnf
    obtain ⟨S,hSS⟩:∃ S,S=s++((if wk≠ik then [(⟨4,wi,0,TZ,ik⟩:Stp)] else [])++(if wx≠ix then [(⟨3,wi,0,TZ,ix⟩:Stp)] else [])):=⟨_,rfl⟩
    have hSs:S=(s++[⟨4,wi,0,TZ,ik⟩]):=by rw [hSS,if_pos e1,if_neg (by simp [e2])]; simp
    have hsl':S.length=s.length+((if wk≠ik then [(⟨4,wi,0,TZ,ik⟩:Stp)] else []).length+(if wx≠ix then [(⟨3,wi,0,TZ,ix⟩:Stp)] else []).length):=by rw [hSS]; simp only [List.length_append]
    refine loop_drop (fun n fr st=>∃ (k:Nat) (es:List (List V)) (h1 h2 h3:Option (Nat × Nat)) (cc ss pp:List Stp),n+k=iks.length∧cc=c'++(pairsL (.mk wi wk wx wks) cm (iks.take k)).flatMap (fun p=>cutsOf (locB p) p)∧ss=S++(pairsL (.mk wi wk wx wks) cm (iks.take k)).flatMap wordsOf∧pp=p++sputL (.mk wi wk wx wks) wi cm 0 (iks.take k)∧D3 es h1 h2 h3 cc ss pp ∧
     Holds fr [(0,.ptr 0 0 0),(4,.ptr 2 0 0),(5,.ptr 3 0 0),(6,.sl (irows cm)),(8,.int .i64 k)]∧st=[dbox (hdV h1 cc.length) (hdV h2 ss.length) (hdV h3 pp.length),poolO es,⟨[[.int .i64 wi,.str wk,.str wx,.sl (T.rows wks)]],4,true,true,true,.cell⟩,⟨[[.int .i64 wi,.str ik,.str ix,.sl (T.rows iks)]],4,true,true,true,.cell⟩]) iks.length (some [0,1,2,3]) ?_ ?_
    · conv=>whnf
      exact ⟨0,es1,h1,(some (b1,c1)),h3,c',S,p,rfl,by simp [pairsL],by simp [pairsL],by simp [sputL],by rw [hSs]; exact hD1,⟨rfl,rfl,rfl,rfl,rfl,trivial⟩,by rw [hSs]; rw [List.length_append]; rcases h1 with _ | ⟨_,_⟩ <;> rcases h3 with _ | ⟨_,_⟩ <;> rfl⟩
    clear hD1
    rintro n fr st ⟨k,es,h1,h2,h3,cc,ss,pp,hk,hcc,hss,hpp,hD,hh,rfl⟩
    obtain ⟨fr,rfl⟩:=hh.split
    clear hh
    conv=>whnf
    rw [hlr2]
    by_cases hlt:k < iks.length
    · rw [ltB_t (by omega)]
      conv=>whnf
      have hg:=Go.Cod.rows_get iks k hlt
      have hmem:=List.getElem_mem hlt
      have htk:iks.take (k+1)=iks.take k++[iks[k]]:=by rw [List.take_succ_eq_append_getElem hlt]
      have hpk:pairsL (.mk wi wk wx wks) cm (iks.take (k+1))=pairsL (.mk wi wk wx wks) cm (iks.take k)++(if iks[k].id∈cm then pairsT (kidW (.mk wi wk wx wks) iks[k].id) iks[k] else []):=by
       rw [htk,pairsL_append]; simp only [pairsL,List.append_nil]
      have hsk:sputL (.mk wi wk wx wks) wi cm 0 (iks.take (k+1))=sputL (.mk wi wk wx wks) wi cm 0 (iks.take k)++(if iks[k].id∈cm then sputT (kidW (.mk wi wk wx wks) iks[k].id) iks[k] else [⟨1,wi,k,iks[k],[]⟩]):=by
       rw [htk,sputL_append,List.length_take,Nat.min_eq_left (by omega),Nat.zero_add]; simp only [sputL,List.append_nil]
      have hpf:∀ F:T × T→List Stp,((pairsL (.mk wi wk wx wks) cm (iks.take (k+1))).flatMap F).length≤((pairsL (.mk wi wk wx wks) cm iks).flatMap F).length:=fun F=>by
       conv=>rhs; rw [← List.take_append_drop (k+1) iks,pairsL_append,List.flatMap_append,List.length_append]
       omega
      have hsf:(sputL (.mk wi wk wx wks) wi cm 0 (iks.take (k+1))).length≤(sputL (.mk wi wk wx wks) wi cm 0 iks).length:=by
       conv=>rhs; rw [← List.take_append_drop (k+1) iks,sputL_append,List.length_append]
       omega
      have hwk:V.int .i64 (IntKind.i64.wrap ((k:Int)+1))=.int .i64 ((k+1:Nat):Int):=by rw [wrapJ1 k (by omega)]
      have f1:=hpf fun p=>cutsOf (locB p) p
      have f2:=hpf wordsOf
      clear hpf htk
      have hcp:=l2Copy_pure iks[k] (his _ hmem)
      have hfd:=l2Find_pure (.mk wi wk wx wks) hws iks[k].id
      have hfi:iks[k].id∈cm→fT (.mk wi wk wx wks) iks[k].id=some (kidIn wks iks[k].id):=fun h=>hfind _ (hsub.1.subset h)
      have hrec:=fun h:iks[k].id∈cm=>ih iks[k] hmem (hsub.1.subset h) es h1 h2 h3 cc ss pp hD
      rw [show kidW (.mk wi wk wx wks) iks[k].id=kidIn wks iks[k].id from rfl] at hpk hsk
      have hha:=hhas iks[k].id
      generalize iks[k]=t at *
      clear hmem
      by_cases hm:t.id∈cm
      · replace hfi:=hfi hm
        replace hrec:=hrec hm
        rw [if_pos hm] at hpk hsk
        rw [hfi] at hfd
        rw [hpk,List.flatMap_append] at f1 f2
        rw [hsk] at hsf
        simp only [List.length_append,List.length_map] at f1 f2 hsf bc bs bp
        have hrec:=hrec (by rw [hcc]; simp only [List.length_append,hcl'] ; unfold cutsL; omega) (by rw [hss]; simp only [List.length_append,hsl']; unfold setsL; omega) (by rw [hpp]; simp only [List.length_append]; omega)
        rw [decide_eq_true hm] at hha
        unfold NodeR at hrec
        have q1:cc++cutsL (kidIn wks t.id) t=c'++(pairsL (.mk wi wk wx wks) cm (iks.take (k+1))).flatMap (fun p=>cutsOf (locB p) p):=by rw [hpk,List.flatMap_append,hcc,List.append_assoc]; rfl
        have q2:ss++setsL (kidIn wks t.id) t=S++(pairsL (.mk wi wk wx wks) cm (iks.take (k+1))).flatMap wordsOf:=by rw [hpk,List.flatMap_append,hss,List.append_assoc]; rfl
        have q3:pp++sputT (kidIn wks t.id) t=p++sputL (.mk wi wk wx wks) wi cm 0 (iks.take (k+1)):=by rw [hsk,hpp,List.append_assoc]
        clear hpk hsk f1 f2 hsf hcc hss hpp hfi
        generalize kidIn wks t.id=z at *
        obtain ⟨ti,tk,tx,tks⟩:=t
        obtain ⟨zi,zk,zx,zks⟩:=z
        refine ⟨by omega,T.rows iks,_,4,rfl,hg,rfl,rfl,?_⟩
        conv=>whnf
        refine .inl (hha.mono ?_)
        rintro r rfl
        conv=>whnf
        refine draw_go hX ?_
        conv=>whnf
        repeat' (first
         | (refine ⟨by omega,T.rows iks,_,4,rfl,hg,rfl,rfl,?_⟩
            conv=>whnf)
         | (refine ⟨_,.inl hfd,?_⟩
            conv=>whnf)
         | (rintro r rfl
            conv=>whnf)
         | (refine And.intro ?_ ?_
            all_goals (conv=>whnf))
         | fail)
        all_goals (try rfl)
        refine draw_with hX [(0,.ptr 0 0 0),(4,.ptr 2 0 0),(5,.ptr 3 0 0),(6,.sl (irows cm)),(8,.int .i64 k),(9,.ptr 4 0 0)] ⟨rfl,rfl,rfl,rfl,rfl,rfl,trivial⟩ fun C hC fr=>?_
        have hJ:∀ fr es' g1 g2 g3,D3 es' g1 g2 g3 (cc++cutsL (.mk zi zk zx zks) (.mk ti tk tx tks)) (ss++setsL (.mk zi zk zx zks) (.mk ti tk tx tks)) (pp++sputT (.mk zi zk zx zks) (.mk ti tk tx tks))→Holds fr [(0,.ptr 0 0 0),(4,.ptr 2 0 0),(5,.ptr 3 0 0),(6,.sl (irows cm)),(8,.int .i64 k)] →
         C fr [dbox (hdV g1 (cc++cutsL (.mk zi zk zx zks) (.mk ti tk tx tks)).length) (hdV g2 (ss++setsL (.mk zi zk zx zks) (.mk ti tk tx tks)).length) (hdV g3 (pp++sputT (.mk zi zk zx zks) (.mk ti tk tx tks)).length),poolO es',⟨[[.int .i64 wi,.str wk,.str wx,.sl (T.rows wks)]],4,true,true,true,.cell⟩,⟨[[.int .i64 wi,.str ik,.str ix,.sl (T.rows iks)]],4,true,true,true,.cell⟩,⟨[[.int .i64 zi,.str zk,.str zx,.sl (T.rows zks)]],4,true,true,true,.cell⟩]:=by
         intro fr es' g1 g2 g3 hD' hh
         obtain ⟨fr,rfl⟩:=hh.split
         refine hC _ _ ?_
         clear hC hh
         rcases g1 with _ | ⟨_,_⟩ <;> rcases g2 with _ | ⟨_,_⟩ <;> rcases g3 with _ | ⟨_,_⟩
         all_goals
          conv=>whnf
          refine ⟨n - 1,by omega,some [0,1,2,3],?_⟩
          conv=>whnf
          exact ⟨k+1,es',_,_,_,_,_,_,by omega,q1,q2,q3,hD',⟨rfl,rfl,rfl,rfl,hwk,trivial⟩,rfl⟩
        clear hC hD
        rcases h1 with _ | ⟨a1,a2⟩ <;> rcases h2 with _ | ⟨a3,a4⟩ <;> rcases h3 with _ | ⟨a5,a6⟩
        all_goals
         conv=>whnf
         refine ⟨by omega,T.rows iks,_,4,rfl,hg,rfl,rfl,?_⟩
         conv=>whnf
         refine ⟨[0,1],true,?_⟩
         conv=>whnf
         refine hrec.mono ?_
         rintro o st' ⟨rfl,es',g1,g2,g3,hD',rfl⟩
         have hz:=fun fr=>hJ fr es' g1 g2 g3 hD'
         rcases g1 with _ | ⟨_,_⟩ <;> rcases g2 with _ | ⟨_,_⟩ <;> rcases g3 with _ | ⟨_,_⟩
         all_goals
          conv=>whnf
          exact hz _ ⟨rfl,rfl,rfl,rfl,rfl,trivial⟩
      · rw [if_neg hm] at hpk hsk
        rw [List.append_nil] at hpk
        have hlb:pp.length≤1000000:=by
         rw [hsk] at hsf
         rw [hpp]
         simp only [List.length_append] at hsf bp ⊢
         omega
        rw [decide_eq_false hm] at hha
        have q3:pp++[⟨1,wi,k,t,[]⟩]=p++sputL (.mk wi wk wx wks) wi cm 0 (iks.take (k+1)):=by rw [hsk,hpp,List.append_assoc]
        rw [← hpk] at hcc hss
        clear hpk hsk hpp f1 f2 hsf hrec hfi hfd
        obtain ⟨ti,tk,tx,tks⟩:=t
        refine ⟨by omega,T.rows iks,_,4,rfl,hg,rfl,rfl,?_⟩
        conv=>whnf
        refine .inl (hha.mono ?_)
        rintro r rfl
        conv=>whnf
        refine draw_with hX [(0,.ptr 0 0 0),(4,.ptr 2 0 0),(5,.ptr 3 0 0),(6,.sl (irows cm)),(8,.int .i64 k)] ⟨rfl,rfl,rfl,rfl,rfl,trivial⟩ fun C hC fr=>?_
        have hJ:∀ fr es' b c0 tmp,D3 es' h1 h2 (some (b,c0)) cc ss (pp++[⟨1,wi,k,.mk ti tk tx tks,[]⟩])→Holds fr [(0,.ptr 0 0 0),(4,.ptr 2 0 0),(5,.ptr 3 0 0),(6,.sl (irows cm)),(8,.int .i64 k)] →
         C fr [dbox (hdV h1 cc.length) (hdV h2 ss.length) (.dref b (pp.length+1) c0),poolO es',⟨[[.int .i64 wi,.str wk,.str wx,.sl (T.rows wks)]],4,true,true,true,.cell⟩,⟨[[.int .i64 wi,.str ik,.str ix,.sl (T.rows iks)]],4,true,true,true,.cell⟩,⟨tmp,8,true,true,false,.cell⟩]:=by
         intro fr es' b c0 tmp hD' hh
         obtain ⟨fr,rfl⟩:=hh.split
         refine hC _ _ ?_
         clear hC hh
         conv=>whnf
         refine ⟨n - 1,by omega,some [0,1,2,3],?_⟩
         conv=>whnf
         refine ⟨k+1,es',h1,h2,some (b,c0),cc,ss,pp++[⟨1,wi,k,.mk ti tk tx tks,[]⟩],by omega,hcc,hss,q3,hD',⟨rfl,rfl,rfl,rfl,hwk,trivial⟩,?_⟩
         rw [List.length_append]
         rcases h1 with _ | ⟨_,_⟩ <;> rcases h2 with _ | ⟨_,_⟩ <;> rfl
        clear hC
        rcases h3 with _ | ⟨b0,cc0⟩
        all_goals
         conv=>whnf
         repeat' (first
          | (refine ⟨by omega,T.rows iks,_,4,rfl,hg,rfl,rfl,?_⟩
             conv=>whnf)
          | (refine ⟨_,.inl hcp,?_⟩
             conv=>whnf)
          | (rintro r rfl
             conv=>whnf)
          | (refine semStep3 (k:=1) (q:=⟨1,wi,k,.mk ti tk tx tks,[]⟩) rfl rfl rfl rfl rfl rfl rfl rfl rfl hD (.inl rfl) hlb ?_
             intro es' b c0 hD'
             conv=>whnf
             exact hJ _ es' b c0 _ hD' ⟨rfl,rfl,rfl,rfl,rfl,trivial⟩)
          | fail)
    · rw [ltB_f (by omega)]
      rw [List.take_of_length_le (by omega)] at hcc hss hpp
      have E1:c++(((wks.filter fun k=>!decide (k.id∈cm)).map fun k=>cutStp k.id)++(pairsL (.mk wi wk wx wks) cm iks).flatMap fun p=>cutsOf (locB p) p)=cc:=by rw [← List.append_assoc,← hc',← hcc]
      have E2:s++(((if wk≠ik then [(⟨4,wi,0,TZ,ik⟩:Stp)] else [])++(if wx≠ix then [(⟨3,wi,0,TZ,ix⟩:Stp)] else []))++(pairsL (.mk wi wk wx wks) cm iks).flatMap wordsOf)=ss:=by rw [← List.append_assoc,← hSS,← hss]
      rcases h1 with _ | ⟨a1,a2⟩ <;> rcases h2 with _ | ⟨a3,a4⟩ <;> rcases h3 with _ | ⟨a5,a6⟩
      all_goals
       conv=>whnf
       refine ⟨[],true,?_⟩
       conv=>whnf
       rw [E1,E2,← hpp]
       exact ⟨rfl,es,_,_,_,hD,rfl⟩
   clear hC1
   rcases h2 with _ | ⟨b0,c0⟩
   all_goals
    conv=>whnf
    refine semStep2 (k:=1) (s:=s) (q:=⟨4,wi,0,TZ,ik⟩) rfl rfl rfl rfl rfl rfl rfl rfl rfl hD (.inl rfl) (by omega) fun es1 b1 c1 hD1=>?_
    conv=>whnf
    exact hJ1 _ es1 b1 c1 _ hD1 ⟨rfl,rfl,rfl,rfl,trivial⟩
end Go.Cod
namespace Go.Cod
open Go Go.Proofs
set_option linter.all false
set_option maxRecDepth 10000
set_option maxHeartbeats 8000000 in
theorem node_tf (wi:Int) (wk wx:List UInt8) (wks:List T) (ik ix:List UInt8) (iks:List T) (lw:wks.length≤1048576) (li:iks.length≤1048576) (h4:wk.length≤1048576) (hws:(T.mk wi wk wx wks).Small) (his:∀ t∈iks,t.Small) (hwn:(T.mk wi wk wx wks).ids.Nodup)
 (ih:∀ k∈iks,k.id∈wks.map T.id→∀ es h1 h2 h3 c s p,D3 es h1 h2 h3 c s p→c.length+(cutsL (kidIn wks k.id) k).length≤1000000→s.length+(setsL (kidIn wks k.id) k).length≤1000000→p.length+(sputT (kidIn wks k.id) k).length≤1000000 →
   Full Try.prog noY 36 [.ptr 0 0 0,.agg (kidIn wks k.id).cells,.agg k.cells] [dbox (hdV h1 c.length) (hdV h2 s.length) (hdV h3 p.length),poolO es] (NodeR (kidIn wks k.id) k c s p))
 (e1:wk=ik) (e2:wx≠ix) (es:List (List V)) (h1 h2 h3:Option (Nat × Nat)) (c s p:List Stp) (hD:D3 es h1 h2 h3 c s p) (bc:c.length+(cutsL (.mk wi wk wx wks) (.mk wi ik ix iks)).length≤1000000) (bs:s.length+(setsL (.mk wi wk wx wks) (.mk wi ik ix iks)).length≤1000000) (bp:p.length+(sputT (.mk wi wk wx wks) (.mk wi ik ix iks)).length≤1000000) :
 Full Try.prog noY 36 [.ptr 0 0 0,.agg (T.mk wi wk wx wks).cells,.agg (T.mk wi ik ix iks).cells] [dbox (hdV h1 c.length) (hdV h2 s.length) (hdV h3 p.length),poolO es] (NodeR (.mk wi wk wx wks) (.mk wi ik ix iks) c s p):=by
 have n1:=l5Numbers_pure (.mk wi wk wx wks) lw
 have n2:=l5Numbers_pure (.mk wi ik ix iks) li
 rw [show (T.mk wi wk wx wks).kidIds=wks.map T.id from rfl] at n1
 rw [show (T.mk wi ik ix iks).kidIds=iks.map T.id from rfl] at n2
 have n3:=l5Both_pure (wks.map T.id) (iks.map T.id) (by rw [List.length_map]; omega) (by rw [List.length_map]; omega)
 have hsub:=lcs_sub _ (wks.map T.id) (iks.map T.id) (Nat.le_refl _)
 have hcut:cutsL (.mk wi wk wx wks) (.mk wi ik ix iks)=((wks.filter fun k=>!decide (k.id∈lcs (wks.map T.id) (iks.map T.id))).map fun k=>cutStp k.id)++(pairsL (.mk wi wk wx wks) (lcs (wks.map T.id) (iks.map T.id)) iks).flatMap fun p=>cutsOf (locB p) p:=by
  unfold cutsL; rw [pairsT,List.flatMap_cons]; rfl
 have hset:setsL (.mk wi wk wx wks) (.mk wi ik ix iks)=((if wk≠ik then [⟨4,wi,0,TZ,ik⟩] else [])++(if wx≠ix then [⟨3,wi,0,TZ,ix⟩] else []))++(pairsL (.mk wi wk wx wks) (lcs (wks.map T.id) (iks.map T.id)) iks).flatMap wordsOf:=by
  unfold setsL; rw [pairsT,List.flatMap_cons]; rfl
 have hput:sputT (.mk wi wk wx wks) (.mk wi ik ix iks)=sputL (.mk wi wk wx wks) wi (lcs (wks.map T.id) (iks.map T.id)) 0 iks:=by rw [sputT]; rfl
 have hfind:∀ x,x∈wks.map T.id→fT (.mk wi wk wx wks) x=some (kidIn wks x):=fun x hx=>by
  obtain ⟨k1,k2⟩:=kidIn_mem hx
  have:=fT_kid2 hwn (k:=kidIn wks x) k1
  rwa [k2] at this
 unfold NodeR
 rw [hcut] at bc ⊢
 rw [hset] at bs ⊢
 rw [hput] at bp ⊢
 clear hcut hset hput
 have hcl:(lcs (wks.map T.id) (iks.map T.id)).length≤1048576:=by have:=hsub.1.length_le; rw [List.length_map] at this; omega
 have hhas:=fun x=>l2Has_pure (lcs (wks.map T.id) (iks.map T.id)) x (by omega)
 generalize lcs (wks.map T.id) (iks.map T.id)=cm at *
 have hlr:=Go.Cod.rows_len wks
 have hlr2:=Go.Cod.rows_len iks
 refine full_of_draw good Try.func36 rfl (by kernel_rfl) (by decide) fun X hX=>?_
 conv=>whnf
 refine draw_go hX ?_
 conv=>whnf
 repeat' (first
  | (refine ⟨_,.inl n1,?_⟩
     conv=>whnf)
  | (refine ⟨_,.inl n2,?_⟩
     conv=>whnf)
  | (refine ⟨_,.inl n3,?_⟩
     conv=>whnf)
  | (rintro r rfl
     conv=>whnf)
  | (refine And.intro ?_ ?_))
 clear n1 n2 n3
 refine loop_drop (fun n fr st=>∃ (k:Nat) (es:List (List V)) (h1:Option (Nat × Nat)) (c':List Stp),n+k=wks.length∧c'=c++(((wks.take k).filter fun k=>!decide (k.id∈cm)).map fun k=>cutStp k.id)∧D3 es h1 h2 h3 c' s p ∧
  Holds fr [(0,.ptr 0 0 0),(4,.ptr 2 0 0),(5,.ptr 3 0 0),(6,.sl (irows cm)),(7,.int .i64 k)] ∧
  st=[dbox (hdV h1 c'.length) (hdV h2 s.length) (hdV h3 p.length),poolO es,⟨[[.int .i64 wi,.str wk,.str wx,.sl (T.rows wks)]],4,true,true,true,.cell⟩,⟨[[.int .i64 wi,.str ik,.str ix,.sl (T.rows iks)]],4,true,true,true,.cell⟩]) wks.length none ?_ ?_
 · exact ⟨0,es,h1,c,rfl,by simp,hD,⟨rfl,rfl,rfl,rfl,rfl,trivial⟩,rfl⟩
 clear hD
 rintro n fr st ⟨k,es,h1,c',hk,hc',hD,hh,rfl⟩
 obtain ⟨fr,rfl⟩:=hh.split
 clear hh
 conv=>whnf
 rw [hlr]
 by_cases hlt:k < wks.length
 · rw [ltB_t (by omega)]
   conv=>whnf
   have hg:=Go.Cod.rows_get wks k hlt
   have htk:((wks.take (k+1)).filter fun k=>!decide (k.id∈cm))=((wks.take k).filter fun k=>!decide (k.id∈cm))++if wks[k].id∈cm then [] else [wks[k]]:=by
    rw [List.take_succ_eq_append_getElem hlt,List.filter_append]
    congr 1
    by_cases h:wks[k].id∈cm <;> simp [h]
   have hwk:V.int .i64 (IntKind.i64.wrap ((k:Int)+1))=.int .i64 ((k+1:Nat):Int):=by rw [wrapJ1 k (by omega)]
   have hlb:c'.length≤1000000:=by
    have h1:((wks.take k).filter fun k=>!decide (k.id∈cm)).length≤(wks.filter fun k=>!decide (k.id∈cm)).length:=by
     conv=>rhs; rw [← List.take_append_drop k wks,List.filter_append,List.length_append]
     omega
    rw [hc']
    simp only [List.length_append,List.length_map] at bc ⊢
    omega
   generalize wks[k]=t at *
   obtain ⟨ti,tk,tx,tks⟩:=t
   have hti:(T.mk ti tk tx tks).id=ti:=rfl
   rw [hti] at htk
   have hha:=hhas ti
   refine ⟨by omega,T.rows wks,_,4,rfl,hg,rfl,rfl,?_⟩
   conv=>whnf
   refine .inl (hha.mono ?_)
   rintro r rfl
   by_cases hm:ti∈cm
   · rw [if_pos hm,List.append_nil] at htk
     rw [decide_eq_true hm]
     conv=>whnf
     refine ⟨n - 1,by omega,none,k+1,es,h1,c',by omega,by rw [htk]; exact hc',hD,⟨rfl,rfl,rfl,rfl,hwk,trivial⟩,rfl⟩
   · rw [if_neg hm] at htk
     rw [decide_eq_false hm]
     conv=>whnf
     refine draw_with hX [(0,.ptr 0 0 0),(4,.ptr 2 0 0),(5,.ptr 3 0 0),(6,.sl (irows cm)),(7,.int .i64 k)] ⟨rfl,rfl,rfl,rfl,rfl,trivial⟩ fun C hC fr=>?_
     have hJ:∀ fr es' b cc tmp,D3 es' (some (b,cc)) h2 h3 (c'++[cutStp ti]) s p→Holds fr [(0,.ptr 0 0 0),(4,.ptr 2 0 0),(5,.ptr 3 0 0),(6,.sl (irows cm)),(7,.int .i64 k)] →
      C fr [dbox (.dref b (c'.length+1) cc) (hdV h2 s.length) (hdV h3 p.length),poolO es',⟨[[.int .i64 wi,.str wk,.str wx,.sl (T.rows wks)]],4,true,true,true,.cell⟩,⟨[[.int .i64 wi,.str ik,.str ix,.sl (T.rows iks)]],4,true,true,true,.cell⟩,⟨tmp,8,true,true,false,.cell⟩]:=by
      intro fr es' b cc tmp hD' hh
      obtain ⟨fr,rfl⟩:=hh.split
      refine hC _ _ ?_
      clear hC hh
      conv=>whnf
      refine ⟨n - 1,by omega,some [0,1,2,3],?_⟩
      conv=>whnf
      refine ⟨k+1,es',some (b,cc),c'++[cutStp ti],by omega,by rw [htk,hc',List.map_append,← List.append_assoc]; rfl,hD',⟨rfl,rfl,rfl,rfl,hwk,trivial⟩,?_⟩
      rw [List.length_append]
      rcases h2 with _ | ⟨_,_⟩ <;> rcases h3 with _ | ⟨_,_⟩ <;> rfl
     clear hC
     rcases h1 with _ | ⟨b0,cc0⟩
     all_goals
      conv=>whnf
      refine ⟨by omega,T.rows wks,_,4,rfl,hg,rfl,rfl,?_⟩
      conv=>whnf
      refine semStep1 (k:=1) (q:=cutStp ti) rfl rfl rfl rfl rfl rfl rfl rfl rfl hD (.inl rfl) hlb fun es' b cc hD'=>?_
      conv=>whnf
      exact hJ _ es' b cc _ hD' ⟨rfl,rfl,rfl,rfl,rfl,trivial⟩
 · rw [ltB_f (by omega)]
   rw [List.take_of_length_le (by omega)] at hc'
   conv=>whnf
   have hsb:s.length+(1)≤1000000:=by
    have hz:=bs
    rw [if_neg (by simp [e1]),if_pos e2] at hz
    simp only [List.length_append,List.length_singleton,List.length_nil] at hz
    omega
   have hcl':c'.length=c.length+(wks.filter fun k=>!decide (k.id∈cm)).length:=by rw [hc',List.length_append,List.length_map]
   rw [eqS_t e1]
   conv=>whnf
   rw [eqS_f e2]
   conv=>whnf
   refine draw_with hX [(0,.ptr 0 0 0),(4,.ptr 2 0 0),(5,.ptr 3 0 0),(6,.sl (irows cm))] ⟨rfl,rfl,rfl,rfl,trivial⟩ fun C2 hC2 fr=>?_
   have hJ2:∀ fr es2 b2 c2 t2,D3 es2 h1 (some (b2,c2)) h3 c' (s++[⟨3,wi,0,TZ,ix⟩]) p→Holds fr [(0,.ptr 0 0 0),(4,.ptr 2 0 0),(5,.ptr 3 0 0),(6,.sl (irows cm))] →
    C2 fr [dbox (hdV h1 c'.length) (.dref b2 (s.length+1) c2) (hdV h3 p.length),poolO es2,⟨[[.int .i64 wi,.str wk,.str wx,.sl (T.rows wks)]],4,true,true,true,.cell⟩,⟨[[.int .i64 wi,.str ik,.str ix,.sl (T.rows iks)]],4,true,true,true,.cell⟩,⟨t2,8,true,true,false,.cell⟩]:=by
    intro fr es2 b2 c2 t2 hD2 hh
    obtain ⟨fr,rfl⟩:=hh.split
    refine hC2 _ _ ?_
    clear hC2 hh
    conv=>whnf
    obtain ⟨S,hSS⟩:∃ S,S=s++((if wk≠ik then [(⟨4,wi,0,TZ,ik⟩:Stp)] else [])++(if wx≠ix then [(⟨3,wi,0,TZ,ix⟩:Stp)] else [])):=⟨_,rfl⟩
    have hSs:S=(s++[⟨3,wi,0,TZ,ix⟩]):=by rw [hSS,if_neg (by simp [e1]),if_pos e2]; simp
    have hsl':S.length=s.length+((if wk≠ik then [(⟨4,wi,0,TZ,ik⟩:Stp)] else []).length+(if wx≠ix then [(⟨3,wi,0,TZ,ix⟩:Stp)] else []).length):=by rw [hSS]; simp only [List.length_append]
    refine loop_drop (fun n fr st=>∃ (k:Nat) (es:List (List V)) (h1 h2 h3:Option (Nat × Nat)) (cc ss pp:List Stp),n+k=iks.length∧cc=c'++(pairsL (.mk wi wk wx wks) cm (iks.take k)).flatMap (fun p=>cutsOf (locB p) p)∧ss=S++(pairsL (.mk wi wk wx wks) cm (iks.take k)).flatMap wordsOf∧pp=p++sputL (.mk wi wk wx wks) wi cm 0 (iks.take k)∧D3 es h1 h2 h3 cc ss pp ∧
     Holds fr [(0,.ptr 0 0 0),(4,.ptr 2 0 0),(5,.ptr 3 0 0),(6,.sl (irows cm)),(8,.int .i64 k)]∧st=[dbox (hdV h1 cc.length) (hdV h2 ss.length) (hdV h3 pp.length),poolO es,⟨[[.int .i64 wi,.str wk,.str wx,.sl (T.rows wks)]],4,true,true,true,.cell⟩,⟨[[.int .i64 wi,.str ik,.str ix,.sl (T.rows iks)]],4,true,true,true,.cell⟩]) iks.length (some [0,1,2,3]) ?_ ?_
    · conv=>whnf
      exact ⟨0,es2,h1,(some (b2,c2)),h3,c',S,p,rfl,by simp [pairsL],by simp [pairsL],by simp [sputL],by rw [hSs]; exact hD2,⟨rfl,rfl,rfl,rfl,rfl,trivial⟩,by rw [hSs]; rw [List.length_append]; rcases h1 with _ | ⟨_,_⟩ <;> rcases h3 with _ | ⟨_,_⟩ <;> rfl⟩
    clear hD2
    rintro n fr st ⟨k,es,h1,h2,h3,cc,ss,pp,hk,hcc,hss,hpp,hD,hh,rfl⟩
    obtain ⟨fr,rfl⟩:=hh.split
    clear hh
    conv=>whnf
    rw [hlr2]
    by_cases hlt:k < iks.length
    · rw [ltB_t (by omega)]
      conv=>whnf
      have hg:=Go.Cod.rows_get iks k hlt
      have hmem:=List.getElem_mem hlt
      have htk:iks.take (k+1)=iks.take k++[iks[k]]:=by rw [List.take_succ_eq_append_getElem hlt]
      have hpk:pairsL (.mk wi wk wx wks) cm (iks.take (k+1))=pairsL (.mk wi wk wx wks) cm (iks.take k)++(if iks[k].id∈cm then pairsT (kidW (.mk wi wk wx wks) iks[k].id) iks[k] else []):=by
       rw [htk,pairsL_append]; simp only [pairsL,List.append_nil]
      have hsk:sputL (.mk wi wk wx wks) wi cm 0 (iks.take (k+1))=sputL (.mk wi wk wx wks) wi cm 0 (iks.take k)++(if iks[k].id∈cm then sputT (kidW (.mk wi wk wx wks) iks[k].id) iks[k] else [⟨1,wi,k,iks[k],[]⟩]):=by
       rw [htk,sputL_append,List.length_take,Nat.min_eq_left (by omega),Nat.zero_add]; simp only [sputL,List.append_nil]
      have hpf:∀ F:T × T→List Stp,((pairsL (.mk wi wk wx wks) cm (iks.take (k+1))).flatMap F).length≤((pairsL (.mk wi wk wx wks) cm iks).flatMap F).length:=fun F=>by
       conv=>rhs; rw [← List.take_append_drop (k+1) iks,pairsL_append,List.flatMap_append,List.length_append]
       omega
      have hsf:(sputL (.mk wi wk wx wks) wi cm 0 (iks.take (k+1))).length≤(sputL (.mk wi wk wx wks) wi cm 0 iks).length:=by
       conv=>rhs; rw [← List.take_append_drop (k+1) iks,sputL_append,List.length_append]
       omega
      have hwk:V.int .i64 (IntKind.i64.wrap ((k:Int)+1))=.int .i64 ((k+1:Nat):Int):=by rw [wrapJ1 k (by omega)]
      have f1:=hpf fun p=>cutsOf (locB p) p
      have f2:=hpf wordsOf
      clear hpf htk
      have hcp:=l2Copy_pure iks[k] (his _ hmem)
      have hfd:=l2Find_pure (.mk wi wk wx wks) hws iks[k].id
      have hfi:iks[k].id∈cm→fT (.mk wi wk wx wks) iks[k].id=some (kidIn wks iks[k].id):=fun h=>hfind _ (hsub.1.subset h)
      have hrec:=fun h:iks[k].id∈cm=>ih iks[k] hmem (hsub.1.subset h) es h1 h2 h3 cc ss pp hD
      rw [show kidW (.mk wi wk wx wks) iks[k].id=kidIn wks iks[k].id from rfl] at hpk hsk
      have hha:=hhas iks[k].id
      generalize iks[k]=t at *
      clear hmem
      by_cases hm:t.id∈cm
      · replace hfi:=hfi hm
        replace hrec:=hrec hm
        rw [if_pos hm] at hpk hsk
        rw [hfi] at hfd
        rw [hpk,List.flatMap_append] at f1 f2
        rw [hsk] at hsf
        simp only [List.length_append,List.length_map] at f1 f2 hsf bc bs bp
        have hrec:=hrec (by rw [hcc]; simp only [List.length_append,hcl'] ; unfold cutsL; omega) (by rw [hss]; simp only [List.length_append,hsl']; unfold setsL; omega) (by rw [hpp]; simp only [List.length_append]; omega)
        rw [decide_eq_true hm] at hha
        unfold NodeR at hrec
        have q1:cc++cutsL (kidIn wks t.id) t=c'++(pairsL (.mk wi wk wx wks) cm (iks.take (k+1))).flatMap (fun p=>cutsOf (locB p) p):=by rw [hpk,List.flatMap_append,hcc,List.append_assoc]; rfl
        have q2:ss++setsL (kidIn wks t.id) t=S++(pairsL (.mk wi wk wx wks) cm (iks.take (k+1))).flatMap wordsOf:=by rw [hpk,List.flatMap_append,hss,List.append_assoc]; rfl
        have q3:pp++sputT (kidIn wks t.id) t=p++sputL (.mk wi wk wx wks) wi cm 0 (iks.take (k+1)):=by rw [hsk,hpp,List.append_assoc]
        clear hpk hsk f1 f2 hsf hcc hss hpp hfi
        generalize kidIn wks t.id=z at *
        obtain ⟨ti,tk,tx,tks⟩:=t
        obtain ⟨zi,zk,zx,zks⟩:=z
        refine ⟨by omega,T.rows iks,_,4,rfl,hg,rfl,rfl,?_⟩
        conv=>whnf
        refine .inl (hha.mono ?_)
        rintro r rfl
        conv=>whnf
        refine draw_go hX ?_
        conv=>whnf
        repeat' (first
         | (refine ⟨by omega,T.rows iks,_,4,rfl,hg,rfl,rfl,?_⟩
            conv=>whnf)
         | (refine ⟨_,.inl hfd,?_⟩
            conv=>whnf)
         | (rintro r rfl
            conv=>whnf)
         | (refine And.intro ?_ ?_
            all_goals (conv=>whnf))
         | fail)
        all_goals (try rfl)
        refine draw_with hX [(0,.ptr 0 0 0),(4,.ptr 2 0 0),(5,.ptr 3 0 0),(6,.sl (irows cm)),(8,.int .i64 k),(9,.ptr 4 0 0)] ⟨rfl,rfl,rfl,rfl,rfl,rfl,trivial⟩ fun C hC fr=>?_
        have hJ:∀ fr es' g1 g2 g3,D3 es' g1 g2 g3 (cc++cutsL (.mk zi zk zx zks) (.mk ti tk tx tks)) (ss++setsL (.mk zi zk zx zks) (.mk ti tk tx tks)) (pp++sputT (.mk zi zk zx zks) (.mk ti tk tx tks))→Holds fr [(0,.ptr 0 0 0),(4,.ptr 2 0 0),(5,.ptr 3 0 0),(6,.sl (irows cm)),(8,.int .i64 k)] →
         C fr [dbox (hdV g1 (cc++cutsL (.mk zi zk zx zks) (.mk ti tk tx tks)).length) (hdV g2 (ss++setsL (.mk zi zk zx zks) (.mk ti tk tx tks)).length) (hdV g3 (pp++sputT (.mk zi zk zx zks) (.mk ti tk tx tks)).length),poolO es',⟨[[.int .i64 wi,.str wk,.str wx,.sl (T.rows wks)]],4,true,true,true,.cell⟩,⟨[[.int .i64 wi,.str ik,.str ix,.sl (T.rows iks)]],4,true,true,true,.cell⟩,⟨[[.int .i64 zi,.str zk,.str zx,.sl (T.rows zks)]],4,true,true,true,.cell⟩]:=by
         intro fr es' g1 g2 g3 hD' hh
         obtain ⟨fr,rfl⟩:=hh.split
         refine hC _ _ ?_
         clear hC hh
         rcases g1 with _ | ⟨_,_⟩ <;> rcases g2 with _ | ⟨_,_⟩ <;> rcases g3 with _ | ⟨_,_⟩
         all_goals
          conv=>whnf
          refine ⟨n - 1,by omega,some [0,1,2,3],?_⟩
          conv=>whnf
          exact ⟨k+1,es',_,_,_,_,_,_,by omega,q1,q2,q3,hD',⟨rfl,rfl,rfl,rfl,hwk,trivial⟩,rfl⟩
        clear hC hD
        rcases h1 with _ | ⟨a1,a2⟩ <;> rcases h2 with _ | ⟨a3,a4⟩ <;> rcases h3 with _ | ⟨a5,a6⟩
        all_goals
         conv=>whnf
         refine ⟨by omega,T.rows iks,_,4,rfl,hg,rfl,rfl,?_⟩
         conv=>whnf
         refine ⟨[0,1],true,?_⟩
         conv=>whnf
         refine hrec.mono ?_
         rintro o st' ⟨rfl,es',g1,g2,g3,hD',rfl⟩
         have hz:=fun fr=>hJ fr es' g1 g2 g3 hD'
         rcases g1 with _ | ⟨_,_⟩ <;> rcases g2 with _ | ⟨_,_⟩ <;> rcases g3 with _ | ⟨_,_⟩
         all_goals
          conv=>whnf
          exact hz _ ⟨rfl,rfl,rfl,rfl,rfl,trivial⟩
      · rw [if_neg hm] at hpk hsk
        rw [List.append_nil] at hpk
        have hlb:pp.length≤1000000:=by
         rw [hsk] at hsf
         rw [hpp]
         simp only [List.length_append] at hsf bp ⊢
         omega
        rw [decide_eq_false hm] at hha
        have q3:pp++[⟨1,wi,k,t,[]⟩]=p++sputL (.mk wi wk wx wks) wi cm 0 (iks.take (k+1)):=by rw [hsk,hpp,List.append_assoc]
        rw [← hpk] at hcc hss
        clear hpk hsk hpp f1 f2 hsf hrec hfi hfd
        obtain ⟨ti,tk,tx,tks⟩:=t
        refine ⟨by omega,T.rows iks,_,4,rfl,hg,rfl,rfl,?_⟩
        conv=>whnf
        refine .inl (hha.mono ?_)
        rintro r rfl
        conv=>whnf
        refine draw_with hX [(0,.ptr 0 0 0),(4,.ptr 2 0 0),(5,.ptr 3 0 0),(6,.sl (irows cm)),(8,.int .i64 k)] ⟨rfl,rfl,rfl,rfl,rfl,trivial⟩ fun C hC fr=>?_
        have hJ:∀ fr es' b c0 tmp,D3 es' h1 h2 (some (b,c0)) cc ss (pp++[⟨1,wi,k,.mk ti tk tx tks,[]⟩])→Holds fr [(0,.ptr 0 0 0),(4,.ptr 2 0 0),(5,.ptr 3 0 0),(6,.sl (irows cm)),(8,.int .i64 k)] →
         C fr [dbox (hdV h1 cc.length) (hdV h2 ss.length) (.dref b (pp.length+1) c0),poolO es',⟨[[.int .i64 wi,.str wk,.str wx,.sl (T.rows wks)]],4,true,true,true,.cell⟩,⟨[[.int .i64 wi,.str ik,.str ix,.sl (T.rows iks)]],4,true,true,true,.cell⟩,⟨tmp,8,true,true,false,.cell⟩]:=by
         intro fr es' b c0 tmp hD' hh
         obtain ⟨fr,rfl⟩:=hh.split
         refine hC _ _ ?_
         clear hC hh
         conv=>whnf
         refine ⟨n - 1,by omega,some [0,1,2,3],?_⟩
         conv=>whnf
         refine ⟨k+1,es',h1,h2,some (b,c0),cc,ss,pp++[⟨1,wi,k,.mk ti tk tx tks,[]⟩],by omega,hcc,hss,q3,hD',⟨rfl,rfl,rfl,rfl,hwk,trivial⟩,?_⟩
         rw [List.length_append]
         rcases h1 with _ | ⟨_,_⟩ <;> rcases h2 with _ | ⟨_,_⟩ <;> rfl
        clear hC
        rcases h3 with _ | ⟨b0,cc0⟩
        all_goals
         conv=>whnf
         repeat' (first
          | (refine ⟨by omega,T.rows iks,_,4,rfl,hg,rfl,rfl,?_⟩
             conv=>whnf)
          | (refine ⟨_,.inl hcp,?_⟩
             conv=>whnf)
          | (rintro r rfl
             conv=>whnf)
          | (refine semStep3 (k:=1) (q:=⟨1,wi,k,.mk ti tk tx tks,[]⟩) rfl rfl rfl rfl rfl rfl rfl rfl rfl hD (.inl rfl) hlb ?_
             intro es' b c0 hD'
             conv=>whnf
             exact hJ _ es' b c0 _ hD' ⟨rfl,rfl,rfl,rfl,rfl,trivial⟩)
          | fail)
    · rw [ltB_f (by omega)]
      rw [List.take_of_length_le (by omega)] at hcc hss hpp
      have E1:c++(((wks.filter fun k=>!decide (k.id∈cm)).map fun k=>cutStp k.id)++(pairsL (.mk wi wk wx wks) cm iks).flatMap fun p=>cutsOf (locB p) p)=cc:=by rw [← List.append_assoc,← hc',← hcc]
      have E2:s++(((if wk≠ik then [(⟨4,wi,0,TZ,ik⟩:Stp)] else [])++(if wx≠ix then [(⟨3,wi,0,TZ,ix⟩:Stp)] else []))++(pairsL (.mk wi wk wx wks) cm iks).flatMap wordsOf)=ss:=by rw [← List.append_assoc,← hSS,← hss]
      rcases h1 with _ | ⟨a1,a2⟩ <;> rcases h2 with _ | ⟨a3,a4⟩ <;> rcases h3 with _ | ⟨a5,a6⟩
      all_goals
       conv=>whnf
       refine ⟨[],true,?_⟩
       conv=>whnf
       rw [E1,E2,← hpp]
       exact ⟨rfl,es,_,_,_,hD,rfl⟩
   clear hC2
   rcases h2 with _ | ⟨b0,c0⟩
   all_goals
    conv=>whnf
    refine semStep2 (k:=1) (s:=s) (q:=⟨3,wi,0,TZ,ix⟩) rfl rfl rfl rfl rfl rfl rfl rfl rfl hD (.inl rfl) (by omega) fun es2 b2 c2 hD2=>?_
    conv=>whnf
    exact hJ2 _ es2 b2 c2 _ hD2 ⟨rfl,rfl,rfl,rfl,trivial⟩
end Go.Cod
namespace Go.Cod
open Go Go.Proofs
set_option linter.all false
set_option maxRecDepth 10000
set_option maxHeartbeats 8000000 in
theorem node_ff (wi:Int) (wk wx:List UInt8) (wks:List T) (ik ix:List UInt8) (iks:List T) (lw:wks.length≤1048576) (li:iks.length≤1048576) (h4:wk.length≤1048576) (hws:(T.mk wi wk wx wks).Small) (his:∀ t∈iks,t.Small) (hwn:(T.mk wi wk wx wks).ids.Nodup)
 (ih:∀ k∈iks,k.id∈wks.map T.id→∀ es h1 h2 h3 c s p,D3 es h1 h2 h3 c s p→c.length+(cutsL (kidIn wks k.id) k).length≤1000000→s.length+(setsL (kidIn wks k.id) k).length≤1000000→p.length+(sputT (kidIn wks k.id) k).length≤1000000 →
   Full Try.prog noY 36 [.ptr 0 0 0,.agg (kidIn wks k.id).cells,.agg k.cells] [dbox (hdV h1 c.length) (hdV h2 s.length) (hdV h3 p.length),poolO es] (NodeR (kidIn wks k.id) k c s p))
 (e1:wk≠ik) (e2:wx≠ix) (es:List (List V)) (h1 h2 h3:Option (Nat × Nat)) (c s p:List Stp) (hD:D3 es h1 h2 h3 c s p) (bc:c.length+(cutsL (.mk wi wk wx wks) (.mk wi ik ix iks)).length≤1000000) (bs:s.length+(setsL (.mk wi wk wx wks) (.mk wi ik ix iks)).length≤1000000) (bp:p.length+(sputT (.mk wi wk wx wks) (.mk wi ik ix iks)).length≤1000000) :
 Full Try.prog noY 36 [.ptr 0 0 0,.agg (T.mk wi wk wx wks).cells,.agg (T.mk wi ik ix iks).cells] [dbox (hdV h1 c.length) (hdV h2 s.length) (hdV h3 p.length),poolO es] (NodeR (.mk wi wk wx wks) (.mk wi ik ix iks) c s p):=by
 have n1:=l5Numbers_pure (.mk wi wk wx wks) lw
 have n2:=l5Numbers_pure (.mk wi ik ix iks) li
 rw [show (T.mk wi wk wx wks).kidIds=wks.map T.id from rfl] at n1
 rw [show (T.mk wi ik ix iks).kidIds=iks.map T.id from rfl] at n2
 have n3:=l5Both_pure (wks.map T.id) (iks.map T.id) (by rw [List.length_map]; omega) (by rw [List.length_map]; omega)
 have hsub:=lcs_sub _ (wks.map T.id) (iks.map T.id) (Nat.le_refl _)
 have hcut:cutsL (.mk wi wk wx wks) (.mk wi ik ix iks)=((wks.filter fun k=>!decide (k.id∈lcs (wks.map T.id) (iks.map T.id))).map fun k=>cutStp k.id)++(pairsL (.mk wi wk wx wks) (lcs (wks.map T.id) (iks.map T.id)) iks).flatMap fun p=>cutsOf (locB p) p:=by
  unfold cutsL; rw [pairsT,List.flatMap_cons]; rfl
 have hset:setsL (.mk wi wk wx wks) (.mk wi ik ix iks)=((if wk≠ik then [⟨4,wi,0,TZ,ik⟩] else [])++(if wx≠ix then [⟨3,wi,0,TZ,ix⟩] else []))++(pairsL (.mk wi wk wx wks) (lcs (wks.map T.id) (iks.map T.id)) iks).flatMap wordsOf:=by
  unfold setsL; rw [pairsT,List.flatMap_cons]; rfl
 have hput:sputT (.mk wi wk wx wks) (.mk wi ik ix iks)=sputL (.mk wi wk wx wks) wi (lcs (wks.map T.id) (iks.map T.id)) 0 iks:=by rw [sputT]; rfl
 have hfind:∀ x,x∈wks.map T.id→fT (.mk wi wk wx wks) x=some (kidIn wks x):=fun x hx=>by
  obtain ⟨k1,k2⟩:=kidIn_mem hx
  have:=fT_kid2 hwn (k:=kidIn wks x) k1
  rwa [k2] at this
 unfold NodeR
 rw [hcut] at bc ⊢
 rw [hset] at bs ⊢
 rw [hput] at bp ⊢
 clear hcut hset hput
 have hcl:(lcs (wks.map T.id) (iks.map T.id)).length≤1048576:=by have:=hsub.1.length_le; rw [List.length_map] at this; omega
 have hhas:=fun x=>l2Has_pure (lcs (wks.map T.id) (iks.map T.id)) x (by omega)
 generalize lcs (wks.map T.id) (iks.map T.id)=cm at *
 have hlr:=Go.Cod.rows_len wks
 have hlr2:=Go.Cod.rows_len iks
 refine full_of_draw good Try.func36 rfl (by kernel_rfl) (by decide) fun X hX=>?_
 conv=>whnf
 refine draw_go hX ?_
 conv=>whnf
 repeat' (first
  | (refine ⟨_,.inl n1,?_⟩
     conv=>whnf)
  | (refine ⟨_,.inl n2,?_⟩
     conv=>whnf)
  | (refine ⟨_,.inl n3,?_⟩
     conv=>whnf)
  | (rintro r rfl
     conv=>whnf)
  | (refine And.intro ?_ ?_))
 clear n1 n2 n3
 refine loop_drop (fun n fr st=>∃ (k:Nat) (es:List (List V)) (h1:Option (Nat × Nat)) (c':List Stp),n+k=wks.length∧c'=c++(((wks.take k).filter fun k=>!decide (k.id∈cm)).map fun k=>cutStp k.id)∧D3 es h1 h2 h3 c' s p ∧
  Holds fr [(0,.ptr 0 0 0),(4,.ptr 2 0 0),(5,.ptr 3 0 0),(6,.sl (irows cm)),(7,.int .i64 k)] ∧
  st=[dbox (hdV h1 c'.length) (hdV h2 s.length) (hdV h3 p.length),poolO es,⟨[[.int .i64 wi,.str wk,.str wx,.sl (T.rows wks)]],4,true,true,true,.cell⟩,⟨[[.int .i64 wi,.str ik,.str ix,.sl (T.rows iks)]],4,true,true,true,.cell⟩]) wks.length none ?_ ?_
 · exact ⟨0,es,h1,c,rfl,by simp,hD,⟨rfl,rfl,rfl,rfl,rfl,trivial⟩,rfl⟩
 clear hD
 rintro n fr st ⟨k,es,h1,c',hk,hc',hD,hh,rfl⟩
 obtain ⟨fr,rfl⟩:=hh.split
 clear hh
 conv=>whnf
 rw [hlr]
 by_cases hlt:k < wks.length
 · rw [ltB_t (by omega)]
   conv=>whnf
   have hg:=Go.Cod.rows_get wks k hlt
   have htk:((wks.take (k+1)).filter fun k=>!decide (k.id∈cm))=((wks.take k).filter fun k=>!decide (k.id∈cm))++if wks[k].id∈cm then [] else [wks[k]]:=by
    rw [List.take_succ_eq_append_getElem hlt,List.filter_append]
    congr 1
    by_cases h:wks[k].id∈cm <;> simp [h]
   have hwk:V.int .i64 (IntKind.i64.wrap ((k:Int)+1))=.int .i64 ((k+1:Nat):Int):=by rw [wrapJ1 k (by omega)]
   have hlb:c'.length≤1000000:=by
    have h1:((wks.take k).filter fun k=>!decide (k.id∈cm)).length≤(wks.filter fun k=>!decide (k.id∈cm)).length:=by
     conv=>rhs; rw [← List.take_append_drop k wks,List.filter_append,List.length_append]
     omega
    rw [hc']
    simp only [List.length_append,List.length_map] at bc ⊢
    omega
   generalize wks[k]=t at *
   obtain ⟨ti,tk,tx,tks⟩:=t
   have hti:(T.mk ti tk tx tks).id=ti:=rfl
   rw [hti] at htk
   have hha:=hhas ti
   refine ⟨by omega,T.rows wks,_,4,rfl,hg,rfl,rfl,?_⟩
   conv=>whnf
   refine .inl (hha.mono ?_)
   rintro r rfl
   by_cases hm:ti∈cm
   · rw [if_pos hm,List.append_nil] at htk
     rw [decide_eq_true hm]
     conv=>whnf
     refine ⟨n - 1,by omega,none,k+1,es,h1,c',by omega,by rw [htk]; exact hc',hD,⟨rfl,rfl,rfl,rfl,hwk,trivial⟩,rfl⟩
   · rw [if_neg hm] at htk
     rw [decide_eq_false hm]
     conv=>whnf
     refine draw_with hX [(0,.ptr 0 0 0),(4,.ptr 2 0 0),(5,.ptr 3 0 0),(6,.sl (irows cm)),(7,.int .i64 k)] ⟨rfl,rfl,rfl,rfl,rfl,trivial⟩ fun C hC fr=>?_
     have hJ:∀ fr es' b cc tmp,D3 es' (some (b,cc)) h2 h3 (c'++[cutStp ti]) s p→Holds fr [(0,.ptr 0 0 0),(4,.ptr 2 0 0),(5,.ptr 3 0 0),(6,.sl (irows cm)),(7,.int .i64 k)] →
      C fr [dbox (.dref b (c'.length+1) cc) (hdV h2 s.length) (hdV h3 p.length),poolO es',⟨[[.int .i64 wi,.str wk,.str wx,.sl (T.rows wks)]],4,true,true,true,.cell⟩,⟨[[.int .i64 wi,.str ik,.str ix,.sl (T.rows iks)]],4,true,true,true,.cell⟩,⟨tmp,8,true,true,false,.cell⟩]:=by
      intro fr es' b cc tmp hD' hh
      obtain ⟨fr,rfl⟩:=hh.split
      refine hC _ _ ?_
      clear hC hh
      conv=>whnf
      refine ⟨n - 1,by omega,some [0,1,2,3],?_⟩
      conv=>whnf
      refine ⟨k+1,es',some (b,cc),c'++[cutStp ti],by omega,by rw [htk,hc',List.map_append,← List.append_assoc]; rfl,hD',⟨rfl,rfl,rfl,rfl,hwk,trivial⟩,?_⟩
      rw [List.length_append]
      rcases h2 with _ | ⟨_,_⟩ <;> rcases h3 with _ | ⟨_,_⟩ <;> rfl
     clear hC
     rcases h1 with _ | ⟨b0,cc0⟩
     all_goals
      conv=>whnf
      refine ⟨by omega,T.rows wks,_,4,rfl,hg,rfl,rfl,?_⟩
      conv=>whnf
      refine semStep1 (k:=1) (q:=cutStp ti) rfl rfl rfl rfl rfl rfl rfl rfl rfl hD (.inl rfl) hlb fun es' b cc hD'=>?_
      conv=>whnf
      exact hJ _ es' b cc _ hD' ⟨rfl,rfl,rfl,rfl,rfl,trivial⟩
 · rw [ltB_f (by omega)]
   rw [List.take_of_length_le (by omega)] at hc'
   conv=>whnf
   have hsb:s.length+(2)≤1000000:=by
    have hz:=bs
    rw [if_pos e1,if_pos e2] at hz
    simp only [List.length_append,List.length_singleton,List.length_nil] at hz
    omega
   have hcl':c'.length=c.length+(wks.filter fun k=>!decide (k.id∈cm)).length:=by rw [hc',List.length_append,List.length_map]
   rw [eqS_f e1]
   conv=>whnf
   refine draw_with hX [(0,.ptr 0 0 0),(4,.ptr 2 0 0),(5,.ptr 3 0 0),(6,.sl (irows cm))] ⟨rfl,rfl,rfl,rfl,trivial⟩ fun C1 hC1 fr=>?_
   have hJ1:∀ fr es1 b1 c1 t1,D3 es1 h1 (some (b1,c1)) h3 c' (s++[(⟨4,wi,0,TZ,ik⟩:Stp)]) p→Holds fr [(0,.ptr 0 0 0),(4,.ptr 2 0 0),(5,.ptr 3 0 0),(6,.sl (irows cm))] →
    C1 fr [dbox (hdV h1 c'.length) (.dref b1 (s.length+1) c1) (hdV h3 p.length),poolO es1,⟨[[.int .i64 wi,.str wk,.str wx,.sl (T.rows wks)]],4,true,true,true,.cell⟩,⟨[[.int .i64 wi,.str ik,.str ix,.sl (T.rows iks)]],4,true,true,true,.cell⟩,⟨t1,8,true,true,false,.cell⟩]:=by
    intro fr es1 b1 c1 t1 hD1 hh
    obtain ⟨fr,rfl⟩:=hh.split
    refine hC1 _ _ ?_
    clear hC1 hh
    conv=>whnf
    rw [eqS_f e2]
    conv=>whnf
    refine draw_with hX [(0,.ptr 0 0 0),(4,.ptr 2 0 0),(5,.ptr 3 0 0),(6,.sl (irows cm))] ⟨rfl,rfl,rfl,rfl,trivial⟩ fun C2 hC2 fr=>?_
    have hJ2:∀ fr es2 b2 c2 t2,D3 es2 h1 (some (b2,c2)) h3 c' ((s++[(⟨4,wi,0,TZ,ik⟩:Stp)])++[(⟨3,wi,0,TZ,ix⟩:Stp)]) p→Holds fr [(0,.ptr 0 0 0),(4,.ptr 2 0 0),(5,.ptr 3 0 0),(6,.sl (irows cm))] →
     C2 fr [dbox (hdV h1 c'.length) (.dref b2 ((s++[(⟨4,wi,0,TZ,ik⟩:Stp)]).length+1) c2) (hdV h3 p.length),poolO es2,⟨[[.int .i64 wi,.str wk,.str wx,.sl (T.rows wks)]],4,true,true,true,.cell⟩,⟨[[.int .i64 wi,.str ik,.str ix,.sl (T.rows iks)]],4,true,true,true,.cell⟩,⟨t1,8,true,true,false,.cell⟩,⟨t2,8,true,true,false,.cell⟩]:=by
     intro fr es2 b2 c2 t2 hD2 hh
     obtain ⟨fr,rfl⟩:=hh.split
     refine hC2 _ _ ?_
     clear hC2 hh
     conv=>whnf
     obtain ⟨S,hSS⟩:∃ S,S=s++((if wk≠ik then [(⟨4,wi,0,TZ,ik⟩:Stp)] else [])++(if wx≠ix then [(⟨3,wi,0,TZ,ix⟩:Stp)] else [])):=⟨_,rfl⟩
     have hSs:S=((s++[(⟨4,wi,0,TZ,ik⟩:Stp)])++[(⟨3,wi,0,TZ,ix⟩:Stp)]):=by rw [hSS,if_pos e1,if_pos e2]; simp
     have hsl':S.length=s.length+((if wk≠ik then [(⟨4,wi,0,TZ,ik⟩:Stp)] else []).length+(if wx≠ix then [(⟨3,wi,0,TZ,ix⟩:Stp)] else []).length):=by rw [hSS]; simp only [List.length_append]
     refine loop_drop (fun n fr st=>∃ (k:Nat) (es:List (List V)) (h1 h2 h3:Option (Nat × Nat)) (cc ss pp:List Stp),n+k=iks.length∧cc=c'++(pairsL (.mk wi wk wx wks) cm (iks.take k)).flatMap (fun p=>cutsOf (locB p) p)∧ss=S++(pairsL (.mk wi wk wx wks) cm (iks.take k)).flatMap wordsOf∧pp=p++sputL (.mk wi wk wx wks) wi cm 0 (iks.take k)∧D3 es h1 h2 h3 cc ss pp ∧
      Holds fr [(0,.ptr 0 0 0),(4,.ptr 2 0 0),(5,.ptr 3 0 0),(6,.sl (irows cm)),(8,.int .i64 k)]∧st=[dbox (hdV h1 cc.length) (hdV h2 ss.length) (hdV h3 pp.length),poolO es,⟨[[.int .i64 wi,.str wk,.str wx,.sl (T.rows wks)]],4,true,true,true,.cell⟩,⟨[[.int .i64 wi,.str ik,.str ix,.sl (T.rows iks)]],4,true,true,true,.cell⟩]) iks.length (some [0,1,2,3]) ?_ ?_
     · conv=>whnf
       exact ⟨0,es2,h1,(some (b2,c2)),h3,c',S,p,rfl,by simp [pairsL],by simp [pairsL],by simp [sputL],by rw [hSs]; exact hD2,⟨rfl,rfl,rfl,rfl,rfl,trivial⟩,by rw [hSs]; simp only [List.length_append,List.length_singleton]; rcases h1 with _ | ⟨_,_⟩ <;> rcases h3 with _ | ⟨_,_⟩ <;> rfl⟩
     clear hD2
     rintro n fr st ⟨k,es,h1,h2,h3,cc,ss,pp,hk,hcc,hss,hpp,hD,hh,rfl⟩
     obtain ⟨fr,rfl⟩:=hh.split
     clear hh
     conv=>whnf
     rw [hlr2]
     by_cases hlt:k < iks.length
     · rw [ltB_t (by omega)]
       conv=>whnf
       have hg:=Go.Cod.rows_get iks k hlt
       have hmem:=List.getElem_mem hlt
       have htk:iks.take (k+1)=iks.take k++[iks[k]]:=by rw [List.take_succ_eq_append_getElem hlt]
       have hpk:pairsL (.mk wi wk wx wks) cm (iks.take (k+1))=pairsL (.mk wi wk wx wks) cm (iks.take k)++(if iks[k].id∈cm then pairsT (kidW (.mk wi wk wx wks) iks[k].id) iks[k] else []):=by
        rw [htk,pairsL_append]; simp only [pairsL,List.append_nil]
       have hsk:sputL (.mk wi wk wx wks) wi cm 0 (iks.take (k+1))=sputL (.mk wi wk wx wks) wi cm 0 (iks.take k)++(if iks[k].id∈cm then sputT (kidW (.mk wi wk wx wks) iks[k].id) iks[k] else [⟨1,wi,k,iks[k],[]⟩]):=by
        rw [htk,sputL_append,List.length_take,Nat.min_eq_left (by omega),Nat.zero_add]; simp only [sputL,List.append_nil]
       have hpf:∀ F:T × T→List Stp,((pairsL (.mk wi wk wx wks) cm (iks.take (k+1))).flatMap F).length≤((pairsL (.mk wi wk wx wks) cm iks).flatMap F).length:=fun F=>by
        conv=>rhs; rw [← List.take_append_drop (k+1) iks,pairsL_append,List.flatMap_append,List.length_append]
        omega
       have hsf:(sputL (.mk wi wk wx wks) wi cm 0 (iks.take (k+1))).length≤(sputL (.mk wi wk wx wks) wi cm 0 iks).length:=by
        conv=>rhs; rw [← List.take_append_drop (k+1) iks,sputL_append,List.length_append]
        omega
       have hwk:V.int .i64 (IntKind.i64.wrap ((k:Int)+1))=.int .i64 ((k+1:Nat):Int):=by rw [wrapJ1 k (by omega)]
       have f1:=hpf fun p=>cutsOf (locB p) p
       have f2:=hpf wordsOf
       clear hpf htk
       have hcp:=l2Copy_pure iks[k] (his _ hmem)
       have hfd:=l2Find_pure (.mk wi wk wx wks) hws iks[k].id
       have hfi:iks[k].id∈cm→fT (.mk wi wk wx wks) iks[k].id=some (kidIn wks iks[k].id):=fun h=>hfind _ (hsub.1.subset h)
       have hrec:=fun h:iks[k].id∈cm=>ih iks[k] hmem (hsub.1.subset h) es h1 h2 h3 cc ss pp hD
       rw [show kidW (.mk wi wk wx wks) iks[k].id=kidIn wks iks[k].id from rfl] at hpk hsk
       have hha:=hhas iks[k].id
       generalize iks[k]=t at *
       clear hmem
       by_cases hm:t.id∈cm
       · replace hfi:=hfi hm
         replace hrec:=hrec hm
         rw [if_pos hm] at hpk hsk
         rw [hfi] at hfd
         rw [hpk,List.flatMap_append] at f1 f2
         rw [hsk] at hsf
         simp only [List.length_append,List.length_map] at f1 f2 hsf bc bs bp
         have hrec:=hrec (by rw [hcc]; simp only [List.length_append,hcl'] ; unfold cutsL; omega) (by rw [hss]; simp only [List.length_append,hsl']; unfold setsL; omega) (by rw [hpp]; simp only [List.length_append]; omega)
         rw [decide_eq_true hm] at hha
         unfold NodeR at hrec
         have q1:cc++cutsL (kidIn wks t.id) t=c'++(pairsL (.mk wi wk wx wks) cm (iks.take (k+1))).flatMap (fun p=>cutsOf (locB p) p):=by rw [hpk,List.flatMap_append,hcc,List.append_assoc]; rfl
         have q2:ss++setsL (kidIn wks t.id) t=S++(pairsL (.mk wi wk wx wks) cm (iks.take (k+1))).flatMap wordsOf:=by rw [hpk,List.flatMap_append,hss,List.append_assoc]; rfl
         have q3:pp++sputT (kidIn wks t.id) t=p++sputL (.mk wi wk wx wks) wi cm 0 (iks.take (k+1)):=by rw [hsk,hpp,List.append_assoc]
         clear hpk hsk f1 f2 hsf hcc hss hpp hfi
         generalize kidIn wks t.id=z at *
         obtain ⟨ti,tk,tx,tks⟩:=t
         obtain ⟨zi,zk,zx,zks⟩:=z
         refine ⟨by omega,T.rows iks,_,4,rfl,hg,rfl,rfl,?_⟩
         conv=>whnf
         refine .inl (hha.mono ?_)
         rintro r rfl
         conv=>whnf
         refine draw_go hX ?_
         conv=>whnf
         repeat' (first
          | (refine ⟨by omega,T.rows iks,_,4,rfl,hg,rfl,rfl,?_⟩
             conv=>whnf)
          | (refine ⟨_,.inl hfd,?_⟩
             conv=>whnf)
          | (rintro r rfl
             conv=>whnf)
          | (refine And.intro ?_ ?_
             all_goals (conv=>whnf))
          | fail)
         all_goals (try rfl)
         refine draw_with hX [(0,.ptr 0 0 0),(4,.ptr 2 0 0),(5,.ptr 3 0 0),(6,.sl (irows cm)),(8,.int .i64 k),(9,.ptr 4 0 0)] ⟨rfl,rfl,rfl,rfl,rfl,rfl,trivial⟩ fun C hC fr=>?_
         have hJ:∀ fr es' g1 g2 g3,D3 es' g1 g2 g3 (cc++cutsL (.mk zi zk zx zks) (.mk ti tk tx tks)) (ss++setsL (.mk zi zk zx zks) (.mk ti tk tx tks)) (pp++sputT (.mk zi zk zx zks) (.mk ti tk tx tks))→Holds fr [(0,.ptr 0 0 0),(4,.ptr 2 0 0),(5,.ptr 3 0 0),(6,.sl (irows cm)),(8,.int .i64 k)] →
          C fr [dbox (hdV g1 (cc++cutsL (.mk zi zk zx zks) (.mk ti tk tx tks)).length) (hdV g2 (ss++setsL (.mk zi zk zx zks) (.mk ti tk tx tks)).length) (hdV g3 (pp++sputT (.mk zi zk zx zks) (.mk ti tk tx tks)).length),poolO es',⟨[[.int .i64 wi,.str wk,.str wx,.sl (T.rows wks)]],4,true,true,true,.cell⟩,⟨[[.int .i64 wi,.str ik,.str ix,.sl (T.rows iks)]],4,true,true,true,.cell⟩,⟨[[.int .i64 zi,.str zk,.str zx,.sl (T.rows zks)]],4,true,true,true,.cell⟩]:=by
          intro fr es' g1 g2 g3 hD' hh
          obtain ⟨fr,rfl⟩:=hh.split
          refine hC _ _ ?_
          clear hC hh
          rcases g1 with _ | ⟨_,_⟩ <;> rcases g2 with _ | ⟨_,_⟩ <;> rcases g3 with _ | ⟨_,_⟩
          all_goals
           conv=>whnf
           refine ⟨n - 1,by omega,some [0,1,2,3],?_⟩
           conv=>whnf
           exact ⟨k+1,es',_,_,_,_,_,_,by omega,q1,q2,q3,hD',⟨rfl,rfl,rfl,rfl,hwk,trivial⟩,rfl⟩
         clear hC hD
         rcases h1 with _ | ⟨a1,a2⟩ <;> rcases h2 with _ | ⟨a3,a4⟩ <;> rcases h3 with _ | ⟨a5,a6⟩
         all_goals
          conv=>whnf
          refine ⟨by omega,T.rows iks,_,4,rfl,hg,rfl,rfl,?_⟩
          conv=>whnf
          refine ⟨[0,1],true,?_⟩
          conv=>whnf
          refine hrec.mono ?_
          rintro o st' ⟨rfl,es',g1,g2,g3,hD',rfl⟩
          have hz:=fun fr=>hJ fr es' g1 g2 g3 hD'
          rcases g1 with _ | ⟨_,_⟩ <;> rcases g2 with _ | ⟨_,_⟩ <;> rcases g3 with _ | ⟨_,_⟩
          all_goals
           conv=>whnf
           exact hz _ ⟨rfl,rfl,rfl,rfl,rfl,trivial⟩
       · rw [if_neg hm] at hpk hsk
         rw [List.append_nil] at hpk
         have hlb:pp.length≤1000000:=by
          rw [hsk] at hsf
          rw [hpp]
          simp only [List.length_append] at hsf bp ⊢
          omega
         rw [decide_eq_false hm] at hha
         have q3:pp++[⟨1,wi,k,t,[]⟩]=p++sputL (.mk wi wk wx wks) wi cm 0 (iks.take (k+1)):=by rw [hsk,hpp,List.append_assoc]
         rw [← hpk] at hcc hss
         clear hpk hsk hpp f1 f2 hsf hrec hfi hfd
         obtain ⟨ti,tk,tx,tks⟩:=t
         refine ⟨by omega,T.rows iks,_,4,rfl,hg,rfl,rfl,?_⟩
         conv=>whnf
         refine .inl (hha.mono ?_)
         rintro r rfl
         conv=>whnf
         refine draw_with hX [(0,.ptr 0 0 0),(4,.ptr 2 0 0),(5,.ptr 3 0 0),(6,.sl (irows cm)),(8,.int .i64 k)] ⟨rfl,rfl,rfl,rfl,rfl,trivial⟩ fun C hC fr=>?_
         have hJ:∀ fr es' b c0 tmp,D3 es' h1 h2 (some (b,c0)) cc ss (pp++[⟨1,wi,k,.mk ti tk tx tks,[]⟩])→Holds fr [(0,.ptr 0 0 0),(4,.ptr 2 0 0),(5,.ptr 3 0 0),(6,.sl (irows cm)),(8,.int .i64 k)] →
          C fr [dbox (hdV h1 cc.length) (hdV h2 ss.length) (.dref b (pp.length+1) c0),poolO es',⟨[[.int .i64 wi,.str wk,.str wx,.sl (T.rows wks)]],4,true,true,true,.cell⟩,⟨[[.int .i64 wi,.str ik,.str ix,.sl (T.rows iks)]],4,true,true,true,.cell⟩,⟨tmp,8,true,true,false,.cell⟩]:=by
          intro fr es' b c0 tmp hD' hh
          obtain ⟨fr,rfl⟩:=hh.split
          refine hC _ _ ?_
          clear hC hh
          conv=>whnf
          refine ⟨n - 1,by omega,some [0,1,2,3],?_⟩
          conv=>whnf
          refine ⟨k+1,es',h1,h2,some (b,c0),cc,ss,pp++[⟨1,wi,k,.mk ti tk tx tks,[]⟩],by omega,hcc,hss,q3,hD',⟨rfl,rfl,rfl,rfl,hwk,trivial⟩,?_⟩
          rw [List.length_append]
          rcases h1 with _ | ⟨_,_⟩ <;> rcases h2 with _ | ⟨_,_⟩ <;> rfl
         clear hC
         rcases h3 with _ | ⟨b0,cc0⟩
         all_goals
          conv=>whnf
          repeat' (first
           | (refine ⟨by omega,T.rows iks,_,4,rfl,hg,rfl,rfl,?_⟩
              conv=>whnf)
           | (refine ⟨_,.inl hcp,?_⟩
              conv=>whnf)
           | (rintro r rfl
              conv=>whnf)
           | (refine semStep3 (k:=1) (q:=⟨1,wi,k,.mk ti tk tx tks,[]⟩) rfl rfl rfl rfl rfl rfl rfl rfl rfl hD (.inl rfl) hlb ?_
              intro es' b c0 hD'
              conv=>whnf
              exact hJ _ es' b c0 _ hD' ⟨rfl,rfl,rfl,rfl,rfl,trivial⟩)
           | fail)
     · rw [ltB_f (by omega)]
       rw [List.take_of_length_le (by omega)] at hcc hss hpp
       have E1:c++(((wks.filter fun k=>!decide (k.id∈cm)).map fun k=>cutStp k.id)++(pairsL (.mk wi wk wx wks) cm iks).flatMap fun p=>cutsOf (locB p) p)=cc:=by rw [← List.append_assoc,← hc',← hcc]
       have E2:s++(((if wk≠ik then [(⟨4,wi,0,TZ,ik⟩:Stp)] else [])++(if wx≠ix then [(⟨3,wi,0,TZ,ix⟩:Stp)] else []))++(pairsL (.mk wi wk wx wks) cm iks).flatMap wordsOf)=ss:=by rw [← List.append_assoc,← hSS,← hss]
       rcases h1 with _ | ⟨a1,a2⟩ <;> rcases h2 with _ | ⟨a3,a4⟩ <;> rcases h3 with _ | ⟨a5,a6⟩
       all_goals
        conv=>whnf
        refine ⟨[],true,?_⟩
        conv=>whnf
        rw [E1,E2,← hpp]
        exact ⟨rfl,es,_,_,_,hD,rfl⟩
    clear hC2
    conv=>whnf
    refine semStep2 (k:=1) (s:=(s++[(⟨4,wi,0,TZ,ik⟩:Stp)])) (q:=(⟨3,wi,0,TZ,ix⟩:Stp)) rfl rfl rfl rfl rfl rfl rfl (by show [_,_]=[_,_]; rw [List.length_append]; rfl) rfl hD1 (.inl rfl) (by rw [List.length_append,List.length_singleton]; omega) fun es2 b2 c2 hD2=>?_
    conv=>whnf
    exact hJ2 _ es2 b2 c2 _ hD2 ⟨rfl,rfl,rfl,rfl,trivial⟩
   clear hC1
   rcases h2 with _ | ⟨b0,c0⟩
   all_goals
    conv=>whnf
    refine semStep2 (k:=1) (s:=s) (q:=(⟨4,wi,0,TZ,ik⟩:Stp)) rfl rfl rfl rfl rfl rfl rfl rfl rfl hD (.inl rfl) (by omega) fun es1 b1 c1 hD1=>?_
    conv=>whnf
    exact hJ1 _ es1 b1 c1 _ hD1 ⟨rfl,rfl,rfl,rfl,trivial⟩
end Go.Cod
namespace Go.Cod
open Go Go.Proofs
set_option linter.all false
set_option maxRecDepth 10000
theorem node_full:∀ (i w:T),w.id=i.id→w.Small→i.Small→w.ids.Nodup→i.ids.Nodup→∀ es h1 h2 h3 c s p,D3 es h1 h2 h3 c s p→c.length+(cutsL w i).length≤1000000→s.length+(setsL w i).length≤1000000→p.length+(sputT w i).length≤1000000 →
 Full Try.prog noY 36 [.ptr 0 0 0,.agg w.cells,.agg i.cells] [dbox (hdV h1 c.length) (hdV h2 s.length) (hdV h3 p.length),poolO es] (NodeR w i c s p):=by
 intro i
 induction i using T.ind with
 | h id kd tx ks ih =>
   intro w hid hw hi hwn hin es h1 h2 h3 c s p hD bc bs bp
   obtain ⟨wi,wk,wx,wks⟩:=w
   obtain rfl:wi=id:=hid
   have hw':=hw
   cases hw with
   | mk w1 w2 w3 w4 w5 =>
   cases hi with
   | mk i1 i2 i3 i4 i5 =>
   have nk:=(kids_nodup hin).1
   have nw:=(kids_nodup hwn).1
   simp only [T.kids] at nk nw
   have ih':∀ k∈ks,k.id∈wks.map T.id→∀ es h1 h2 h3 c s p,D3 es h1 h2 h3 c s p→c.length+(cutsL (kidIn wks k.id) k).length≤1000000→s.length+(setsL (kidIn wks k.id) k).length≤1000000→p.length+(sputT (kidIn wks k.id) k).length≤1000000 →
    Full Try.prog noY 36 [.ptr 0 0 0,.agg (kidIn wks k.id).cells,.agg k.cells] [dbox (hdV h1 c.length) (hdV h2 s.length) (hdV h3 p.length),poolO es] (NodeR (kidIn wks k.id) k c s p):=fun k hk hx=>by
    obtain ⟨m1,m2⟩:=kidIn_mem hx
    exact ih k hk _ m2 (w5 _ m1) (i5 _ hk) (kid_nodup nw m1) (kid_nodup nk hk)
   by_cases e1:wk=kd <;> by_cases e2:wx=tx
   · exact node_tt wi wk wx wks kd tx ks w4 i4 w2 hw' i5 hwn ih' e1 e2 es h1 h2 h3 c s p hD bc bs bp
   · exact node_tf wi wk wx wks kd tx ks w4 i4 w2 hw' i5 hwn ih' e1 e2 es h1 h2 h3 c s p hD bc bs bp
   · exact node_ft wi wk wx wks kd tx ks w4 i4 w2 hw' i5 hwn ih' e1 e2 es h1 h2 h3 c s p hD bc bs bp
   · exact node_ff wi wk wx wks kd tx ks w4 i4 w2 hw' i5 hwn ih' e1 e2 es h1 h2 h3 c s p hD bc bs bp
mutual
theorem sput_len:∀ w i:T,(sputT w i).length+1≤i.size
 | w,.mk id kind text kids=>by
   have:=sputL_len w id (lcs w.kidIds (kids.map T.id)) 0 kids
   simp only [sputT,T.size]
   omega
theorem sputL_len:∀ (w:T) (x:Int) (c:List Int) (n:Nat) (ks:List T),(sputL w x c n ks).length≤T.sizeL ks
 | _,_,_,_,[]=>by simp [sputL]
 | w,x,c,n,k::ks=>by
   have h1:=sput_len (kidW w k.id) k
   have h2:=sputL_len w x c (n+1) ks
   simp only [sputL,List.length_append,T.sizeL]
   split
   · omega
   · simp only [List.length_singleton]; omega
end
theorem sets_len (w i:T):(setsL w i).length≤2*i.size:=by
 unfold setsL
 have h1:=fm_len (f:=wordsOf) (l:=pairsT w i) (m:=2) fun p _=>words_len p
 have h2:=pairs_len w i
 omega
end Go.Cod
namespace Go.Cod
open Go Go.Proofs
set_option linter.all false
set_option maxRecDepth 10000
theorem puts_not (kept:Int→Bool):∀ t:T,∀ s∈putsT kept t,s.kind=1∧kept s.node.id=false:=by
 intro t
 induction t using T.ind with
 | h id kd tx ks ih =>
   rw [putsT]
   have key:∀ (ls:List T) (n:Nat),(∀ k∈ls,k∈ks)→∀ s∈putsL kept id n ls,s.kind=1∧kept s.node.id=false:=by
    intro ls
    induction ls with
    | nil=>intro n _ s hs; simp [putsL] at hs
    | cons k ls ihl =>
      intro n hk s hs
      rw [putsL,List.mem_append] at hs
      rcases hs with hs | hs
      · cases hkp:kept k.id with
        | true=>rw [hkp,if_pos rfl] at hs; exact ih k (hk k List.mem_cons_self) s hs
        | false =>
          rw [hkp,if_neg (by simp),List.mem_singleton] at hs
          subst hs; exact ⟨rfl,hkp⟩
      · exact ihl (n+1) (fun k h=>hk k (List.mem_cons_of_mem _ h)) s hs
   exact key ks 0 fun _ h=>h
theorem kids_sum:∀ (ks:List T) (c:List Int),(ks.map T.id).Nodup→c.Sublist (ks.map T.id)→(ks.filter fun k=>!decide (k.id∈c)).length+(c.map fun x=>(kidIn ks x).size).sum≤T.sizeL ks:=by
 intro ks
 induction ks with
 | nil =>
   intro c _ h
   rw [List.map_nil,List.sublist_nil] at h
   subst h; simp [T.sizeL]
 | cons k ks ih =>
   intro c hn h
   rw [List.map_cons] at h hn
   obtain ⟨n1,n2⟩:=List.nodup_cons.1 hn
   have hp:=size_pos k
   cases h with
   | cons _ h =>
     have hk:k.id∉c:=fun z=>n1 (h.subset z)
     have h1:=ih c n2 h
     have h2:c.map (fun x=>(kidIn (k::ks) x).size)=c.map fun x=>(kidIn ks x).size:=List.map_congr_left fun x hx=>by rw [kidIn_ne fun e=>hk (e ▸ hx)]
     rw [h2,List.filter_cons,decide_eq_false hk]
     simp only [Bool.not_false,if_true,List.length_cons,T.sizeL]
     omega
   | cons_cons _ h =>
     rename_i c
     have h1:=ih c n2 h
     have h2:c.map (fun x=>(kidIn (k::ks) x).size)=c.map fun x=>(kidIn ks x).size:=List.map_congr_left fun x hx=>by rw [kidIn_ne fun e=>n1 (e ▸ h.subset hx)]
     have h3:(ks.filter fun s=>!decide (s.id∈k.id::c))=ks.filter fun s=>!decide (s.id∈c):=List.filter_congr fun s hs=>by
      have hne:s.id≠k.id:=fun e=>n1 (e ▸ List.mem_map_of_mem hs)
      simp [hne]
     rw [List.map_cons,List.sum_cons,kidIn_eq,h2,List.filter_cons,decide_eq_true List.mem_cons_self]
     simp only [Bool.not_true,Bool.false_eq_true,if_false,T.sizeL]
     rw [h3]
     omega
theorem fm_sum {α:Type} {F:Int→List α} {g:Int→Nat}:∀ {c:List Int},(∀ x∈c,(F x).length≤g x)→(c.flatMap F).length≤(c.map g).sum
 | [],_=>by simp
 | x::c,h=>by
   rw [List.flatMap_cons,List.length_append,List.map_cons,List.sum_cons]
   have h1:=h x List.mem_cons_self
   have h2:=fm_sum (c:=c) fun y hy=>h y (List.mem_cons_of_mem _ hy)
   omega
theorem cutsL_len:∀ i w:T,w.ids.Nodup→i.ids.Nodup→(cutsL w i).length+1≤w.size:=by
 intro i
 induction i using T.ind with
 | h id kd tx ks ih =>
   intro w hwn hin
   obtain ⟨wi,wk,wx,wks⟩:=w
   have nk:=(kids_nodup hin).1
   have nw:=(kids_nodup hwn).1
   simp only [T.kids] at nk nw
   have hsub:=lcs_sub _ (wks.map T.id) (ks.map T.id) (Nat.le_refl _)
   have h1:=kids_sum wks (lcs (wks.map T.id) (ks.map T.id)) (ids_nodup nw) hsub.1
   have h2:cutsL (.mk wi wk wx wks) (.mk id kd tx ks)=((wks.filter fun k=>!decide (k.id∈lcs (wks.map T.id) (ks.map T.id))).map fun k=>cutStp k.id)++(lcs (wks.map T.id) (ks.map T.id)).flatMap fun x=>cutsL (kidIn wks x) (kidIn ks x):=by
    unfold cutsL
    rw [pairsT,List.flatMap_cons,show (T.mk wi wk wx wks).kidIds=wks.map T.id from rfl,pairsL_common _ _ _ (ids_nodup nk) hsub.2,List.flatMap_assoc]
    rfl
   have h3:=fm_sum (F:=fun x=>cutsL (kidIn wks x) (kidIn ks x)) (g:=fun x=>(kidIn wks x).size) (c:=lcs (wks.map T.id) (ks.map T.id)) fun x hx=>by
    obtain ⟨m1,m2⟩:=kidIn_mem (hsub.1.subset hx)
    obtain ⟨r1,r2⟩:=kidIn_mem (hsub.2.subset hx)
    have:=ih _ r1 _ (kid_nodup nw m1) (kid_nodup nk r1)
    omega
   rw [h2,List.length_append,List.length_map]
   simp only [T.size]
   omega
theorem diff_few {a b:T} (ha:a.ids.Nodup) (hb:b.ids.Nodup) (hab:a.id=b.id) (za:a.size≤20) (zb:b.size≤20):(diffT a b).length≤80:=by
 rw [← spec_diff ha hb hab]
 have h1:=cutsL_len b a ha hb
 have h2:=sets_len a b
 have h3:=sput_len a b
 unfold specT
 unfold cutsL at h1
 unfold setsL at h2
 simp only [List.length_append]
 omega
end Go.Cod
namespace Go.Cod
open Go Go.Proofs
set_option linter.all false
set_option maxRecDepth 10000
theorem pair_kept {a b w i:T} (hp:(w,i)∈pairsT a b):i.id∈keptOf (pairsT a b):=List.mem_map.2 ⟨_,hp,rfl⟩
end Go.Cod
namespace Go.Cod
open Go Go.Proofs
set_option linter.all false
set_option maxRecDepth 10000
theorem SlIn.src {es:List (List V)} {g:Option (Nat × Nat)} {M:List Stp} {st:St} {k:Nat} (h:SlIn es g M) (hpe:poolEs st k=es):PSrc st (hdV g M.length) (nrows M):=by
 rcases g with _ | ⟨b,c⟩
 · have hM:M=[]:=h
   subst hM
   exact .inl rfl
 · have hm:ent b c 8 (nrows M)∈poolEs st k:=by rw [hpe]; exact h
   exact .inr ⟨b,8,0,M.length,c,k,c,nrows M,.inr ⟨rfl,rfl⟩,hm,by rw [nrows_len]; omega,by rw [List.drop_zero,List.take_of_length_le (by rw [nrows_len]; omega)]⟩
theorem semAll {o:Oper} {sl x:Operand} {t u e:TypeId} {ti:TI} (ho:o.op=.call { callee:=.builtin .append,args:=#[sl,x],argTypes:=#[t,u] }) (hk:kindOf (tauOf tauL) t=some (.slice e)) (hti:tauOf tauL e=some ti) (hu:notInt (kindOf (tauOf tauL) u)=true)
 (hz:ti.zero.cells.length=ti.size) (hsz:ti.size=8) (hby:ti.bytes=104) {vs:List V} {k:Nat} {h g:Option (Nat × Nat)} {L M:List Stp} {es:List (List V)} {st:St} {K:V→St→Prop} (hvs:vs=[hdV h L.length,hdV g M.length]) (hpe:st[k]? = some (poolO es)) (hin:SlIn es h L) (hg:SlIn es g M)
 (hl:L.length+M.length≤1000000) (h0:h=none→M=[]→K .nils st)
 (hr:∀ b c,h=some (b,c)→K (.dref b (L.length+M.length) c) (st.set k (poolO (putEnt b (nrows (L++M)) es))))
 (hn:∀ b c,(∀ e∈es,labOf e≠b)→K (.dref b (L.length+M.length) c) (st.set k (poolO (es++[ent b c 8 (nrows (L++M))])))):SemOp Try.prog o vs st K:=by
 have hpe':poolEs st k=es:=by simp only [poolEs,hpe]; rfl
 have hw:∀ m∈nrows M,m.length=ti.size:=by rw [hsz]; exact nrows_wid _
 have hsrc:=hg.src hpe'
 rcases h with _ | ⟨b,c⟩
 · have hL:L=[]:=hin
   subst hL
   by_cases hM:M=[]
   · subst hM
     exact semAppendNil0 good ho hk hti hu hvs hsrc (h0 rfl rfl)
   · have hpos:0 < M.length:=List.length_pos_iff.2 hM
     refine semAppendNil (m:=M.length) good ho hk hti hu hz (by omega) hvs hpe hsrc hw (nrows_len M) hpos (by rw [hby]; simp only [List.length_nil] at hl; omega) fun b c _ hf=>?_
     rw [hsz]
     have:=hn b c hf
     rw [List.length_nil,Nat.zero_add,List.nil_append] at this
     exact this
 · have hm:ent b c ti.size (nrows L)∈es:=by rw [hsz]; exact hin
   refine semAppendE (m:=M.length) (rows:=nrows L) (es1:=putEnt b (nrows (L++M)) es) good ho hk hti hu hz (by omega) hvs hpe' hm hsrc hw (nrows_len M) (by rw [nrows_len]; omega) (by rw [hby]; omega) (by rw [laid_nrows]) (fun _=>hr b c rfl) fun _ b' c' _ hf=>?_
   rw [List.take_of_length_le (by rw [nrows_len]; omega),← nrows_append,hsz]
   exact hn b' c' hf
end Go.Cod
namespace Go.Cod
open Go Go.Proofs
set_option maxRecDepth 10000
def T.Even (t:T):Prop:=∀ (x:Int) (s:T) (n:Nat),fT t x=some s→n≤s.kids.length→t.PutOk x n
def EvenL (ts:List T):Prop:=∀ (x:Int) (s:T) (n:Nat),fL ts x=some s→n≤s.kids.length→T.PutOkL x n ts
theorem even_nodup {t:T} (hn:t.ids.Nodup):t.Even:=fun x s n h1 h2=>putOk_found x n t s hn h1 h2
theorem evenL_nodup {ts:List T} (hn:(T.idsL ts).Nodup):EvenL ts:=fun x s n h1 h2=>putOkL_found x n ts s hn h1 h2
theorem even_mk {id:Int} {kind text:List UInt8} {kids:List T} (h:∀ (x:Int) (s:T) (n:Nat),x≠id→fL kids x=some s→n≤s.kids.length→T.PutOkL x n kids):(T.mk id kind text kids).Even:=by
 intro x s n h1 h2
 simp only [fT] at h1
 simp only [T.PutOk]
 by_cases e:id=x
 · rw [if_pos e] at h1 ⊢
   cases h1
   exact h2
 · rw [if_neg e] at h1 ⊢
   exact h x s n (Ne.symm e) h1 h2
theorem fL_append (a b:List T) (x:Int):fL (a++b) x=match fL a x with
 | some s=>some s
 | none=>fL b x:=by
 induction a with
 | nil=>rfl
 | cons t a ih =>
   simp only [List.cons_append,fL,ih]
   cases fT t x <;> rfl
theorem putOkL_append {x:Int} {n:Nat} {a b:List T} (ha:T.PutOkL x n a) (hb:T.PutOkL x n b):T.PutOkL x n (a++b):=by
 induction a with
 | nil=>exact hb
 | cons t a ih=>exact ⟨ha.1,ih ha.2⟩
def Spec (i:Int):Prop:=i < 2∨20≤i
theorem wide_ids:∀ i:Nat,∀ x∈T.idsL (wideN i),600≤x
 | 0,x,h=>by simp [wideN,T.idsL] at h
 | i+1,x,h=>by
   rw [wideN,idsL_snoc] at h
   rcases List.mem_append.1 h with h | h
   · exact wide_ids i x h
   · simp [T.ids,T.idsL] at h; omega
theorem deep_ids (t:T):∀ i:Nat,∀ x∈(deepN t i).ids,x∈t.ids∨500≤x
 | 0,x,h=>.inl h
 | i+1,x,h=>by
   simp only [deepN,T.ids,T.idsL,List.mem_cons,List.append_nil] at h
   rcases h with h | h
   · right; omega
   · exact deep_ids t i x h
theorem spoil_ids {t t':T} (h:SpoilOf t t'):∀ x∈t'.ids,x∈t.ids∨Spec x:=by
 induction h with
 | @kid id kind text kids i hi t' hs ih =>
   intro x hx
   simp only [T.ids,List.mem_cons] at hx ⊢
   rcases hx with hx | hx
   · exact .inl (.inl hx)
   · have:∀ (ks:List T) (j:Nat) (hj:j < ks.length),(∀ y∈t'.ids,y∈ks[j].ids∨Spec y)→∀ y∈T.idsL (ks.set j t'),y∈T.idsL ks∨Spec y:=by
      intro ks
      induction ks with
      | nil=>intro j hj; simp at hj
      | cons k ks ihk =>
        intro j hj hh y hy
        cases j with
        | zero =>
          simp only [List.set_cons_zero,T.idsL,List.mem_append] at hy ⊢
          rcases hy with hy | hy
          · exact (hh y hy).imp .inl _root_.id
          · exact .inl (.inr hy)
        | succ j =>
          simp only [List.set_cons_succ,T.idsL,List.mem_append] at hy ⊢
          rcases hy with hy | hy
          · exact .inl (.inl hy)
          · exact (ihk j (by simpa using hj) hh y hy).imp .inr _root_.id
     exact (this kids i hi ih x hx).imp .inr _root_.id
 | id z hz =>
   intro x hx
   simp only [T.ids,List.mem_cons] at hx ⊢
   rcases hx with rfl | hx
   · right; unfold Spec; omega
   · exact .inl (.inr hx)
 | word k' x'=>exact fun x hx=>.inl hx
 | @twice id kind text kids =>
   intro x hx
   simp only [T.ids,idsL_snoc,List.mem_cons,List.mem_append] at hx ⊢
   rcases hx with hx | hx | hx | hx
   · exact .inl (.inl hx)
   · exact .inl (.inr hx)
   · exact .inl (.inl hx)
   · exact .inl (.inr hx)
 | @deep t =>
   intro x hx
   rcases deep_ids t 6 x hx with h | h
   · exact .inl h
   · right; unfold Spec; omega
 | @wide id kind text kids =>
   intro x hx
   simp only [T.ids,T.idsL_append,List.mem_cons,List.mem_append] at hx ⊢
   rcases hx with hx | hx | hx
   · exact .inl (.inl hx)
   · exact .inl (.inr hx)
   · have:=wide_ids 20 x hx
     right; unfold Spec; omega
theorem wide_put (x:Int):∀ (i:Nat) (n:Nat),n≤0→T.PutOkL x n (wideN i)
 | 0,_,_=>trivial
 | i+1,n,h=>by
   rw [wideN]
   refine putOkL_append (wide_put x i n h) ⟨?_,trivial⟩
   simp only [T.PutOk]
   split
   · omega
   · trivial
theorem wide_kids:∀ (i:Nat) (x:Int) (s:T),fL (wideN i) x=some s→s.kids=[]
 | 0,x,s,h=>by simp [wideN,fL] at h
 | i+1,x,s,h=>by
   rw [wideN,fL_append] at h
   cases h1:fL (wideN i) x with
   | some s' =>
     rw [h1] at h
     cases h
     exact wide_kids i x s h1
   | none =>
     rw [h1] at h
     simp only [fL,fT] at h
     split at h
     · rename_i s' h2
       split at h2
       · cases h2; cases h; rfl
       · cases h2
     · cases h
theorem deep_even (t:T) (ht:t.Even) (hl:∀ x∈t.ids,x < 500):∀ i:Nat,(deepN t i).Even
 | 0=>ht
 | i+1=>by
   refine even_mk fun x s n hne h1 h2=>?_
   simp only [fL] at h1
   have:fT (deepN t i) x=some s:=by
    cases h3:fT (deepN t i) x with
    | some s'=>rw [h3] at h1; exact h1
    | none=>rw [h3] at h1; cases h1
   exact ⟨deep_even t ht hl i x s n this h2,trivial⟩
theorem idsL_get:∀ (l:List T) (i:Nat) (hi:i < l.length),(T.idsL l).Nodup→l[i].ids.Nodup∧∀ y∈l[i].ids,y∈T.idsL l
 | [],i,hi,_=>by simp at hi
 | t::l,0,_,hn=>by
   simp only [T.idsL,List.nodup_append] at hn
   exact ⟨hn.1,fun y hy=>by simp only [T.idsL,List.mem_append]; exact .inl hy⟩
 | t::l,i+1,hi,hn=>by
   simp only [T.idsL,List.nodup_append] at hn
   have:=idsL_get l i (by simpa using hi) hn.2.1
   exact ⟨this.1,fun y hy=>by simp only [T.idsL,List.mem_append]; exact .inr (this.2 y hy)⟩
theorem kids_ids {t:T} {x:Int} (h:x∈T.idsL t.kids):x∈t.ids:=by
 cases t
 simp only [T.ids,List.mem_cons]
 exact .inr h
theorem id_ids (t:T):t.id∈t.ids:=by
 cases t
 simp only [T.ids,List.mem_cons]
 exact .inl rfl
theorem spoil_even {t t':T} (h:SpoilOf t t'):t.ids.Nodup→(∀ x∈T.idsL t.kids,2≤x∧x < 20)→t.id < 500→t'.Even:=by
 induction h with
 | @kid id kind text kids i hi t' hs ih =>
   intro hn hr2 _
   have hids:=spoil_ids hs
   simp only [T.ids,List.nodup_cons] at hn
   have hg:=idsL_get kids i hi hn.2
   have hr3:∀ x∈T.idsL kids,2≤x∧x < 20:=hr2
   have he:=ih hg.1 (fun x h=>hr3 x (hg.2 x (kids_ids h))) (by have:=hr3 _ (hg.2 _ (id_ids kids[i])); omega)
   refine even_mk fun x s n hne=>?_
   have key:∀ (ks:List T) (j:Nat) (hj:j < ks.length),(T.idsL ks).Nodup→(∀ y∈t'.ids,y∈ks[j].ids∨Spec y)→t'.Even→(∀ y∈T.idsL ks,y=x→¬ Spec x∨x∉t'.ids∨y∈ks[j].ids) →
    fL (ks.set j t') x=some s→n≤s.kids.length→T.PutOkL x n (ks.set j t'):=by
    intro ks
    induction ks with
    | nil=>intro j hj; simp at hj
    | cons k ks ihk =>
      intro j hj hkn hh he hs1 h1 h2
      simp only [T.idsL,List.nodup_append] at hkn
      cases j with
      | zero =>
        simp only [List.set_cons_zero,fL] at h1 ⊢
        simp only [List.getElem_cons_zero] at hh hs1
        cases h3:fT t' x with
        | some s' =>
          rw [h3] at h1
          cases h1
          have hx:x∈t'.ids:=Decidable.byContradiction fun hc=>by rw [(fT_none t' x).2 hc] at h3; cases h3
          refine ⟨he x s n h3 h2,putOkL_none x n ks fun hks=>?_⟩
          rcases hh x hx with h | h
          · exact hkn.2.2 x h x hks rfl
          · rcases hs1 x (by simp [T.idsL,hks]) rfl with h4 | h4 | h4
            · exact h4 h
            · exact h4 hx
            · exact hkn.2.2 x h4 x hks rfl
        | none =>
          rw [h3] at h1
          exact ⟨putOk_none x n t' ((fT_none t' x).1 h3),evenL_nodup hkn.2.1 x s n h1 h2⟩
      | succ j =>
        simp only [List.set_cons_succ,fL] at h1 ⊢
        simp only [List.getElem_cons_succ] at hh hs1
        have hj':j < ks.length:=by simpa using hj
        have hkj:∀ y∈ks[j].ids,y∈T.idsL ks:=by
         intro y hy
         have:∀ (l:List T) (i:Nat) (hi:i < l.length),y∈l[i].ids→y∈T.idsL l:=by
          intro l
          induction l with
          | nil=>intro i hi; simp at hi
          | cons a l ihl =>
            intro i hi h
            simp only [T.idsL,List.mem_append]
            cases i with
            | zero=>exact .inl h
            | succ i=>exact .inr (ihl i (by simpa using hi) h)
         exact this ks j hj' hy
        cases h3:fT k x with
        | some s' =>
          rw [h3] at h1
          cases h1
          have hx:x∈k.ids:=Decidable.byContradiction fun hc=>by rw [(fT_none k x).2 hc] at h3; cases h3
          refine ⟨putOk_found x n k s hkn.1 h3 h2,putOkL_none x n _ fun hks=>?_⟩
          have hxk:x∉T.idsL ks:=fun h=>hkn.2.2 x hx x h rfl
          have hmem:x∈t'.ids∨x∈T.idsL ks:=by
           have:∀ (l:List T) (i:Nat),x∈T.idsL (l.set i t')→x∈t'.ids∨x∈T.idsL l:=by
            intro l
            induction l with
            | nil=>intro i h; simp [T.idsL] at h
            | cons a l ihl =>
              intro i h
              cases i with
              | zero =>
                simp only [List.set_cons_zero,T.idsL,List.mem_append] at h ⊢
                exact h.imp _root_.id .inr
              | succ i =>
                simp only [List.set_cons_succ,T.idsL,List.mem_append] at h ⊢
                rcases h with h | h
                · exact .inr (.inl h)
                · exact (ihl i h).imp _root_.id .inr
           exact this ks j hks
          rcases hmem with h | h
          · rcases hs1 x (by simp [T.idsL,hx]) rfl with h4 | h4 | h4
            · rcases hh x h with h5 | h5
              · exact hxk (hkj x h5)
              · exact h4 h5
            · exact h4 h
            · exact hxk (hkj x h4)
          · exact hxk h
        | none =>
          rw [h3] at h1
          exact ⟨putOk_none x n k ((fT_none k x).1 h3),ihk j hj' hkn.2.1 hh he (fun y hy=>hs1 y (by simp [T.idsL,hy])) h1 h2⟩
   exact fun h1 h2=>key kids i hi hn.2 hids he (fun y hy e=>.inl (by subst e; unfold Spec; have:=hr3 y hy; omega)) h1 h2
 | @id id kind text kids z hz =>
   intro hn _ _
   simp only [T.ids,List.nodup_cons] at hn
   exact even_mk fun x s n _ h1 h2=>evenL_nodup hn.2 x s n h1 h2
 | @word id kind text kids k' x' =>
   intro hn _ _
   simp only [T.ids,List.nodup_cons] at hn
   exact even_mk fun x s n _ h1 h2=>evenL_nodup hn.2 x s n h1 h2
 | @twice id kind text kids =>
   intro hn _ _
   simp only [T.ids,List.nodup_cons] at hn
   refine even_mk fun x s n hne h1 h2=>?_
   rw [fL_append] at h1
   cases h3:fL kids x with
   | some s' =>
     rw [h3] at h1
     cases h1
     have:=evenL_nodup hn.2 x s n h3 h2
     refine putOkL_append this ⟨?_,trivial⟩
     simp only [T.PutOk]
     rw [if_neg (Ne.symm hne)]
     exact this
   | none =>
     rw [h3] at h1
     have hx:=(fL_none kids x).1 h3
     simp only [fL,fT,if_neg (Ne.symm hne),h3] at h1
     cases h1
 | @deep t =>
   intro hn hr h5
   refine deep_even t (even_nodup hn) (fun x h=>?_) 6
   cases t with
   | mk id kind text kids =>
   simp only [T.ids,List.mem_cons] at h
   rcases h with rfl | h
   · exact h5
   · have:=hr x h; omega
 | @wide id kind text kids =>
   intro hn hr _
   simp only [T.ids,List.nodup_cons] at hn
   refine even_mk fun x s n hne h1 h2=>?_
   rw [fL_append] at h1
   cases h3:fL kids x with
   | some s' =>
     rw [h3] at h1
     cases h1
     have hx:x∈T.idsL kids:=Decidable.byContradiction fun hc=>by rw [(fL_none kids x).2 hc] at h3; cases h3
     refine putOkL_append (evenL_nodup hn.2 x s n h3 h2) (putOkL_none x n _ fun h=>?_)
     have:=wide_ids 20 x h
     have:=hr x hx
     omega
   | none =>
     rw [h3] at h1
     have h4:=wide_kids 20 x s h1
     rw [h4] at h2
     exact putOkL_append (putOkL_none x n kids ((fL_none kids x).1 h3)) (wide_put x 20 n h2)
theorem drawn_even {t:T} (h:Drawn t):t.Even:=by
 obtain ⟨t0,h1,h2,h3,_,rfl | h4⟩:=h
 · exact even_nodup h1
 · refine spoil_even h4 h1 (fun x hx=>?_) (by omega)
   have h5:=h2 x (kids_ids hx)
   have:x≠1:=fun e=>by
    cases t0 with
    | mk id kind text kids =>
    simp only [T.ids,List.nodup_cons] at h1
    have h3:id=1:=h3
    exact h1.1 (by rw [h3,← e]; exact hx)
   omega
theorem nodup_len:∀ (n:Nat) (l:List Int) (lo:Int),l.Nodup→(∀ i∈l,lo≤i∧i < lo+n)→l.length≤n
 | 0,l,lo,_,h=>by
   cases l with
   | nil=>simp
   | cons a l=>have:=h a (List.mem_cons_self ..); omega
 | n+1,l,lo,hn,h=>by
   have:=nodup_len n (l.erase (lo+n)) lo (hn.erase _) fun i hi=>by
    obtain ⟨h1,h2⟩:=hn.mem_erase_iff.1 hi
    have:=h i h2
    omega
   rw [List.length_erase] at this
   split at this <;> omega
theorem drawn_size {t:T} (h:Drawn t):t.size≤60:=by
 obtain ⟨t0,h1,h2,h3,h4,_⟩:=h
 have:=nodup_len 19 t0.ids 1 h1 fun i hi=>by have:=h2 i hi; omega
 rw [T.ids_size] at this
 omega
end Go.Cod
namespace Go.Cod
open Go Go.Proofs
set_option maxRecDepth 10000
set_option maxHeartbeats 4000000 in
theorem l4Do_even (t:T) (s:Stp) (ht:t.Small) (hz:t.size≤10000) (hn:t.Even) (hs:s.node.Small) (hsz:s.node.size≤1048577) (htx:s.text.length≤1048576) :
 Pure Try.prog 58 [.agg t.cells,.agg s.cells] (·=doR t (doT t s)):=by
 have f1:=l2Find_pure t ht s.id
 have f2:=l4Bare_pure s
 have f3:=specTreeOk_pure s.node hs (by rw [T.ids_size]; exact hsz)
 have f4:∀ x:T,fT t s.id=some x→s.at_.toNat≤x.kids.length→Pure Try.prog 83 [.agg t.cells,.int .i64 s.id,.int .i64 s.at_.toNat,.agg s.node.cells] (·=.agg (t.mapAt s.id (putKidT s.at_.toNat s.node)).cells):=fun x h1 h2=>l4Put_pure t ht s.id s.at_.toNat s.node (hn s.id x s.at_.toNat h1 h2)
 have f5:=l4Cut_pure t ht s.id
 have f6:=l4Set_pure t ht s.id
 have f7:∀ y:T,y.Small→y.size≤1048577→Pure Try.prog 11 [.agg y.cells] (·=.bool (okT y)):=fun y h1 h2=>specTreeOk_pure y h1 (by rw [T.ids_size]; exact h2)
 have z1:∀ x,okT s.node=true→(t.mapAt s.id (putKidT x s.node)).Small∧(t.mapAt s.id (putKidT x s.node)).size≤1048577:=fun x h=>by
  have hk:=okT_size h
  refine ⟨T.mapAt_small _ _ 1000000 (fun y h1 _ h2=>putKidT_small x s.node y h1 hs h2) t ht (by omega),?_⟩
  have:=T.mapAt_size s.id (putKidT x s.node) 20 (fun y=>by rw [putKidT_size]; omega) t
  omega
 have z2:=T.cut_small s.id t ht
 have z3:∀ k w:List UInt8,k.length≤1048576→w.length≤1048576→(t.mapAt s.id (setT k w)).Small∧(t.mapAt s.id (setT k w)).size≤1048577:=fun k w h1 h2=>by
  refine ⟨T.mapAt_small _ _ 1000000 (fun y h _ _=>setT_small k w y h h1 h2) t ht (by omega),?_⟩
  have:=T.mapAt_size s.id (setT k w) 0 (fun y=>by rw [setT_size]; omega) t
  omega
 have hsm:=fun x=>fT_small t s.id ht x
 have hed:editT t s=match fT t s.id with
  | none=>none
  | some x=>if bareT s=false then none else
    if s.kind=1 then (if 0≤s.at_∧s.at_≤x.kids.length∧okT s.node=true then some (t.mapAt s.id (putKidT s.at_.toNat s.node)) else none)
    else if s.kind=2 then (if s.id=t.id then none else some (t.cut s.id))
    else if s.kind=3 then some (t.mapAt s.id (setT x.kind s.text))
    else if s.kind=4 then some (t.mapAt s.id (setT s.text x.text))
    else none:=rfl
 have d0:editT t s=none→doT t s=none:=doT_none
 have d1:∀ y,editT t s=some y→doT t s=okO y:=fun y=>doT_some
 generalize doT t s=d at *
 generalize editT t s=e at *
 generalize fT t s.id=f at *
 generalize bareT s=b at *
 cases s with
 | mk kind sid at_ node text =>
 simp only at f1 f3 f4 f5 f6 z1 z2 z3 hed hs hsz htx hsm
 generalize T.cut sid t=tc at *
 generalize hset:(fun k w=>T.mapAt sid (setT k w) t)=ts at *
 have hset:∀ k w,T.mapAt sid (setT k w) t=ts k w:=fun k w=>by rw [← hset]
 simp only [hset] at f6 z3 hed
 generalize hput:T.mapAt sid (putKidT at_.toNat node) t=tp at *
 have zp:okT node=true→tp.Small∧tp.size≤1048577:=fun h=>hput ▸ z1 at_.toNat h
 clear hset hput z1
 generalize okT node=okn at *
 have hend:∀ y:T,e=some y→y.Small→y.size≤1048577→Pure Try.prog 11 [.agg y.cells] (·=.bool (okT y))∧d=okO y:=fun y h1 h2 h3=>⟨f7 y h2 h3,d1 y h1⟩
 clear f7 d1
 have hok:∀ y:T,e=some y→d=okO y→doR t d=if okT y=true then .tup [.agg y.cells,.bool true] else .tup [.agg t.cells,.bool false]:=fun y _ h=>by
  rw [h]; unfold okO
  split <;> rfl
 simp only [Stp.cells] at f2 ⊢
 have hbig:∀ y:T,y.Small→y.size≤1048577→e=some y→d=okO y∧Pure Try.prog 11 [.agg y.cells] (·=.bool (okT y)):=fun y h1 h2 h3=>⟨(hend y h3 h1 h2).2,(hend y h3 h1 h2).1⟩
 clear hend
 cases t with
 | mk tid tk tx tks =>
 cases node with
 | mk nid nk nx nks =>
 refine pure_of_awp good Try.func58 rfl (by kernel_rfl) (by decide) ?_
 conv=>whnf
 refine .inl (f1.mono ?_)
 rintro r rfl
 cases f with
 | none =>
   conv=>whnf
   rw [d0 hed]
   rfl
 | some x =>
   cases x with
   | mk xid xk xx xks =>
   conv=>whnf
   refine .inl (f2.mono ?_)
   rintro r rfl
   cases b with
   | false =>
     conv=>whnf
     rw [d0 hed]
     rfl
   | true =>
     simp only [Bool.true_eq_false,if_false] at hed
     conv=>whnf
     by_cases k1:kind=1
     · rw [if_pos k1] at hed
       rw [eqB_t k1]
       conv=>whnf
       refine .inl ((l1In_pure _ _ _).mono ?_)
       rintro r rfl
       by_cases hr:0≤at_∧at_≤(xks.length:Int)
       · rw [show (decide ((0:Int)≤at_∧at_≤((T.rows xks).length:Int)))=true by rw [Go.Cod.rows_len]; simpa using hr]
         conv=>whnf
         refine .inl (f3.mono ?_)
         rintro r rfl
         cases okn with
         | false =>
           conv=>whnf
           rw [d0 (by rw [hed,if_neg (by simp)])]
           rfl
         | true =>
           obtain ⟨n,rfl⟩:∃ n:Nat,at_=n:=⟨at_.toNat,by omega⟩
           have hed:e=some tp:=by rw [hed]; exact if_pos ⟨hr.1,hr.2,rfl⟩
           have f4:=f4 _ rfl (by simp only [T.kids]; omega)
           obtain ⟨q1,q2⟩:=zp rfl
           obtain ⟨q3,q4⟩:=hbig tp q1 q2 hed
           have hok:=hok tp hed q3
           generalize okT tp=okp at *
           cases tp with
           | mk pid pk px pks =>
           conv=>whnf
           refine .inl (f4.mono ?_)
           rintro r rfl
           conv=>whnf
           refine .inl (q4.mono ?_)
           rintro r rfl
           rw [hok]
           cases okp <;> (conv=>whnf) <;> rfl
       · rw [show (decide ((0:Int)≤at_∧at_≤((T.rows xks).length:Int)))=false by rw [Go.Cod.rows_len]; simpa using hr]
         conv=>whnf
         rw [d0 (by rw [hed]; exact if_neg (fun h=>hr ⟨h.1,h.2.1⟩))]
         rfl
     rw [if_neg k1] at hed
     rw [eqB_f k1]
     conv=>whnf
     by_cases k2:kind=2
     · rw [if_pos k2] at hed
       rw [eqB_t k2]
       conv=>whnf
       by_cases hi:sid=tid
       · rw [eqB_t hi]
         conv=>whnf
         rw [d0 (by rw [hed]; exact if_pos hi)]
         rfl
       · rw [eqB_f hi]
         have hed:e=some tc:=by rw [hed]; exact if_neg hi
         obtain ⟨q3,q4⟩:=hbig tc z2.1 (by have:=z2.2; simp only [T.size] at this hz ⊢; omega) hed
         have hok:=hok tc hed q3
         generalize okT tc=okp at *
         cases tc with
         | mk pid pk px pks =>
         conv=>whnf
         refine .inl (f5.mono ?_)
         rintro r rfl
         conv=>whnf
         refine .inl (q4.mono ?_)
         rintro r rfl
         rw [hok]
         cases okp <;> (conv=>whnf) <;> rfl
     rw [if_neg k2] at hed
     rw [eqB_f k2]
     conv=>whnf
     have hx:=hsm _ rfl
     have hxk:xk.length≤1048576∧xx.length≤1048576:=by
      cases hx with
      | mk g1 g2 g3 g4 g5=>exact ⟨g2,g3⟩
     by_cases k3:kind=3
     · rw [if_pos k3] at hed
       rw [eqB_t k3]
       have f6:=f6 xk text
       obtain ⟨q1,q2⟩:=z3 xk text hxk.1 htx
       have hed:e=some (ts xk text):=hed
       obtain ⟨q3,q4⟩:=hbig _ q1 q2 hed
       have hok:=hok _ hed q3
       generalize ts xk text=tp at *
       generalize okT tp=okp at *
       cases tp with
       | mk pid pk px pks =>
       conv=>whnf
       refine .inl (f6.mono ?_)
       rintro r rfl
       conv=>whnf
       refine .inl (q4.mono ?_)
       rintro r rfl
       rw [hok]
       cases okp <;> (conv=>whnf) <;> rfl
     rw [if_neg k3] at hed
     rw [eqB_f k3]
     conv=>whnf
     by_cases k4:kind=4
     · rw [if_pos k4] at hed
       rw [eqB_t k4]
       have f6:=f6 text xx
       obtain ⟨q1,q2⟩:=z3 text xx htx hxk.2
       have hed:e=some (ts text xx):=hed
       obtain ⟨q3,q4⟩:=hbig _ q1 q2 hed
       have hok:=hok _ hed q3
       generalize ts text xx=tp at *
       generalize okT tp=okp at *
       cases tp with
       | mk pid pk px pks =>
       conv=>whnf
       refine .inl (f6.mono ?_)
       rintro r rfl
       conv=>whnf
       refine .inl (q4.mono ?_)
       rintro r rfl
       rw [hok]
       cases okp <;> (conv=>whnf) <;> rfl
     rw [if_neg k4] at hed
     rw [eqB_f k4]
     conv=>whnf
     rw [d0 hed]
     rfl
end Go.Cod
namespace Go.Cod
open Go Go.Proofs Go.ChangeShapes Go.WideShapes Go.ChangeAt Go.RowKit
set_option maxRecDepth 10000
theorem prows_snoc (ls:List Stp) (s:Stp):prows (ls++[s])=prows ls++[s.cells]:=by simp [prows]
def lsV (ls:List Stp) (m:Nat):V:=match ls with
 | []=>.nils
 | _::_=>.own m
def lsO (ls:List Stp):List O:=match ls with
 | []=>[]
 | _::_=>[⟨prows ls,8,true,true,false,.cell⟩]
theorem lsO_snoc (s0:Stp) (ls:List Stp) (s:Stp):lsO ((s0::ls)++[s])=[⟨prows (s0::ls)++[s.cells],8,true,true,false,.cell⟩]:=by
 rw [← prows_snoc]; rfl
def T.Tried (x:T):Prop:=x.Small∧x.size≤60∧x.Even
theorem tried_do {x y:T} {s:Stp} (h:x.Tried) (hs:s.Dr) (hd:doT x s=some y):y.Tried:=by
 obtain ⟨h1,h2⟩:=doT_ok hd
 have:=okT_size h2
 exact ⟨editT_small h.1 (by have:=h.2.1; omega) hs.1 (by have:=hs.2.2; omega) h1,by omega,even_nodup ((okT_iff' y).1 h2).2.1⟩
end Go.Cod
namespace Go.Cod
open Go Go.Proofs
set_option linter.all false
set_option maxRecDepth 10000
set_option maxHeartbeats 8000000 in
theorem l11Edits_own (bs:List UInt8) (hb:bs.length≤2000) (t:T) (ht:t.Tried) (p:Int) (p0:0≤p) (p1:p≤2000000) (m:Nat) (hm:m≤10) :
 Full Try.prog noY 29 [.ptr 0 0 0,.agg t.cells,.int .i64 m,.int .i64 100,.bool false] [rdO bs p] fun o st'=>∃ (x:T) (p':Int),x.Tried∧p≤p'∧p'≤p+10000∧o=.ret (.agg [.int .i64 x.id,.str x.kind,.str x.text,kidsV x.kids 1])∧st'=rdO bs p'::kidsO x.kids:=by
 have ht':=ht
 obtain ⟨ti,tk,tx,tks⟩:=t
 refine full_of_awp good Try.func29 rfl (by kernel_rfl) (by decide) ?_
 conv=>whnf
 refine loop_drop (fun n fr st=>∃ (i:Nat) (x:T) (p' k':Int),n+i=m∧x.Tried∧(p≤p'∧p'+1000*n≤p+1000*m)∧(0≤k'∧k'+1000*n≤100+1000*m) ∧
  Holds fr [(0,.ptr 0 0 0),(2,.int .i64 m),(4,.bool false),(6,.ptr 1 0 0),(10,.ptr 2 0 0),(11,.ptr 3 0 0),(12,.int .i64 i)] ∧
  st=[rdO bs p',bxO x.cells 4,bxO zrow 4,nxO k']) m none
  (by
    conv=>whnf
    exact ⟨0,.mk ti tk tx tks,p,100,by omega,ht',by omega,by omega,⟨rfl,rfl,rfl,rfl,rfl,rfl,rfl,trivial⟩,rfl⟩) ?_
 rintro n fr st ⟨i,x,p',k',b1,b2,b3,b4,hh,rfl⟩
 obtain ⟨fr,rfl⟩:=hh.split
 clear hh
 have f4:=l2Copy_own x b2.1
 by_cases hlt:i < m
 · have hed:=l11Edit_full bs hb p' k' (by omega) (by omega) (by omega) (by omega) x b2.1 (by have:=b2.2.1; omega)
   have hdo:=fun s (h:s.Dr)=>l4Do_even x s b2.1 (by have:=b2.2.1; omega) b2.2.2 h.1 (by have:=h.2.1; omega) (by have:=h.2.2; omega)
   have htd:=fun s y (h:s.Dr) (hd:doT x s=some y)=>tried_do b2 h hd
   have hw:V.int .i64 (IntKind.i64.wrap ((i:Int)+1))=.int .i64 ((i+1:Nat):Int):=by rw [wrap64 (by omega) (by omega)]; simp
   obtain ⟨xi,xk,xx,xks⟩:=x
   conv=>whnf
   rw [ltB_t (by omega)]
   conv=>whnf
   repeat' (first
    | (refine ⟨[0,3],false,?_⟩
       conv=>whnf
       refine hed.mono ?_
       rintro o st' ⟨⟨ek,ei,ea,⟨ni,nk,nx,nks⟩,ex⟩,p2,k2,d1,d2,d3,d4,d5,rfl,rfl⟩
       have hdo:=hdo _ d1
       have htd:=fun y=>htd _ y d1
       generalize hdoo:doT (T.mk xi xk xx xks) _=dd at hdo htd
       rcases dd with _ | ⟨yi,yk,yx,yks⟩
       case' none=>have hdo:Pure Try.prog 58 _ (·=.tup [.agg (T.mk xi xk xx xks).cells,.bool false]):=hdo
       case' some =>
        have hdo:Pure Try.prog 58 _ (·=.tup [.agg (T.mk yi yk yx yks).cells,.bool true]):=hdo
        have htd:=htd _ rfl
       all_goals conv=>whnf)
    | (refine ⟨_,.inl hdo,?_⟩
       conv=>whnf)
    | (refine .inl (hdo.mono ?_)
       rintro r rfl
       conv=>whnf)
    | (refine ⟨n - 1,by omega,some [0,1,2,3],?_⟩
       conv=>whnf
       first
        | exact ⟨i+1,.mk yi yk yx yks,p2,k2,by omega,htd,by omega,by omega,⟨rfl,rfl,rfl,rfl,rfl,rfl,hw,trivial⟩,rfl⟩
        | exact ⟨i+1,.mk xi xk xx xks,p2,k2,by omega,b2,by omega,by omega,⟨rfl,rfl,rfl,rfl,rfl,rfl,hw,trivial⟩,rfl⟩)
    | (refine And.intro ?_ ?_ <;> (conv=>whnf)))
   all_goals rfl
 · obtain ⟨xi,xk,xx,xks⟩:=x
   conv=>whnf
   rw [ltB_f (by omega)]
   conv=>whnf
   refine .inr (.inl ⟨[],false,?_⟩)
   conv=>whnf
   refine f4.mono ?_
   rintro o st' ⟨rfl,rfl⟩
   cases xks with
   | nil =>
     conv=>whnf
     refine ⟨[],true,?_⟩
     conv=>whnf
     exact ⟨.mk xi xk xx [],p',b2,by omega,by omega,rfl,rfl⟩
   | cons x0 xs =>
     conv=>whnf
     refine ⟨[4],false,?_⟩
     conv=>whnf
     exact ⟨.mk xi xk xx (x0::xs),p',b2,by omega,by omega,rfl,rfl⟩
end Go.Cod
namespace Go.Cod
open Go Go.Proofs
set_option linter.all false
set_option maxRecDepth 10000
theorem swap_small {id:Int} {k x:List UInt8} {a b:T} {ks:List T} (h:(T.mk id k x (a::b::ks)).Small):(T.mk id k x (b::a::ks)).Small:=by
 cases h with
 | mk g1 g2 g3 g4 g5 =>
   refine .mk g1 g2 g3 (by simpa using g4) fun t ht=>g5 t ?_
   simp at ht ⊢
   rcases ht with h | h | h <;> simp [h]
theorem swap_size {id:Int} {k x:List UInt8} {a b:T} {ks:List T}:(T.mk id k x (b::a::ks)).size=(T.mk id k x (a::b::ks)).size:=by
 simp [T.size,T.sizeL]; omega
def DrawDS (r:V):Prop:=∃ a b:T,a.Small∧a.size≤10000∧b.Small∧b.size≤10000∧r=.tup [.agg a.cells,.agg b.cells]
set_option maxHeartbeats 8000000 in
theorem drawDiffSteps_pure (bs:List UInt8) (hb:bs.length≤1048576):Pure Try.prog 7 [.sl (brows bs)] DrawDS:=by
 have ho:=l1Open_full bs hb
 refine pure_of_draw good Try.func7 rfl (by kernel_rfl) (by decide) fun X hX=>?_
 conv=>whnf
 refine .inr (.inl ⟨[],false,?_⟩)
 conv=>whnf
 refine ho.mono ?_
 rintro o st' ⟨rfl,bs',hb',rfl⟩
 conv=>whnf
 refine ⟨[2],false,?_⟩
 conv=>whnf
 refine (l11AnyTree_full bs' hb' 0 (by omega) (by omega)).mono ?_
 rintro o st' ⟨t,p,s1,⟨s2,s5,s6,s7⟩,s3,s4,rfl,rfl⟩
 have hdr:Drawn t:=⟨t,s5,s6,s7,by omega,.inl rfl⟩
 have htr:t.Tried:=⟨s1,drawn_size hdr,drawn_even hdr⟩
 have hts:=drawn_size hdr
 have hpk:=pick_full bs' p 7 hb' (by omega) (by omega)
 have hed:=fun (c:Nat) (h:c≤10)=>l11Edits_own bs' hb' t htr (p+1) (by omega) (by omega) c h
 have hp0:0≤p∧p≤2000000:=by omega
 clear hdr htr s2 s3 s4 s5 s6 s7
 rcases t with ⟨ti,tk,tx,tks⟩
 conv=>whnf
 refine draw_with hX [(2,.ptr 0 0 0),(3,.ptr 1 0 0),(4,.ptr 2 0 0),(5,.ptr 3 0 0)] ⟨rfl,rfl,rfl,rfl,trivial⟩ fun C hC fr=>?_
 have key:∀ fr st,(∃ (x:T) (p2:Int),x.Tried∧0≤p2∧p2≤3000000 ∧
  ((x.kids=[]∧Holds fr [(2,.ptr 0 0 0),(3,.ptr 1 0 0),(4,.ptr 2 0 0),(5,.ptr 3 0 0),(6,.ptr 4 0 0)]∧st=[⟨[zrow],4,true,true,true,.cell⟩,⟨[zrow],4,true,true,true,.cell⟩,rdO bs' p2,⟨[[.int .i64 ti,.str tk,.str tx,.sl (T.rows tks)]],4,true,true,true,.cell⟩,⟨[[.int .i64 x.id,.str x.kind,.str x.text,.nils]],4,true,true,true,.cell⟩]) ∨
   (x.kids≠[]∧Holds fr [(2,.ptr 0 0 0),(3,.ptr 1 0 0),(4,.ptr 2 0 0),(5,.ptr 3 0 0),(6,.ptr 4 0 0)]∧st=[⟨[zrow],4,true,true,true,.cell⟩,⟨[zrow],4,true,true,true,.cell⟩,rdO bs' p2,⟨[[.int .i64 ti,.str tk,.str tx,.sl (T.rows tks)]],4,true,true,true,.cell⟩,⟨[[.int .i64 x.id,.str x.kind,.str x.text,.own 5]],4,true,true,true,.cell⟩,⟨T.rows x.kids,4,true,true,false,.cell⟩]) ∨
   (x.kids≠[]∧Holds fr [(2,.ptr 0 0 0),(3,.ptr 1 0 0),(4,.ptr 2 0 0),(5,.ptr 3 0 0),(6,.ptr 5 0 0)]∧st=[⟨[zrow],4,true,true,true,.cell⟩,⟨[zrow],4,true,true,true,.cell⟩,rdO bs' p2,⟨[[.int .i64 ti,.str tk,.str tx,.sl (T.rows tks)]],4,true,true,true,.cell⟩,⟨T.rows x.kids,4,true,true,false,.cell⟩,⟨[[.int .i64 x.id,.str x.kind,.str x.text,.own 4]],4,true,true,true,.cell⟩])))→C fr st:=by
  rintro fr st ⟨⟨xi,xk,xx,xks⟩,p2,⟨hx1,hx2,_⟩,q0,q1,hJ⟩
  have hpk2:=pick_full bs' p2 6 hb' (by omega) (by omega)
  have hany:=l11AnyTree_full bs' hb' (p2+1) (by omega) (by omega)
  have hsp:=spoil_full bs' hb' (.mk xi xk xx xks) hx1 (p2+1) (by omega) (by omega) (by omega)
  simp only [T.kids,T.id,T.kind,T.text] at hJ
  rcases hJ with ⟨hk,hh,rfl⟩ | ⟨hk,hh,rfl⟩ | ⟨hk,hh,rfl⟩
  · obtain ⟨fr,rfl⟩:=hh.split
    clear hh
    refine hC _ _ ?_
    clear hC
    obtain rfl:xks=[]:=hk
    conv=>whnf
    refine ⟨[2],false,?_⟩
    conv=>whnf
    refine hpk2.mono ?_
    rintro o st' ⟨e,e0,e1,rfl,rfl⟩
    conv=>whnf
    by_cases hd0:e=0
    · rw [eqB_t hd0]
      conv=>whnf
      refine ⟨[2],false,?_⟩
      conv=>whnf
      refine hany.mono ?_
      rintro o st' ⟨t2,p3,z1,⟨z2,z5,z6,z7⟩,z3,z4,rfl,rfl⟩
      have hds:t2.size≤60:=drawn_size ⟨t2,z5,z6,z7,by omega,.inl rfl⟩
      clear z2 z3 z4 z5 z6 z7
      rcases t2 with ⟨ui,uk,ux,uks⟩
      conv=>whnf
      refine draw_go hX ?_
      conv=>whnf
      repeat' (first
       | (refine And.intro (by (conv=>whnf); rfl) ?_
          conv=>whnf)
       | (refine And.intro ?_ ?_ <;> (conv=>whnf)))
      all_goals exact ⟨.mk ti tk tx tks,.mk ui uk ux uks,s1,by omega,z1,by omega,rfl⟩
    rw [eqB_f hd0]
    conv=>whnf
    by_cases hd1:e=1
    · rw [eqB_t hd1]
      conv=>whnf
      refine ⟨[2],false,?_⟩
      conv=>whnf
      refine hsp.mono ?_
      rintro o st' ⟨y,p3,y1,⟨y2,y3⟩,y4,y5,rfl,rfl⟩
      rcases y with ⟨yi,yk,yx,yks⟩
      conv=>whnf
      refine draw_go hX ?_
      conv=>whnf
      repeat' (first
       | (refine And.intro (by (conv=>whnf); rfl) ?_
          conv=>whnf)
       | (refine And.intro ?_ ?_ <;> (conv=>whnf)))
      all_goals exact ⟨.mk ti tk tx tks,.mk yi yk yx yks,s1,by omega,y1,by omega,rfl⟩
    rw [eqB_f hd1]
    conv=>whnf
    by_cases hd2:e=2
    · rw [eqB_t hd2]
      conv=>whnf
      rw [ltB_f (by simp)]
      conv=>whnf
      refine draw_go hX ?_
      conv=>whnf
      repeat' (first
       | (refine And.intro (by (conv=>whnf); rfl) ?_
          conv=>whnf)
       | (refine And.intro ?_ ?_ <;> (conv=>whnf)))
      all_goals exact ⟨.mk ti tk tx tks,(.mk xi xk xx []),s1,by omega,hx1,by omega,rfl⟩
    rw [eqB_f hd2]
    conv=>whnf
    refine draw_go hX ?_
    conv=>whnf
    repeat' (first
     | (refine And.intro (by (conv=>whnf); rfl) ?_
        conv=>whnf)
     | (refine And.intro ?_ ?_ <;> (conv=>whnf)))
    all_goals exact ⟨.mk ti tk tx tks,(.mk xi xk xx []),s1,by omega,hx1,by omega,rfl⟩
  · obtain ⟨fr,rfl⟩:=hh.split
    clear hh
    refine hC _ _ ?_
    clear hC
    obtain ⟨k0,ks,rfl⟩:∃ k0 ks,xks=k0::ks:=by
     cases xks with
     | nil=>exact absurd rfl hk
     | cons k0 ks=>exact ⟨k0,ks,rfl⟩
    conv=>whnf
    refine ⟨[2],false,?_⟩
    conv=>whnf
    refine hpk2.mono ?_
    rintro o st' ⟨e,e0,e1,rfl,rfl⟩
    conv=>whnf
    by_cases hd0:e=0
    · rw [eqB_t hd0]
      conv=>whnf
      refine ⟨[2],false,?_⟩
      conv=>whnf
      refine hany.mono ?_
      rintro o st' ⟨t2,p3,z1,⟨z2,z5,z6,z7⟩,z3,z4,rfl,rfl⟩
      have hds:t2.size≤60:=drawn_size ⟨t2,z5,z6,z7,by omega,.inl rfl⟩
      clear z2 z3 z4 z5 z6 z7
      rcases t2 with ⟨ui,uk,ux,uks⟩
      conv=>whnf
      refine draw_go hX ?_
      conv=>whnf
      repeat' (first
       | (refine And.intro (by (conv=>whnf); rfl) ?_
          conv=>whnf)
       | (refine And.intro ?_ ?_ <;> (conv=>whnf)))
      all_goals exact ⟨.mk ti tk tx tks,.mk ui uk ux uks,s1,by omega,z1,by omega,rfl⟩
    rw [eqB_f hd0]
    conv=>whnf
    by_cases hd1:e=1
    · rw [eqB_t hd1]
      conv=>whnf
      refine ⟨[2],false,?_⟩
      conv=>whnf
      refine hsp.mono ?_
      rintro o st' ⟨y,p3,y1,⟨y2,y3⟩,y4,y5,rfl,rfl⟩
      rcases y with ⟨yi,yk,yx,yks⟩
      conv=>whnf
      refine draw_go hX ?_
      conv=>whnf
      repeat' (first
       | (refine And.intro (by (conv=>whnf); rfl) ?_
          conv=>whnf)
       | (refine And.intro ?_ ?_ <;> (conv=>whnf)))
      all_goals exact ⟨.mk ti tk tx tks,.mk yi yk yx yks,s1,by omega,y1,by omega,rfl⟩
    rw [eqB_f hd1]
    conv=>whnf
    by_cases hd2:e=2
    · rw [eqB_t hd2]
      conv=>whnf
      rcases ks with _ | ⟨k1,ks⟩
      · rw [ltB_f (by simp [T.rows])]
        conv=>whnf
        refine draw_go hX ?_
        conv=>whnf
        repeat' (first
         | (refine And.intro (by (conv=>whnf); rfl) ?_
            conv=>whnf)
         | (refine And.intro ?_ ?_ <;> (conv=>whnf)))
        all_goals exact ⟨.mk ti tk tx tks,(.mk xi xk xx [k0]),s1,by omega,hx1,by omega,rfl⟩
      · rw [ltB_t (by simp [T.rows]; omega)]
        have hsw:=swap_small hx1
        obtain ⟨ai,ak,ax,as1⟩:=k0
        obtain ⟨bi,bk,bx,bs1⟩:=k1
        conv=>whnf
        refine ⟨by omega,_,_,4,rfl,rfl,rfl,rfl,?_⟩
        conv=>whnf
        refine AtRow_intro _ rfl ?_
        conv=>whnf
        refine draw_go hX ?_
        conv=>whnf
        refine ⟨by omega,_,_,4,rfl,rfl,rfl,rfl,?_⟩
        conv=>whnf
        refine AtRow_intro _ rfl ?_
        conv=>whnf
        refine ⟨by omega,_,_,4,rfl,rfl,rfl,rfl,?_⟩
        conv=>whnf
        refine AtRow_intro _ rfl ?_
        conv=>whnf
        refine ⟨by omega,_,_,4,rfl,rfl,rfl,rfl,?_⟩
        conv=>whnf
        refine AtRow_intro _ rfl ?_
        conv=>whnf
        refine draw_go hX ?_
        conv=>whnf
        repeat' (first
         | (refine And.intro (by (conv=>whnf); rfl) ?_
            conv=>whnf)
         | (refine And.intro ?_ ?_ <;> (conv=>whnf)))
        all_goals exact ⟨.mk ti tk tx tks,(.mk xi xk xx (.mk bi bk bx bs1::.mk ai ak ax as1::ks)),s1,by omega,hsw,by rw [swap_size]; omega,rfl⟩
    rw [eqB_f hd2]
    conv=>whnf
    refine draw_go hX ?_
    conv=>whnf
    repeat' (first
     | (refine And.intro (by (conv=>whnf); rfl) ?_
        conv=>whnf)
     | (refine And.intro ?_ ?_ <;> (conv=>whnf)))
    all_goals exact ⟨.mk ti tk tx tks,(.mk xi xk xx (k0::ks)),s1,by omega,hx1,by omega,rfl⟩
  · obtain ⟨fr,rfl⟩:=hh.split
    clear hh
    refine hC _ _ ?_
    clear hC
    obtain ⟨k0,ks,rfl⟩:∃ k0 ks,xks=k0::ks:=by
     cases xks with
     | nil=>exact absurd rfl hk
     | cons k0 ks=>exact ⟨k0,ks,rfl⟩
    conv=>whnf
    refine ⟨[2],false,?_⟩
    conv=>whnf
    refine hpk2.mono ?_
    rintro o st' ⟨e,e0,e1,rfl,rfl⟩
    conv=>whnf
    by_cases hd0:e=0
    · rw [eqB_t hd0]
      conv=>whnf
      refine ⟨[2],false,?_⟩
      conv=>whnf
      refine hany.mono ?_
      rintro o st' ⟨t2,p3,z1,⟨z2,z5,z6,z7⟩,z3,z4,rfl,rfl⟩
      have hds:t2.size≤60:=drawn_size ⟨t2,z5,z6,z7,by omega,.inl rfl⟩
      clear z2 z3 z4 z5 z6 z7
      rcases t2 with ⟨ui,uk,ux,uks⟩
      conv=>whnf
      refine draw_go hX ?_
      conv=>whnf
      repeat' (first
       | (refine And.intro (by (conv=>whnf); rfl) ?_
          conv=>whnf)
       | (refine And.intro ?_ ?_ <;> (conv=>whnf)))
      all_goals exact ⟨.mk ti tk tx tks,.mk ui uk ux uks,s1,by omega,z1,by omega,rfl⟩
    rw [eqB_f hd0]
    conv=>whnf
    by_cases hd1:e=1
    · rw [eqB_t hd1]
      conv=>whnf
      refine ⟨[2],false,?_⟩
      conv=>whnf
      refine hsp.mono ?_
      rintro o st' ⟨y,p3,y1,⟨y2,y3⟩,y4,y5,rfl,rfl⟩
      rcases y with ⟨yi,yk,yx,yks⟩
      conv=>whnf
      refine draw_go hX ?_
      conv=>whnf
      repeat' (first
       | (refine And.intro (by (conv=>whnf); rfl) ?_
          conv=>whnf)
       | (refine And.intro ?_ ?_ <;> (conv=>whnf)))
      all_goals exact ⟨.mk ti tk tx tks,.mk yi yk yx yks,s1,by omega,y1,by omega,rfl⟩
    rw [eqB_f hd1]
    conv=>whnf
    by_cases hd2:e=2
    · rw [eqB_t hd2]
      conv=>whnf
      rcases ks with _ | ⟨k1,ks⟩
      · rw [ltB_f (by simp [T.rows])]
        conv=>whnf
        refine draw_go hX ?_
        conv=>whnf
        repeat' (first
         | (refine And.intro (by (conv=>whnf); rfl) ?_
            conv=>whnf)
         | (refine And.intro ?_ ?_ <;> (conv=>whnf)))
        all_goals exact ⟨.mk ti tk tx tks,(.mk xi xk xx [k0]),s1,by omega,hx1,by omega,rfl⟩
      · rw [ltB_t (by simp [T.rows]; omega)]
        have hsw:=swap_small hx1
        obtain ⟨ai,ak,ax,as1⟩:=k0
        obtain ⟨bi,bk,bx,bs1⟩:=k1
        conv=>whnf
        refine ⟨by omega,_,_,4,rfl,rfl,rfl,rfl,?_⟩
        conv=>whnf
        refine AtRow_intro _ rfl ?_
        conv=>whnf
        refine draw_go hX ?_
        conv=>whnf
        refine ⟨by omega,_,_,4,rfl,rfl,rfl,rfl,?_⟩
        conv=>whnf
        refine AtRow_intro _ rfl ?_
        conv=>whnf
        refine ⟨by omega,_,_,4,rfl,rfl,rfl,rfl,?_⟩
        conv=>whnf
        refine AtRow_intro _ rfl ?_
        conv=>whnf
        refine ⟨by omega,_,_,4,rfl,rfl,rfl,rfl,?_⟩
        conv=>whnf
        refine AtRow_intro _ rfl ?_
        conv=>whnf
        refine draw_go hX ?_
        conv=>whnf
        repeat' (first
         | (refine And.intro (by (conv=>whnf); rfl) ?_
            conv=>whnf)
         | (refine And.intro ?_ ?_ <;> (conv=>whnf)))
        all_goals exact ⟨.mk ti tk tx tks,(.mk xi xk xx (.mk bi bk bx bs1::.mk ai ak ax as1::ks)),s1,by omega,hsw,by rw [swap_size]; omega,rfl⟩
    rw [eqB_f hd2]
    conv=>whnf
    refine draw_go hX ?_
    conv=>whnf
    repeat' (first
     | (refine And.intro (by (conv=>whnf); rfl) ?_
        conv=>whnf)
     | (refine And.intro ?_ ?_ <;> (conv=>whnf)))
    all_goals exact ⟨.mk ti tk tx tks,(.mk xi xk xx (k0::ks)),s1,by omega,hx1,by omega,rfl⟩
 conv=>whnf
 repeat' (first
  | (refine ⟨[2],false,?_⟩
     conv=>whnf
     refine hpk.mono ?_
     rintro o st' ⟨c,c0,c1,rfl,rfl⟩
     have c1:=c1 (by omega)
     obtain ⟨c,rfl⟩:∃ n:Nat,c=n:=⟨c.toNat,by omega⟩
     have hed:=hed c (by omega)
     conv=>whnf)
  | (refine ⟨[2],false,?_⟩
     conv=>whnf
     refine hed.mono ?_
     rintro o st' ⟨x,p2,x1,x2,x3,rfl,rfl⟩
     rcases x with ⟨xi,xk,xx,_ | ⟨x0,xs⟩⟩
     all_goals conv=>whnf)
  | (refine And.intro (by (conv=>whnf); rfl) ?_
     conv=>whnf)
  | (refine And.intro ?_ ?_ <;> (conv=>whnf)))
 all_goals first
  | exact key _ _ ⟨.mk xi xk xx [],p2,x1,by omega,by omega,.inl ⟨rfl,⟨rfl,rfl,rfl,rfl,rfl,trivial⟩,rfl⟩⟩
  | exact key _ _ ⟨.mk xi xk xx (x0::xs),p2,x1,by omega,by omega,.inr (.inl ⟨(by intro h; cases h),⟨rfl,rfl,rfl,rfl,rfl,trivial⟩,rfl⟩)⟩
  | exact key _ _ ⟨.mk xi xk xx (x0::xs),p2,x1,by omega,by omega,.inr (.inr ⟨(by intro h; cases h),⟨rfl,rfl,rfl,rfl,rfl,trivial⟩,rfl⟩)⟩
end Go.Cod
