import Derived.Test.YtbpdmhbplelplaaDoorCards
import Derived.Test.YtbpdmhbplelplaaDoorTie
import Derived.LaidMore
import Derived.LaidOnce
import Derived.SevenTiedAt
import Derived.Test.YtbpdmhbplelplaaDoorCodE
set_option linter.all false
namespace Go.Cod
variable [Adr]
open Go Go.Proofs Go.ChangeShapes Go.WideShapes Go.ChangeAt Go.RowKit
set_option linter.all false
set_option maxRecDepth 10000
theorem drawSchemaKids_pure (bs:List UInt8) (hb:bs.length≤1048576):Pure Tryd.prog 7 [.sl (brows bs)] DrawSK:=by
 refine Full.freeze (Full.start (st0:=[]) (drawSchemaKids_full bs hb)) ?_
 rintro o st' ⟨root,Ls,h,g,k,ks,es,h1,h2,h3,h4,h5,rfl,rfl⟩
 have hcl:∀ l:Ks,V.clean.cleanLL 0 (rws sCells l)=true:=by
  intro l
  induction l with
  | nil=>rfl
  | cons x l ih =>
    show (V.clean.cleanL 0 [V.str x]&&V.clean.cleanLL 0 (rws sCells l))=true
    rw [ih]; rfl
 refine ⟨_,_,.tup [.agg (Sc.mk root (Ls.map LR.ru)).cells,.str k,.sl (rws sCells ks)],rfl,rfl,?_,?_,_,k,ks,h2,h3,h4,h5,rfl⟩
 · refine .tup rfl fun i x y p q=>?_
   match i,p,q with
   | 0,p,q =>
     cases p; cases q
     refine .agg rfl fun i x y p q=>?_
     match i,p,q with
     | 0,p,q=>cases p; cases q; exact .same _
     | 1,p,q=>cases p; cases q; exact h1.sc.view
   | 1,p,q=>cases p; cases q; exact .same _
   | 2,p,q =>
     cases p; cases q
     refine plain_view h1.ks (hcl _) fun e he x hx=>?_
     obtain ⟨a,_,rfl⟩:=List.mem_map.1 he
     simp only [sCells,List.mem_cons,List.not_mem_nil,or_false] at hx
     subst hx; rfl
 · rcases h with _ | ⟨_,_⟩ <;> rcases g with _ | ⟨_,_⟩ <;> rfl
theorem many_more {κ:List UInt8}:∀ (n:Nat) (xs:List It) (pre post:Ks),xs.length+pre.length < n→(∀ x∈xs,x.kind=κ→x.many=true)→matchP xs (pre++κ::post)=true→matchP xs (pre++κ::κ::post)=true
 | 0,_,_,_,h,_,_=>by omega
 | n+1,[],pre,post,_,_,h=>by simp [matchP] at h
 | n+1,x::xs,pre,post,hn,hx,h=>by
   have h0:=h
   rw [match_cons,Bool.or_eq_true] at h
   rw [match_cons,Bool.or_eq_true]
   simp only [List.length_cons] at hn
   rcases h with h | h
   · rw [Bool.and_eq_true] at h
     exact .inl (by rw [Bool.and_eq_true]; exact ⟨h.1,many_more n xs pre post (by omega) (fun y hy=>hx y (List.mem_cons_of_mem _ hy)) h.2⟩)
   · rw [Bool.and_eq_true] at h
     right
     rw [Bool.and_eq_true]
     cases pre with
     | nil =>
       have hk:κ=x.kind:=by simpa [takesB] using h.1
       have hm:=hx x List.mem_cons_self hk.symm
       refine ⟨by simpa [takesB] using h.1,?_⟩
       rw [if_pos hm]
       exact h0
     | cons y pre =>
       simp only [List.length_cons] at hn
       refine ⟨h.1,?_⟩
       have h2:=h.2
       by_cases hm:x.many=true
       · rw [if_pos hm] at h2 ⊢
         exact many_more n (x::xs) pre post (by simp only [List.length_cons]; omega) hx h2
       · rw [if_neg hm] at h2 ⊢
         exact many_more n xs pre post (by omega) (fun y hy=>hx y (List.mem_cons_of_mem _ hy)) h2
def onlyR (k κ:List UInt8) (rs:List Ru):Bool:=rs.all fun r=>!decide (r.kind=k)||r.kids.all fun x=>!decide (x.kind=κ)||x.many
theorem kids_more {s:Sc} {k κ:List UInt8} {pre post:Ks} (h:kidsS s k (pre++κ::post)=true) (hl:(pre++κ::post).length < 20) (ho:onlyR k κ s.rules=true):kidsS s k (pre++κ::κ::post)=true:=by
 unfold kidsS at h ⊢
 rw [Bool.and_eq_true] at h ⊢
 refine ⟨h.1,?_⟩
 have h2:=h.2
 cases hf:s.rules.find? fun r=>decide (r.kind=k) with
 | none=>rw [hf] at h2; cases h2
 | some r =>
   rw [hf] at h2
   have hk:r.kind=k:=by simpa using List.find?_some hf
   have hr:=List.mem_of_find?_eq_some hf
   unfold onlyR at ho
   rw [List.all_eq_true] at ho
   have h3:=ho r hr
   rw [decide_eq_true hk,Bool.not_true,Bool.false_or,List.all_eq_true] at h3
   simp only [Bool.and_eq_true,decide_eq_true_eq] at h2 ⊢
   simp only [List.length_append,List.length_cons] at hl h2 ⊢
   refine ⟨by omega,many_more _ r.kids pre post (Nat.lt_succ_self _) (fun x hx hxk=>?_) h2.2⟩
   have:=h3 x hx
   rwa [decide_eq_true hxk,Bool.not_true,Bool.false_or] at this
end Go.Cod
set_option linter.all false
namespace Go.Cod
variable [Adr]
open Go Go.Proofs Go.ChangeShapes Go.WideShapes Go.ChangeAt Go.RowKit
set_option linter.all false
set_option maxRecDepth 10000
theorem pure_of_draw2 {P:Program} {τ:Tau} (hτ:TauGood P τ) {f:FuncId} {fn:Func} {c:Code} {args:List V} {R:V→Prop}
  (hf : P.funcs[f]? = some fn) (hb : fn.body = some c) (hname : (fn.name == "runtime.NumGoroutine") = false) (hc : codeOk fn.ntmps c = true)
  (h:∀ A,A=aOps→∀ X,X=drawR→awpX A X P noY τ 0 c (AEnd τ fn.results.toList R) (initFr args) []):Pure P f args R:=pure_of_awp hτ hf hb hname hc (h aOps rfl drawR rfl)
theorem split_at {ks:Ks} {y:Nat} (hy:y < ks.length):ks=ks.take y++ks[y]::ks.drop (y+1):=by
 rw [← List.drop_eq_getElem_cons hy,List.take_append_drop]
set_option maxHeartbeats 32000000 in
theorem law_fnSchemaMany (bs ms:List UInt8):Pure Tryd.prog 3 [.sl (brows bs),.sl (brows ms)] (·=.bool true):=by
 have hl:=brows_len bs
 have hl2:=brows_len ms
 have hd:=drawSchemaKids_pure bs
 refine pure_of_draw2 good Tryd.func3 rfl (by kernel_rfl) (by decide) fun A hA X hX=>?_
 generalize brows bs=R at *
 generalize brows ms=M at *
 conv=>whnf
 refine box_go hA ?_
 conv=>whnf
 refine box_go hA ?_
 conv=>whnf
 by_cases a0:1048576 < R.length
 · rw [ltB_t (by omega)]
   conv=>whnf
   refine box_go hA ?_
   conv=>whnf
 rw [ltB_f (by omega)]
 conv=>whnf
 by_cases a1:1048576 < M.length
 · rw [ltB_t (by omega)]
   conv=>whnf
   refine box_go hA ?_
   conv=>whnf
 rw [ltB_f (by omega)]
 conv=>whnf
 refine box_with hA [(0,.sl R),(1,.sl M)] ⟨rfl,rfl,trivial⟩ fun fr=>?_
 conv=>whnf
 refine .inl ((hd (by omega)).mono ?_)
 rintro r ⟨s,kd,ks,hS,hkd,hkl,hkS,hr⟩
 have hrs:r=.tup [.agg [.str s.root,.sl (rws Ru.cells s.rules)],.str kd,.sl (rws sCells ks)]:=hr
 clear hr
 have hsm:=hS.sm
 have i1:=implSchemaKids_pure s hsm kd ks
 have i2:=specSchemaKids_pure s hsm kd ks
 have i3:=fun y (hy:y < ks.length)=>implSchemaKids_pure s hsm kd (ks.take y++ks[y]::ks[y]::ks.drop (y+1))
 have hmore:=fun y (hy:y < ks.length) (h:kidsS s kd ks=true) (hl:ks.length < 20) (ho:onlyR kd ks[y] s.rules=true)=>kids_more (s:=s) (k:=kd) (κ:=ks[y]) (pre:=ks.take y) (post:=ks.drop (y+1)) (by rw [← split_at hy]; exact h) (by rw [← split_at hy]; exact hl) ho
 have heq:∀ b:Bool,(!(b == b))=false:=by decide
 have hlk:=rws_len sCells ks
 have hgk:=fun i h=>rws_get sCells ks i h
 obtain ⟨root,rl⟩:=s
 have hlr:=rws_len Ru.cells rl
 have hlg:=fun i h=>rws_get Ru.cells rl i h
 have hll:rl.length≤100∧∀ r∈rl,RuS r:=⟨hS.2.2.1,hS.2.2.2⟩
 simp only [Sc.cells] at i1 i2 i3
 generalize rws Ru.cells rl=rules at i1 i2 i3 hrs hlr hlg
 generalize hok:kidsS ⟨root,rl⟩ kd ks=ok at i1 i2 hmore
 subst hrs
 clear hd hS hsm
 conv=>whnf
 refine box_with hA [(1,.sl M),(5,.ptr 0 0 0),(6,.str kd),(7,.sl (rws sCells ks))] ⟨rfl,rfl,rfl,rfl,trivial⟩ fun fr=>?_
 conv=>whnf
 refine .inl (i1.mono ?_)
 rintro r rfl
 conv=>whnf
 refine box_with hA [(1,.sl M),(5,.ptr 0 0 0),(6,.str kd),(7,.sl (rws sCells ks)),(8,.bool ok)] ⟨rfl,rfl,rfl,rfl,rfl,trivial⟩ fun fr=>?_
 conv=>whnf
 refine .inl (i2.mono ?_)
 rintro r rfl
 conv=>whnf
 rw [heq]
 conv=>whnf
 cases ok
 · conv=>whnf
   refine box_with hA [(5,.ptr 0 0 0),(6,.str kd),(7,.sl (rws sCells ks)),(8,.bool false)] ⟨rfl,rfl,rfl,rfl,trivial⟩ fun fr=>?_
   conv=>whnf
   refine .inl (i2.mono ?_)
   rintro r rfl
   conv=>whnf
   rfl
 conv=>whnf
 rw [hlk]
 by_cases e0:ks.length=0
 · rw [eqB_t (by omega)]
   conv=>whnf
   refine box_with hA [(5,.ptr 0 0 0),(6,.str kd),(7,.sl (rws sCells ks)),(8,.bool true)] ⟨rfl,rfl,rfl,rfl,trivial⟩ fun fr=>?_
   conv=>whnf
   refine .inl (i2.mono ?_)
   rintro r rfl
   conv=>whnf
   rfl
 rw [eqB_f (by omega)]
 conv=>whnf
 rw [hlk]
 by_cases e1:20≤ks.length
 · rw [leB_t (by omega)]
   conv=>whnf
   refine box_with hA [(5,.ptr 0 0 0),(6,.str kd),(7,.sl (rws sCells ks)),(8,.bool true)] ⟨rfl,rfl,rfl,rfl,trivial⟩ fun fr=>?_
   conv=>whnf
   refine .inl (i2.mono ?_)
   rintro r rfl
   conv=>whnf
   rfl
 rw [leB_f (by omega)]
 conv=>whnf
 refine box_with hA [(1,.sl M),(5,.ptr 0 0 0),(6,.str kd),(7,.sl (rws sCells ks))] ⟨rfl,rfl,rfl,rfl,trivial⟩ fun fr=>?_
 conv=>whnf
 rw [hlk]
 refine ⟨by omega,?_⟩
 conv=>whnf
 rw [hl2]
 obtain ⟨y,hyd⟩:∃ y:Nat,(ms.length:Int).tmod ks.length=(y:Int)∧y < ks.length:=⟨ms.length % ks.length,by rw [Int.tmod_eq_emod_of_nonneg (by omega)]; rfl,Nat.mod_lt _ (by omega)⟩
 have hy:=hyd.2
 refine box_with hA [(5,.ptr 0 0 0),(6,.str kd),(7,.sl (rws sCells ks)),(9,.int .i64 (y:Nat))] ⟨rfl,rfl,rfl,by show V.int .i64 _=_; rw [hyd.1],trivial⟩ fun fr=>?_
 conv=>whnf
 have hgy:=hgk y hy
 have hmore:=hmore y hy rfl (by omega)
 have i3:=i3 y hy
 have hspl:=split_at hy
 generalize hκ:ks[y]=κ at hgy hmore i3
 have hwid:=rws_wid sCells (k:=1) (fun _=>rfl) ks
 generalize hkr:rws sCells ks=krs at hgy hlk hgk hwid
 refine box_with hA [(5,.ptr 0 0 0),(6,.str kd),(7,.sl krs),(9,.int .i64 (y:Nat)),(10,.bool true)] ⟨rfl,rfl,by rw [← hkr]; rfl,rfl,rfl,trivial⟩ fun fr=>?_
 conv=>whnf
 refine box_with hA [(5,.ptr 0 0 0),(6,.str kd),(7,.sl krs),(9,.int .i64 (y:Nat)),(10,.bool true),(11,.bool false)] ⟨rfl,rfl,rfl,rfl,rfl,rfl,trivial⟩ fun fr=>?_
 conv=>whnf
 refine loop_drop (fun n fr st=>∃ (i:Nat) (on mn:Bool),n+i=rl.length∧(on=true→onlyR kd κ (rl.take i)=true)∧Holds fr [(5,.ptr 0 0 0),(6,.str kd),(7,.sl krs),(9,.int .i64 (y:Nat)),(10,.bool on),(11,.bool mn),(12,.int .i64 i)]∧st=[⟨[[.str root,.sl rules]],2,true,true,true,.cell⟩]) rl.length none ?_ ?_
 · exact ⟨0,true,false,rfl,fun _=>by simp [onlyR],⟨rfl,rfl,rfl,rfl,rfl,rfl,rfl,trivial⟩,rfl⟩
 rintro n fr st ⟨i,on,mn,hi,hon,hh,rfl⟩
 obtain ⟨fr,rfl⟩:=hh.split
 clear hh
 conv=>whnf
 refine box_go hA ?_
 conv=>whnf
 rw [hlr]
 by_cases hlt:i < rl.length
 · rw [ltB_t (by omega)]
   have hg:=hlg i hlt
   have hti:onlyR kd κ (rl.take (i+1))=(onlyR kd κ (rl.take i)&&(!decide (rl[i].kind=kd)||rl[i].kids.all fun x=>!decide (x.kind=κ)||x.many)):=by
    unfold onlyR
    rw [List.take_succ_eq_append_getElem hlt,List.all_append]; simp
   have hqq:=(hll.2 _ (List.getElem_mem hlt)).2.1
   have hwi:V.int .i64 (IntKind.i64.wrap ((i:Int)+1))=.int .i64 ((i+1:Nat):Int):=by rw [wrap64 (by omega) (by omega)]; simp
   generalize rl[i]=ru at hg hti hqq
   obtain ⟨qk,qt,qs⟩:=ru
   simp only at hti hqq
   have hlq:=rws_len It.cells qs
   have hgq:=fun j h=>rws_get It.cells qs j h
   simp only [Ru.cells] at hg
   generalize rws It.cells qs=qrs at hg hlq hgq
   conv=>whnf
   refine box_with hA [(5,.ptr 0 0 0),(6,.str kd),(7,.sl krs),(9,.int .i64 (y:Nat)),(10,.bool on),(11,.bool mn),(12,.int .i64 i)] ⟨rfl,rfl,rfl,rfl,rfl,rfl,rfl,trivial⟩ fun fr=>?_
   conv=>whnf
   refine loop_drop (fun n2 fr st=>∃ (q:Nat) (on mn:Bool),n2+q=qs.length∧(on=true→onlyR kd κ (rl.take i)=true∧(qs.take q).all (fun x=>!decide (x.kind=κ)||x.many)=true)∧Holds fr [(5,.ptr 0 0 0),(6,.str kd),(7,.sl krs),(9,.int .i64 (y:Nat)),(10,.bool on),(11,.bool mn),(12,.int .i64 i),(13,.int .i64 q)]∧st=[⟨[[.str root,.sl rules]],2,true,true,true,.cell⟩]) qs.length none ?_ ?_
   · exact ⟨0,on,mn,rfl,fun h=>⟨hon h,by simp⟩,⟨rfl,rfl,rfl,rfl,rfl,rfl,rfl,rfl,trivial⟩,rfl⟩
   clear hon on mn
   rintro n2 fr st ⟨q,on,mn,hq,hon,hh,rfl⟩
   obtain ⟨fr,rfl⟩:=hh.split
   clear hh
   conv=>whnf
   refine box_go hA ?_
   conv=>whnf
   refine ⟨by omega,rules,_,3,rfl,hg,rfl,rfl,?_⟩
   conv=>whnf
   rw [hlq]
   by_cases hlt2:q < qs.length
   · rw [ltB_t (by omega)]
     conv=>whnf
     refine ⟨by omega,rules,_,3,rfl,hg,rfl,rfl,?_⟩
     conv=>whnf
     by_cases hqk:qk=kd
     · rw [eqS_t hqk]
       have hgi:=hgq q hlt2
       have htq:(qs.take (q+1)).all (fun x=>!decide (x.kind=κ)||x.many)=((qs.take q).all (fun x=>!decide (x.kind=κ)||x.many)&&(!decide (qs[q].kind=κ)||qs[q].many)):=by
        rw [List.take_succ_eq_append_getElem hlt2,List.all_append]; simp
       have hwq:V.int .i64 (IntKind.i64.wrap ((q:Int)+1))=.int .i64 ((q+1:Nat):Int):=by rw [wrap64 (by omega) (by omega)]; simp
       generalize qs[q]=it at hgi htq
       obtain ⟨ik,im,iy⟩:=it
       simp only at htq
       conv=>whnf
       refine box_with hA [(5,.ptr 0 0 0),(6,.str kd),(7,.sl krs),(9,.int .i64 (y:Nat)),(10,.bool on),(11,.bool mn),(12,.int .i64 i),(13,.int .i64 q)] ⟨rfl,rfl,rfl,rfl,rfl,rfl,rfl,rfl,trivial⟩ fun fr=>?_
       conv=>whnf
       refine ⟨by omega,rules,_,3,rfl,hg,rfl,rfl,?_⟩
       conv=>whnf
       refine ⟨by omega,qrs,_,3,rfl,hgi,rfl,rfl,?_⟩
       conv=>whnf
       refine draw_with hX [(5,.ptr 0 0 0),(6,.str kd),(7,.sl krs),(9,.int .i64 (y:Nat)),(10,.bool on),(11,.bool mn),(12,.int .i64 i),(13,.int .i64 q),(14,.ptr 1 0 0)] ⟨rfl,rfl,rfl,rfl,rfl,rfl,rfl,rfl,rfl,trivial⟩ fun C hC fr=>?_
       conv=>whnf
       refine ⟨by omega,krs,_,1,rfl,hgy,rfl,rfl,?_⟩
       conv=>whnf
       by_cases hik:ik=κ
       · rw [eqS_t hik]
         conv=>whnf
         refine hC _ _ ?_
         cases on
         · cases mn
           · conv=>whnf
             refine box_with hA [(5,.ptr 0 0 0),(6,.str kd),(7,.sl krs),(9,.int .i64 (y:Nat)),(10,.bool false),(11,.bool false),(12,.int .i64 i),(13,.int .i64 q),(14,.ptr 1 0 0)] ⟨rfl,rfl,rfl,rfl,rfl,rfl,rfl,rfl,rfl,trivial⟩ fun fr=>?_
             conv=>whnf
             refine box_with hA [(5,.ptr 0 0 0),(6,.str kd),(7,.sl krs),(9,.int .i64 (y:Nat)),(10,.bool false),(11,.bool false),(12,.int .i64 i),(13,.int .i64 q),(14,.ptr 1 0 0)] ⟨rfl,rfl,rfl,rfl,rfl,rfl,rfl,rfl,rfl,trivial⟩ fun fr=>?_
             conv=>whnf
             refine box_with hA [(5,.ptr 0 0 0),(6,.str kd),(7,.sl krs),(9,.int .i64 (y:Nat)),(10,.bool false),(11,.bool im),(12,.int .i64 i),(13,.int .i64 q)] ⟨rfl,rfl,rfl,rfl,rfl,rfl,rfl,rfl,trivial⟩ fun fr=>?_
             conv=>whnf
             refine ⟨n2 - 1,by omega,some [0],?_⟩
             conv=>whnf
             exact ⟨q+1,false,im,by omega,(fun h=>by cases h),⟨rfl,rfl,rfl,rfl,rfl,rfl,rfl,hwq,trivial⟩,rfl⟩
           · conv=>whnf
             refine box_with hA [(5,.ptr 0 0 0),(6,.str kd),(7,.sl krs),(9,.int .i64 (y:Nat)),(10,.bool false),(11,.bool true),(12,.int .i64 i),(13,.int .i64 q),(14,.ptr 1 0 0)] ⟨rfl,rfl,rfl,rfl,rfl,rfl,rfl,rfl,rfl,trivial⟩ fun fr=>?_
             conv=>whnf
             refine box_with hA [(5,.ptr 0 0 0),(6,.str kd),(7,.sl krs),(9,.int .i64 (y:Nat)),(10,.bool false),(11,.bool true),(12,.int .i64 i),(13,.int .i64 q),(14,.ptr 1 0 0)] ⟨rfl,rfl,rfl,rfl,rfl,rfl,rfl,rfl,rfl,trivial⟩ fun fr=>?_
             conv=>whnf
             refine box_with hA [(5,.ptr 0 0 0),(6,.str kd),(7,.sl krs),(9,.int .i64 (y:Nat)),(10,.bool false),(11,.bool true),(12,.int .i64 i),(13,.int .i64 q)] ⟨rfl,rfl,rfl,rfl,rfl,rfl,rfl,rfl,trivial⟩ fun fr=>?_
             conv=>whnf
             refine ⟨n2 - 1,by omega,some [0],?_⟩
             conv=>whnf
             exact ⟨q+1,false,true,by omega,(fun h=>by cases h),⟨rfl,rfl,rfl,rfl,rfl,rfl,rfl,hwq,trivial⟩,rfl⟩
         · cases mn
           · conv=>whnf
             refine box_with hA [(5,.ptr 0 0 0),(6,.str kd),(7,.sl krs),(9,.int .i64 (y:Nat)),(10,.bool true),(11,.bool false),(12,.int .i64 i),(13,.int .i64 q),(14,.ptr 1 0 0)] ⟨rfl,rfl,rfl,rfl,rfl,rfl,rfl,rfl,rfl,trivial⟩ fun fr=>?_
             conv=>whnf
             refine box_with hA [(5,.ptr 0 0 0),(6,.str kd),(7,.sl krs),(9,.int .i64 (y:Nat)),(10,.bool im),(11,.bool false),(12,.int .i64 i),(13,.int .i64 q),(14,.ptr 1 0 0)] ⟨rfl,rfl,rfl,rfl,rfl,rfl,rfl,rfl,rfl,trivial⟩ fun fr=>?_
             conv=>whnf
             refine box_with hA [(5,.ptr 0 0 0),(6,.str kd),(7,.sl krs),(9,.int .i64 (y:Nat)),(10,.bool im),(11,.bool im),(12,.int .i64 i),(13,.int .i64 q)] ⟨rfl,rfl,rfl,rfl,rfl,rfl,rfl,rfl,trivial⟩ fun fr=>?_
             conv=>whnf
             refine ⟨n2 - 1,by omega,some [0],?_⟩
             conv=>whnf
             exact ⟨q+1,im,im,by omega,fun h=>⟨(hon rfl).1,by rw [htq,(hon rfl).2,h]; simp⟩,⟨rfl,rfl,rfl,rfl,rfl,rfl,rfl,hwq,trivial⟩,rfl⟩
           · conv=>whnf
             refine box_with hA [(5,.ptr 0 0 0),(6,.str kd),(7,.sl krs),(9,.int .i64 (y:Nat)),(10,.bool true),(11,.bool true),(12,.int .i64 i),(13,.int .i64 q),(14,.ptr 1 0 0)] ⟨rfl,rfl,rfl,rfl,rfl,rfl,rfl,rfl,rfl,trivial⟩ fun fr=>?_
             conv=>whnf
             refine box_with hA [(5,.ptr 0 0 0),(6,.str kd),(7,.sl krs),(9,.int .i64 (y:Nat)),(10,.bool im),(11,.bool true),(12,.int .i64 i),(13,.int .i64 q),(14,.ptr 1 0 0)] ⟨rfl,rfl,rfl,rfl,rfl,rfl,rfl,rfl,rfl,trivial⟩ fun fr=>?_
             conv=>whnf
             refine box_with hA [(5,.ptr 0 0 0),(6,.str kd),(7,.sl krs),(9,.int .i64 (y:Nat)),(10,.bool im),(11,.bool true),(12,.int .i64 i),(13,.int .i64 q)] ⟨rfl,rfl,rfl,rfl,rfl,rfl,rfl,rfl,trivial⟩ fun fr=>?_
             conv=>whnf
             refine ⟨n2 - 1,by omega,some [0],?_⟩
             conv=>whnf
             exact ⟨q+1,im,true,by omega,fun h=>⟨(hon rfl).1,by rw [htq,(hon rfl).2,h]; simp⟩,⟨rfl,rfl,rfl,rfl,rfl,rfl,rfl,hwq,trivial⟩,rfl⟩
       · rw [eqS_f hik]
         conv=>whnf
         refine hC _ _ ?_
         conv=>whnf
         refine box_with hA [(5,.ptr 0 0 0),(6,.str kd),(7,.sl krs),(9,.int .i64 (y:Nat)),(10,.bool on),(11,.bool mn),(12,.int .i64 i),(13,.int .i64 q)] ⟨rfl,rfl,rfl,rfl,rfl,rfl,rfl,rfl,trivial⟩ fun fr=>?_
         conv=>whnf
         refine ⟨n2 - 1,by omega,some [0],?_⟩
         conv=>whnf
         exact ⟨q+1,on,mn,by omega,fun h=>⟨(hon h).1,by rw [htq,(hon h).2]; simp [hik]⟩,⟨rfl,rfl,rfl,rfl,rfl,rfl,rfl,hwq,trivial⟩,rfl⟩
     · rw [eqS_f hqk]
       conv=>whnf
       refine box_with hA [(5,.ptr 0 0 0),(6,.str kd),(7,.sl krs),(9,.int .i64 (y:Nat)),(10,.bool on),(11,.bool mn),(12,.int .i64 i)] ⟨rfl,rfl,rfl,rfl,rfl,rfl,rfl,trivial⟩ fun fr=>?_
       conv=>whnf
       exact ⟨n - 1,by omega,none,i+1,on,mn,by omega,fun h=>by rw [hti,(hon h).1]; simp [hqk],⟨rfl,rfl,rfl,rfl,rfl,rfl,hwi,trivial⟩,rfl⟩
   · rw [ltB_f (by omega)]
     conv=>whnf
     have htk:qs.take q=qs:=List.take_of_length_le (by omega)
     rw [htk] at hon
     refine box_with hA [(5,.ptr 0 0 0),(6,.str kd),(7,.sl krs),(9,.int .i64 (y:Nat)),(10,.bool on),(11,.bool mn),(12,.int .i64 i)] ⟨rfl,rfl,rfl,rfl,rfl,rfl,rfl,trivial⟩ fun fr=>?_
     conv=>whnf
     exact ⟨n - 1,by omega,none,i+1,on,mn,by omega,fun h=>by rw [hti,(hon h).1,(hon h).2]; simp,⟨rfl,rfl,rfl,rfl,rfl,rfl,hwi,trivial⟩,rfl⟩
 · rw [ltB_f (by omega)]
   rw [List.take_of_length_le (by omega)] at hon
   conv=>whnf
   refine box_with hA [(5,.ptr 0 0 0),(6,.str kd),(7,.sl krs),(9,.int .i64 (y:Nat)),(10,.bool on),(11,.bool mn)] ⟨rfl,rfl,rfl,rfl,rfl,rfl,trivial⟩ fun fr=>?_
   conv=>whnf
   cases on
   · conv=>whnf
     refine box_go hA ?_
     conv=>whnf
   conv=>whnf
   cases mn
   · conv=>whnf
     refine box_go hA ?_
     conv=>whnf
   have hfin:=hmore (hon rfl)
   conv=>whnf
   refine draw_with hX [(5,.ptr 0 0 0),(6,.str kd),(7,.sl krs),(9,.int .i64 (y:Nat))] ⟨rfl,rfl,rfl,rfl,trivial⟩ fun C hC fr=>?_
   conv=>whnf
   have hw1:∀ r∈List.drop 0 (krs.take y),r.length=1:=fun r hr=>hwid r (List.mem_of_mem_take (List.mem_of_mem_drop hr))
   have htl:(List.drop 0 (krs.take y)).length=y:=by rw [List.drop_zero,List.length_take]; omega
   have hrows:rws sCells (ks.take y++κ::κ::ks.drop (y+1))=(List.drop 0 (krs.take y)++[[.str κ]])++List.drop y (krs.take krs.length):=by
    rw [← hkr,List.drop_zero,List.take_length,← hκ,← List.drop_eq_getElem_cons hy]
    simp [rws,sCells,List.map_take,List.map_drop]
   rw [hfin,hrows] at i3
   have hfit:∀ m:Nat,m≤100000→m*16≤140737488355328:=fun m h=>by omega
   have hlen2:(List.drop y (krs.take krs.length)).length≤20:=by rw [List.length_drop,List.take_length]; omega
   have hw3:∀ r∈List.drop y (krs.take krs.length),r.length=1:=fun r hr=>hwid r (List.mem_of_mem_take (List.mem_of_mem_drop hr))
   by_cases hy0:y=0
   · subst hy0
     repeat' (first
      | (refine ⟨hw1,?_⟩
         conv=>whnf)
      | (refine ⟨hwid,?_⟩
         conv=>whnf)
      | (refine ⟨by omega,by rw [hlk]; omega,?_⟩
         conv=>whnf)
      | (refine ⟨by omega,krs,_,1,rfl,hgy,rfl,rfl,?_⟩
         conv=>whnf)
      | (refine ⟨hfit _ (Nat.le_trans (Nat.le_of_eq htl) (by omega)),?_⟩
         refine .inl ⟨rfl,?_⟩
         conv=>whnf)
      | (refine ⟨fun m hm=>by rw [List.mem_singleton.1 hm]; rfl,?_⟩
         conv=>whnf)
      | (refine ⟨hw3,?_⟩
         conv=>whnf)
      | (refine ⟨hfit _ (show 1≤100000 by omega),?_⟩
         refine .inr ⟨(by intro e; cases e),?_⟩
         conv=>whnf)
      | (refine ⟨hfit _ (show 1+(List.drop 0 (krs.take krs.length)).length≤100000 by omega),?_⟩
         conv=>whnf)
      | (refine And.intro ?_ ?_ <;> (conv=>whnf))
      | fail)
     all_goals (try rfl)
     all_goals
      refine hC _ _ ?_
      conv=>whnf
      refine box_go hA ?_
      conv=>whnf
      refine ⟨[],false,?_⟩
      conv=>whnf
      refine Full.mono i3 ?_
      rintro o st' ⟨rfl,r,rfl,rfl⟩
      conv=>whnf
   · have hne:List.drop 0 (krs.take y)≠[]:=fun h=>by rw [h] at htl; simp at htl; omega
     repeat' (first
      | (refine ⟨hw1,?_⟩
         conv=>whnf)
      | (refine ⟨hwid,?_⟩
         conv=>whnf)
      | (refine ⟨by omega,by rw [hlk]; omega,?_⟩
         conv=>whnf)
      | (refine ⟨by omega,krs,_,1,rfl,hgy,rfl,rfl,?_⟩
         conv=>whnf)
      | (refine ⟨hfit _ (Nat.le_trans (Nat.le_of_eq htl) (by omega)),?_⟩
         refine .inr ⟨hne,?_⟩
         conv=>whnf)
      | (refine ⟨fun m hm=>by rw [List.mem_singleton.1 hm]; rfl,?_⟩
         conv=>whnf)
      | (refine ⟨hw3,?_⟩
         conv=>whnf)
      | (refine ⟨hfit _ (show (List.drop 0 (krs.take y)).length+1≤100000 by rw [htl]; omega),?_⟩
         conv=>whnf)
      | (refine ⟨hfit _ (show (List.drop 0 (krs.take y)++[[V.str κ]]).length+(List.drop y (krs.take krs.length)).length≤100000 by rw [List.length_append,htl]; simp only [List.length_cons,List.length_nil]; omega),?_⟩
         conv=>whnf)
      | (refine And.intro ?_ ?_ <;> (conv=>whnf))
      | fail)
     all_goals (try rfl)
     all_goals
      refine hC _ _ ?_
      conv=>whnf
      refine box_go hA ?_
      conv=>whnf
      refine ⟨[],false,?_⟩
      conv=>whnf
      refine Full.mono i3 ?_
      rintro o st' ⟨rfl,r,rfl,rfl⟩
      conv=>whnf
theorem lawFnSchemaMany (bs ms:List UInt8):Pure Tryd.prog 3 [.sl (brows bs),.sl (brows ms)] (·=.bool true):=law_fnSchemaMany bs ms
omit [Adr]
theorem conFnSchemaMany (H:Type) (enc:TypeId × Value→H) (W:World) (base:Nat) (args:Array Value) (ds gs:List (DataW H)) (before:List MemPlace)
  (hval:∀ (j:Nat) t v,Tryd.f3.params[j]? = some t→args[j]? = some v→Value.okWide Tryd.prog W .any base t v)
  (hW:DataW.Whole enc Tryd.prog Tryd.f3.params.toList YtbpdmhbplelplaaDoor.Rows.fnSchemaManySpec.vars false W args.toList ds gs before) (hL:laidMetH Tryd.prog YtbpdmhbplelplaaDoor.Rows.fnSchemaManyRow.laid W) {fresh handsOn again:Bool} :
  Calls Tryd.prog 3 args W fun e W'=>∃ v,e=.returned v∧YtbpdmhbplelplaaDoor.Rows.fnSchemaManySpec.post enc Tryd.prog Tryd.f3 false fresh handsOn again W args v W':=by
 have hm:laidMet Tryd.prog YtbpdmhbplelplaaDoor.Rows.fnSchemaManyRow.laid W:=by
  rw [← MakeChecks.laidMetH_plain _ _ _ (by kernel_rfl)]; exact hL
 obtain ⟨⟨a0,c0,l0⟩,hm⟩:=laid_err hm (g:=0) (by kernel_rfl) (by kernel_rfl)
 obtain ⟨⟨a3,c3,l3⟩,hm⟩:=laid_err hm (g:=3) (by kernel_rfl) (by kernel_rfl)
 obtain ⟨⟨a4,c4,l4⟩,hm⟩:=laid_err hm (g:=4) (by kernel_rfl) (by kernel_rfl)
 obtain ⟨⟨a5,c5,l5⟩,hm⟩:=laid_err hm (g:=5) (by kernel_rfl) (by kernel_rfl)
 letI A:Adr:=⟨fun g=>match g with | 0=>a0 | 3=>a3 | 4=>a4 | 5=>a5 | _=>default⟩
 have hlaid:Laid (oldP W) W:=by
  intro g cs h
  match g,h with
  | 0,h=>cases h; exact rep_var c0 l0 rfl
  | 3,h=>cases h; exact rep_var c3 l3 rfl
  | 4,h=>cases h; exact rep_var c4 l4 rfl
  | 5,h=>cases h; exact rep_var c5 l5 rfl
  | g+6,h=>cases h
 refine law_callsV kids full globals_ok (tb:=4) rfl Tryd.underlying4 (by decide +kernel) hW (fun ds gs h h'=>by match ds,gs,h,h' with | [_,_],[_,_,_,_],_,_=>exact ⟨rfl,rfl,rfl⟩) hval
  (Ss:=[fun x=>∃ bs:List UInt8,x=.sl (brows bs),fun x=>∃ bs:List UInt8,x=.sl (brows bs)]) hlaid ?_ ?_
 · rw [Tryd.params3]
   exact ⟨argBytes,argBytes,trivial⟩
 · intro xs h
   obtain ⟨_,_,rfl,⟨t0,rfl⟩,⟨t1,rfl⟩⟩:=hold2 h
   exact lawFnSchemaMany t0 t1
theorem doorFnSchemaMany (os:Os) (args:Array Value):laidMetH Tryd.prog YtbpdmhbplelplaaDoor.Rows.fnSchemaManyRow.laid ((World.doorLaid Tryd.prog 400 os).forCall (fun _ _=>0) ⟨#[],args,[]⟩).memory :=
 laidMetH_of_parts3 (fuel:=8) (laidMet_of_run' 8 (by kernel_rfl) (by kernel_rfl)) (by kernel_rfl) (by kernel_rfl)
set_option maxRecDepth 100000 in
theorem rowFnSchemaMany:YtbpdmhbplelplaaDoor.Rows.FnSchemaManySaid :=
 OpenClaim.holds_of_wide 3 Tryd.f3 rfl rfl rfl rfl rfl rfl rfl ⟨rfl,rfl,rfl,rfl,rfl⟩ rfl rfl rfl rfl rfl (by kernel_rfl) Tryd.func3 (by kernel_rfl)
  (of_decide_eq_true (by kernel_rfl)) (by unfold Func.isWrapper; first | (rw [if_pos (by decide +kernel)]; kernel_rfl) | (rw [if_neg (by decide +kernel)]; exact ⟨rfl,rfl⟩))
  (fun os started H enc _=>returnsInHanded_of_change_and (C:=Tryd.checked) (X:=fun w _=>laidMetH Tryd.prog YtbpdmhbplelplaaDoor.Rows.fnSchemaManyRow.laid w) (fun _ _ _ hh h=>h.of_heap hh) ownK started (by kernel_rfl) Tryd.func3
    (ChangeSpec.witness_shaped (enc:=enc) (C:=Tryd.checked) (os:=os) (X:=fun w _=>laidMetH Tryd.prog YtbpdmhbplelplaaDoor.Rows.fnSchemaManyRow.laid w) false (World.doorLaid Tryd.prog 400 os) #[.slice none 0 0,.slice none 0 0] 8 rfl (World.shaped_of_RefB (by kernel_rfl) (by kernel_rfl)) (by kernel_rfl) (by kernel_rfl) (by kernel_rfl) (doorFnSchemaMany os _))
    (fun W base args ds gs before hval hW _ _ hL _=>conFnSchemaMany H enc W base args ds gs before hval hW hL))
set_option maxRecDepth 100000 in
theorem overFnSchemaMany:YtbpdmhbplelplaaDoor.Rows.FnSchemaManyCardSaid :=
 Claim7.holds_tied_plain_at .later [] [.sentinel, .sentinel, .sentinel, .sentinel] true (true, "b0274ff7744effe876c0ccfd820b2401516fb31be01a0a9a99a317afb20d88f6") true
  rowFnSchemaMany (fun _ h=>by cases h) (by kernel_rfl) (fun _ h=>by cases h) YtbpdmhbplelplaaDoor.fnSchemaMany_row_tie rfl ⟨rfl,rfl⟩ (by kernel_rfl) rfl
  (fun f fn hf hfn=>by
    obtain rfl : f = 3 := Option.some.inj ((show Tryd.prog.funcNamed "loop.example/codicil/laws.FnSchemaMany" = some 3 by kernel_rfl).symm.trans hf) |>.symm
    obtain rfl:fn=Tryd.f3:=(Option.some.inj (Tryd.func3.symm.trans hfn)).symm
    exact ⟨by kernel_rfl,fun j t ht=>by
     rw [Tryd.params3] at ht
     have hm:t∈([22,22]:List Nat):=by simpa using Array.mem_of_getElem? ht
     have hall:(([22,22]:List Nat).all fun u=>!Tryd.prog.wantsStandIn u)=true:=by kernel_rfl
     exact (show Tryd.prog.wantsStandIn t=false by simpa using List.all_eq_true.1 hall t hm)⟩)
  (by kernel_rfl)
end Go.Cod
