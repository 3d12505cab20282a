import Derived.Test.YtbpdmhbplelplaaDoorCards
import Derived.Test.YtbpdmhbplelplaaDoorTie
import Derived.LaidMore
import Derived.LaidOnce
import Derived.SevenTiedAt
import Derived.Test.YtbpdmhbplelplaaDoorCodF
set_option linter.all false
namespace Go.Cod
variable [Adr]
open Go Go.Proofs Go.ChangeShapes Go.WideShapes Go.ChangeAt Go.RowKit
set_option linter.all false
set_option maxRecDepth 10000
def textOk (rs:List Ru) (x:T):Bool:=decide (x.textOf=[])||rs.any fun r=>decide (r.kind=x.kindOf)&&r.text
def chkT (s:Sc) (x:T):Bool:=textOk s.rules x&&kidsS s x.kindOf (kindsOf x.kids)
theorem any_find {k:List UInt8}:∀ {rs:List Ru},(rs.map (·.kind)).Nodup→(rs.any fun r=>decide (r.kind=k)&&r.text)=match rs.find? fun r=>decide (r.kind=k) with
  | some r=>r.text
  | none=>false
 | [],_=>rfl
 | r::rs,hn=>by
   rw [List.map_cons] at hn
   obtain ⟨h1,h2⟩:=List.nodup_cons.1 hn
   have ih:=any_find (k:=k) h2
   rw [List.any_cons,List.find?_cons]
   by_cases e:r.kind=k
   · rw [decide_eq_true e]
     have:(rs.any fun r=>decide (r.kind=k)&&r.text)=false:=by
      rw [List.any_eq_false]
      intro q hq
      have:q.kind≠k:=fun e2=>h1 (by rw [e,← e2]; exact List.mem_map_of_mem hq)
      simp [this]
     rw [this]; simp
   · rw [decide_eq_false e,ih]; simp
theorem chk_thing {s:Sc} (hok:okS s=true) {x:T} (hk:x.kids.length≤20):chkT s x=thingF s.rules x:=by
 have hn:(s.rules.map (·.kind)).Nodup:=by
  have:=hok
  unfold okS at this
  simp only [Bool.and_eq_true,decide_eq_true_eq] at this
  exact this.2
 unfold chkT thingF textOk kidsS
 rw [any_find hn,hok]
 cases s.rules.find? fun r=>decide (r.kind=x.kindOf) with
 | none=>simp
 | some r =>
   have:(kindsOf x.kids).length≤20:=by simpa [kindsOf] using hk
   simp [this]
theorem find_nodup {l:List Sp} (hn:(l.map idS).Nodup) {s:Sp} (hs:s∈l):l.find? (isId (idS s))=some s:=by
 induction l with
 | nil=>cases hs
 | cons a l ih =>
   rw [List.map_cons] at hn
   obtain ⟨h1,h2⟩:=List.nodup_cons.1 hn
   rw [List.find?_cons]
   rcases List.mem_cons.1 hs with rfl | hs
   · rw [show isId (idS s) s=true from decide_eq_true rfl]
   · have hne:idS a≠idS s:=fun e=>h1 (e ▸ List.mem_map_of_mem hs)
     rw [show isId (idS s) a=false from decide_eq_false hne]
     exact ih h2 hs
theorem all_ids {s:Sc} {t:T} (hs:okS s=true) (ht:okT t=true):(idsOf t).all (fun i=>chkT s ((findT t i).getD TZ))=fitsT s.rules t:=by
 obtain ⟨_,hn,h20⟩:=(okT_iff' t).1 ht
 rw [idsOf,if_pos ht,fitsT_sp s.rules t 0 1,← spT_ids t 0 1,List.all_map]
 rw [← spT_ids t 0 1] at hn
 rw [Bool.eq_iff_iff,List.all_eq_true,List.all_eq_true]
 have key:∀ sp∈spT t 0 1,chkT s ((findT t (idS sp)).getD TZ)=thingF s.rules sp.1:=fun sp hsp=>by
  have h1:findT t (idS sp)=some sp.1:=by
   rw [findT,if_pos ht,fT_sp t (idS sp) 0 1,find_nodup hn hsp]; rfl
  rw [h1]
  have:=sp_kids t 0 1 sp hsp
  exact chk_thing hs (show sp.1.kids.length≤20 by omega)
 exact ⟨fun h sp hsp=>by rw [← key sp hsp]; exact h sp hsp,fun h sp hsp=>by show chkT s ((findT t (idS sp)).getD TZ)=true; rw [key sp hsp]; exact h sp hsp⟩
theorem pure_of_draw2 {P:Program} {τ:Tau} (hτ:TauGood P τ) {f:FuncId} {fn:Func} {c:Code} {args:List V} {R:V→Prop}
  (hf : P.funcs[f]? = some fn) (hb : fn.body = some c) (hname : (fn.name == "runtime.NumGoroutine") = false) (hc : codeOk fn.ntmps c = true)
  (h:∀ A,A=aOps→∀ X,X=drawR→awpX A X P noY τ 0 c (AEnd τ fn.results.toList R) (initFr args) []):Pure P f args R:=pure_of_awp hτ hf hb hname hc (h aOps rfl drawR rfl)
theorem fR2 (t:Option T):∃ (u:T) (f:Bool),fR t=.tup [.agg u.cells,.bool f]∧t.getD TZ=u:=by
 cases t with
 | none=>exact ⟨TZ,false,rfl,rfl⟩
 | some u=>exact ⟨u,true,rfl,rfl⟩
set_option maxHeartbeats 32000000 in
theorem law_fnSchemaFits (bs:List UInt8):Pure Tryd.prog 4 [.sl (brows bs)] (·=.bool true):=by
 have hl:=brows_len bs
 have hd:=drawSchemaFits_pure bs
 refine pure_of_draw2 good Tryd.func4 rfl (by kernel_rfl) (by decide) fun A hA X hX=>?_
 generalize brows bs=R at *
 conv=>whnf
 refine box_go hA ?_
 conv=>whnf
 refine box_go hA ?_
 conv=>whnf
 by_cases a0:1048576 < R.length
 · rw [ltB_t (by omega)]
   conv=>whnf
   refine box_go hA ?_
   conv=>whnf
 rw [ltB_f (by omega)]
 conv=>whnf
 refine box_with hA [(0,.sl R)] ⟨rfl,trivial⟩ fun fr=>?_
 conv=>whnf
 refine .inl ((hd (by omega)).mono ?_)
 rintro r ⟨s,t,hS,t1,t2,hr⟩
 have hsm:=hS.sm
 have hid:=T.ids_size t
 have i1:=implSchemaFits_pure s hsm t t1
 have i2:=specSchemaFits_pure s hsm t t1 (by omega)
 have i3:=implTreeOk t t1
 have i4:=specTreeOk_pure t t1 (by omega)
 have i5:=specSchemaOk_pure s hsm
 have i6:=implTreeIds_pure t t1
 have i7:=fun x=>implTreeFind_pure t t1 x
 have i8:=fun k ks=>implSchemaKids_pure s hsm k ks
 have hall:=fun h1 h2=>all_ids (s:=s) (t:=t) h1 h2
 have hfit:fitsS s t=(okS s&&okT t&&decide (t.kindOf=s.root)&&fitsT s.rules t):=rfl
 have hck:∀ x,chkT s x=((decide (x.textOf=[])||s.rules.any fun r=>decide (r.kind=x.kindOf)&&r.text)&&kidsS s x.kindOf (kindsOf x.kids)):=fun x=>rfl
 have hil:(idsOf t).length≤1048576:=by
  unfold idsOf
  split
  · omega
  · simp
 have hsmx:∀ x u,findT t x=some u→u.Small:=fun x u h=>findT_small t1 h
 have heq:∀ b:Bool,(!(b == b))=false:=by decide
 have hrs:r=.tup [.agg [.str s.root,.sl (rws Ru.cells s.rules)],.agg t.cells]:=hr
 clear hr
 generalize fitsS s t=ok at i1 i2 hfit
 generalize fitsT s.rules t=fb at hfit hall
 generalize okT t=to at i3 i4 hfit hall
 generalize okS s=so at i5 hfit hall
 generalize idsOf t=ids at i6 hall hil
 generalize findT t=fd at i7 hall hsmx
 generalize kidsS s=ks at i8 hck
 generalize chkT s=ck at hall hck
 obtain ⟨root,rl⟩:=s
 have hlr:=rws_len Ru.cells rl
 have hlg:=fun i h=>rws_get Ru.cells rl i h
 have hll:rl.length≤100:=hS.2.2.1
 simp only [Sc.cells] at i1 i2 i5 i8
 generalize rws Ru.cells rl=rules at i1 i2 i5 i8 hrs hlr hlg
 have hir:=irows_len ids
 have hig:=fun i h=>irows_get ids i h
 generalize irows ids=irs at i6 hir hig
 obtain ⟨ti,tk,tx,tks⟩:=t
 simp only [T.kindOf] at hfit hck
 subst hrs
 clear hS hd hsm hid
 conv=>whnf
 refine box_with hA [(3,.ptr 0 0 0),(4,.ptr 1 0 0)] ⟨rfl,rfl,trivial⟩ fun fr=>?_
 conv=>whnf
 refine .inl (i1.mono ?_)
 rintro r rfl
 conv=>whnf
 refine draw_with hX [(3,.ptr 0 0 0),(4,.ptr 1 0 0),(5,.bool ok)] ⟨rfl,rfl,rfl,trivial⟩ fun C hC fr=>?_
 conv=>whnf
 repeat' (first
  | (refine ⟨_,.inl i2,?_⟩
     conv=>whnf)
  | (refine ⟨_,.inl i3,?_⟩
     conv=>whnf)
  | (refine ⟨_,.inl i4,?_⟩
     conv=>whnf)
  | (rw [heq]
     conv=>whnf)
  | (refine And.intro ?_ ?_ <;> (conv=>whnf))
  | fail)
 all_goals (try rfl)
 refine hC _ _ ?_
 clear hC
 conv=>whnf
 refine box_with hA [(3,.ptr 0 0 0),(4,.ptr 1 0 0),(5,.bool ok)] ⟨rfl,rfl,rfl,trivial⟩ fun fr=>?_
 conv=>whnf
 refine .inl (i5.mono ?_)
 rintro r rfl
 cases so
 · conv=>whnf
   refine box_with hA [(5,.bool ok)] ⟨rfl,trivial⟩ fun fr=>?_
   conv=>whnf
   rw [hfit]; rfl
 conv=>whnf
 refine .inl (i4.mono ?_)
 rintro r rfl
 cases to
 · conv=>whnf
   refine box_with hA [(5,.bool ok)] ⟨rfl,trivial⟩ fun fr=>?_
   conv=>whnf
   rw [hfit]; rfl
 have hall:=hall rfl rfl
 simp only [Bool.and_self,Bool.true_and] at hfit
 conv=>whnf
 refine box_with hA [(3,.ptr 0 0 0),(4,.ptr 1 0 0),(5,.bool ok)] ⟨rfl,rfl,rfl,trivial⟩ fun fr=>?_
 conv=>whnf
 refine box_with hA [(3,.ptr 0 0 0),(4,.ptr 1 0 0),(5,.bool ok),(6,.bool (eqS tk root))] ⟨rfl,rfl,rfl,rfl,trivial⟩ fun fr=>?_
 generalize hrk0:eqS tk root=rk0
 have hfit:ok=(rk0&&fb):=by
  rw [hfit,← hrk0,eqS_def]
  congr 1
 clear hrk0
 conv=>whnf
 refine .inl (i6.mono ?_)
 rintro r rfl
 conv=>whnf
 refine box_with hA [(3,.ptr 0 0 0),(4,.ptr 1 0 0),(5,.bool ok),(6,.bool rk0),(7,.sl irs)] ⟨rfl,rfl,rfl,rfl,rfl,trivial⟩ fun fr=>?_
 conv=>whnf
 refine loop_drop (fun n fr st=>∃ (i:Nat) (acc:Bool),n+i=ids.length∧acc=(rk0&&(ids.take i).all fun x=>ck ((fd x).getD TZ))∧Holds fr [(3,.ptr 0 0 0),(4,.ptr 1 0 0),(5,.bool ok),(6,.bool acc),(7,.sl irs),(8,.int .i64 i)]∧st=[scBox root (.sl rules),⟨[[.int .i64 ti,.str tk,.str tx,.sl (T.rows tks)]],4,true,true,true,.cell⟩]) ids.length none ?_ ?_
 · exact ⟨0,rk0,rfl,by simp,⟨rfl,rfl,rfl,rfl,rfl,rfl,trivial⟩,rfl⟩
 rintro n fr st ⟨i,acc,hi,hacc,hh,rfl⟩
 obtain ⟨fr,rfl⟩:=hh.split
 clear hh
 conv=>whnf
 refine box_go hA ?_
 conv=>whnf
 rw [hir]
 by_cases hlt:i < ids.length
 · rw [ltB_t (by omega)]
   have hgi:=hig i hlt
   have hai:(ids.take (i+1)).all (fun x=>ck ((fd x).getD TZ))=((ids.take i).all (fun x=>ck ((fd x).getD TZ))&&ck ((fd ids[i]).getD TZ)):=by
    rw [List.take_succ_eq_append_getElem hlt,List.all_append]; simp
   have hwk:V.int .i64 (IntKind.i64.wrap ((i:Int)+1))=.int .i64 ((i+1:Nat):Int):=by rw [wrap64 (by omega) (by omega)]; simp
   generalize ids[i]=x at hgi hai
   have i7:=i7 x
   obtain ⟨u,f,e1,e2⟩:=fR2 (fd x)
   have hus:u.Small:=by
    cases hx:fd x with
    | none=>rw [hx] at e2; rw [← e2]; exact .mk (by decide) (Nat.zero_le _) (Nat.zero_le _) (Nat.zero_le _) fun t h=>by cases h
    | some w=>rw [hx] at e2; rw [← e2]; exact hsmx x w hx
   rw [e1] at i7
   rw [e2] at hai
   have hck:=hck u
   clear e1 e2
   obtain ⟨xi,xk,xx,xs⟩:=u
   cases hus with
   | mk g1 g2 g3 g4 g5 =>
   replace hck:ck (T.mk xi xk xx xs)=((decide (xx=[])||rl.any fun r=>decide (r.kind=xk)&&r.text)&&ks xk (kindsOf xs)):=hck
   have hlx:=rows_len xs
   have hgx:=fun j h=>rows_get xs j h
   have hkt:=fun j h=>kindsOf_take xs j h
   have hkl:∀ j,j≤xs.length→(rws sCells (kindsOf (xs.take j))).length=j:=fun j h=>by rw [rws_len,kindsOf,List.length_map,List.length_take]; omega
   have hk0:kindsOf xs=kindsOf (xs.take xs.length):=by rw [List.take_of_length_le (Nat.le_refl _)]
   conv=>whnf
   refine draw_with hX [(3,.ptr 0 0 0),(4,.ptr 1 0 0),(5,.bool ok),(6,.bool acc),(7,.sl irs),(8,.int .i64 i)] ⟨rfl,rfl,rfl,rfl,rfl,rfl,trivial⟩ fun C hC fr=>?_
   conv=>whnf
   repeat' (first
    | (refine ⟨by omega,irs,_,1,rfl,hgi,rfl,rfl,?_⟩
       conv=>whnf)
    | (refine ⟨_,.inl i7,?_⟩
       conv=>whnf)
    | (refine .inl (i7.mono ?_)
       rintro r rfl
       conv=>whnf)
    | (rintro r rfl
       conv=>whnf)
    | (refine And.intro ?_ ?_ <;> (conv=>whnf))
    | fail)
   all_goals (try rfl)
   refine hC _ _ ?_
   clear hC
   conv=>whnf
   refine box_with hA [(3,.ptr 0 0 0),(4,.ptr 1 0 0),(5,.bool ok),(6,.bool acc),(7,.sl irs),(8,.int .i64 i),(9,.ptr 2 0 0)] ⟨rfl,rfl,rfl,rfl,rfl,rfl,rfl,trivial⟩ fun fr=>?_
   conv=>whnf
   refine box_with hA [(3,.ptr 0 0 0),(4,.ptr 1 0 0),(5,.bool ok),(6,.bool acc),(7,.sl irs),(8,.int .i64 i),(9,.ptr 2 0 0),(11,.nils)] ⟨rfl,rfl,rfl,rfl,rfl,rfl,rfl,rfl,trivial⟩ fun fr=>?_
   conv=>whnf
   refine loop_drop (fun n fr st=>∃ j:Nat,n+j=xs.length∧((j=0∧Holds fr [(3,.ptr 0 0 0),(4,.ptr 1 0 0),(5,.bool ok),(6,.bool acc),(7,.sl irs),(8,.int .i64 i),(9,.ptr 2 0 0),(11,.nils),(12,.int .i64 j)]∧st=[scBox root (.sl rules),⟨[[.int .i64 ti,.str tk,.str tx,.sl (T.rows tks)]],4,true,true,true,.cell⟩,⟨[[.int .i64 xi,.str xk,.str xx,.sl (T.rows xs)]],4,true,true,true,.cell⟩]) ∨
     (1≤j∧Holds fr [(3,.ptr 0 0 0),(4,.ptr 1 0 0),(5,.bool ok),(6,.bool acc),(7,.sl irs),(8,.int .i64 i),(9,.ptr 2 0 0),(11,.own 3),(12,.int .i64 j)]∧st=[scBox root (.sl rules),⟨[[.int .i64 ti,.str tk,.str tx,.sl (T.rows tks)]],4,true,true,true,.cell⟩,⟨[[.int .i64 xi,.str xk,.str xx,.sl (T.rows xs)]],4,true,true,true,.cell⟩,⟨rws sCells (kindsOf (xs.take j)),1,true,true,false,.cell⟩]))) xs.length none ?_ ?_
   · exact ⟨0,rfl,.inl ⟨rfl,⟨rfl,rfl,rfl,rfl,rfl,rfl,rfl,rfl,rfl,trivial⟩,rfl⟩⟩
   rintro n3 fr st ⟨j,hj,⟨rfl,hh,rfl⟩ | ⟨hj1,hh,rfl⟩⟩
   · obtain ⟨fr,rfl⟩:=hh.split
     clear hh
     conv=>whnf
     refine box_go hA ?_
     conv=>whnf
     rw [hlx]
     by_cases hlj:0 < xs.length
     · rw [ltB_t (by omega)]
       have hg:=hgx 0 hlj
       have hk:=hkt 0 hlj
       generalize xs[0]=w at hg hk
       obtain ⟨wi,wk,wx,ws⟩:=w
       simp only [T.cells,T.kindOf] at hg hk
       conv=>whnf
       refine box_with hA [(3,.ptr 0 0 0),(4,.ptr 1 0 0),(5,.bool ok),(6,.bool acc),(7,.sl irs),(8,.int .i64 i),(9,.ptr 2 0 0),(11,.nils),(12,.int .i64 0)] ⟨rfl,rfl,rfl,rfl,rfl,rfl,rfl,rfl,rfl,trivial⟩ fun fr=>?_
       conv=>whnf
       refine ⟨by omega,T.rows xs,_,4,rfl,hg,rfl,rfl,?_⟩
       conv=>whnf
       refine ⟨fun m hm=>by rw [List.mem_singleton.1 hm]; rfl,?_⟩
       conv=>whnf
       refine ⟨by show 1*16≤_; omega,.inr ⟨(by intro e; cases e),?_⟩⟩
       conv=>whnf
       refine box_with hA [(3,.ptr 0 0 0),(4,.ptr 1 0 0),(5,.bool ok),(6,.bool acc),(7,.sl irs),(8,.int .i64 i),(9,.ptr 2 0 0),(11,.own 4),(12,.int .i64 0)] ⟨rfl,rfl,rfl,rfl,rfl,rfl,rfl,rfl,rfl,trivial⟩ fun fr=>?_
       conv=>whnf
       refine ⟨n3 - 1,by omega,some [0,1,2,4],?_⟩
       conv=>whnf
       exact ⟨1,by omega,.inr ⟨by omega,⟨rfl,rfl,rfl,rfl,rfl,rfl,rfl,rfl,rfl,trivial⟩,by rw [hk]; rfl⟩⟩
     · rw [ltB_f (by omega)]
       have hxs:xs=[]:=List.length_eq_zero_iff.1 (by omega)
       have hk9:=i8 xk (kindsOf xs)
       rw [show kindsOf xs=[] by rw [hxs]; rfl] at hk9 hck
       conv=>whnf
       refine box_with hA [(3,.ptr 0 0 0),(4,.ptr 1 0 0),(5,.bool ok),(6,.bool acc),(7,.sl irs),(8,.int .i64 i),(9,.ptr 2 0 0),(11,.nils)] ⟨rfl,rfl,rfl,rfl,rfl,rfl,rfl,rfl,trivial⟩ fun fr=>?_
       conv=>whnf
       refine box_with hA [(3,.ptr 0 0 0),(4,.ptr 1 0 0),(5,.bool ok),(6,.bool acc),(7,.sl irs),(8,.int .i64 i),(9,.ptr 2 0 0),(11,.nils),(13,.bool (eqS xx []))] ⟨rfl,rfl,rfl,rfl,rfl,rfl,rfl,rfl,rfl,trivial⟩ fun fr=>?_
       conv=>whnf
       refine loop_drop (fun n fr st=>∃ (q:Nat) (tb:Bool),n+q=rl.length∧tb=(decide (xx=[])||(rl.take q).any fun r=>decide (r.kind=xk)&&r.text)∧Holds fr [(3,.ptr 0 0 0),(4,.ptr 1 0 0),(5,.bool ok),(6,.bool acc),(7,.sl irs),(8,.int .i64 i),(9,.ptr 2 0 0),(11,.nils),(13,.bool tb),(14,.int .i64 q)]∧st=[scBox root (.sl rules),⟨[[.int .i64 ti,.str tk,.str tx,.sl (T.rows tks)]],4,true,true,true,.cell⟩,⟨[[.int .i64 xi,.str xk,.str xx,.sl (T.rows xs)]],4,true,true,true,.cell⟩]) rl.length none ?_ ?_
       · exact ⟨0,_,rfl,by rw [eqS_def]; simp,⟨rfl,rfl,rfl,rfl,rfl,rfl,rfl,rfl,rfl,rfl,trivial⟩,rfl⟩
       rintro n2 fr st ⟨q,tb,hq,htb,hh,rfl⟩
       obtain ⟨fr,rfl⟩:=hh.split
       clear hh
       conv=>whnf
       refine box_go hA ?_
       conv=>whnf
       rw [hlr]
       by_cases hq2:q < rl.length
       · rw [ltB_t (by omega)]
         have hgr:=hlg q hq2
         have htk:(rl.take (q+1)).any (fun r=>decide (r.kind=xk)&&r.text)=((rl.take q).any (fun r=>decide (r.kind=xk)&&r.text)||(decide (rl[q].kind=xk)&&rl[q].text)):=by
          rw [List.take_succ_eq_append_getElem hq2,List.any_append]; simp
         have hwq:V.int .i64 (IntKind.i64.wrap ((q:Int)+1))=.int .i64 ((q+1:Nat):Int):=by rw [wrap64 (by omega) (by omega)]; simp
         generalize rl[q]=ru at hgr htk
         obtain ⟨rk,rt,ris⟩:=ru
         conv=>whnf
         refine draw_with hX [(3,.ptr 0 0 0),(4,.ptr 1 0 0),(5,.bool ok),(6,.bool acc),(7,.sl irs),(8,.int .i64 i),(9,.ptr 2 0 0),(11,.nils),(13,.bool tb),(14,.int .i64 q)] ⟨rfl,rfl,rfl,rfl,rfl,rfl,rfl,rfl,rfl,rfl,trivial⟩ fun C hC fr=>?_
         conv=>whnf
         cases tb
         · conv=>whnf
           refine ⟨by omega,rules,_,3,rfl,hgr,rfl,rfl,?_⟩
           conv=>whnf
           by_cases hrk:rk=xk
           · rw [eqS_t hrk]
             conv=>whnf
             refine ⟨by omega,rules,_,3,rfl,hgr,rfl,rfl,?_⟩
             conv=>whnf
             refine hC _ _ ?_
             conv=>whnf
             refine box_with hA [(3,.ptr 0 0 0),(4,.ptr 1 0 0),(5,.bool ok),(6,.bool acc),(7,.sl irs),(8,.int .i64 i),(9,.ptr 2 0 0),(11,.nils),(13,.bool rt),(14,.int .i64 q)] ⟨rfl,rfl,rfl,rfl,rfl,rfl,rfl,rfl,rfl,rfl,trivial⟩ fun fr=>?_
             conv=>whnf
             exact ⟨n2 - 1,by omega,none,q+1,rt,by omega,by rw [htk,← Bool.or_assoc,← htb]; simp [hrk],⟨rfl,rfl,rfl,rfl,rfl,rfl,rfl,rfl,rfl,hwq,trivial⟩,rfl⟩
           · rw [eqS_f hrk]
             conv=>whnf
             refine hC _ _ ?_
             conv=>whnf
             refine box_with hA [(3,.ptr 0 0 0),(4,.ptr 1 0 0),(5,.bool ok),(6,.bool acc),(7,.sl irs),(8,.int .i64 i),(9,.ptr 2 0 0),(11,.nils),(13,.bool false),(14,.int .i64 q)] ⟨rfl,rfl,rfl,rfl,rfl,rfl,rfl,rfl,rfl,rfl,trivial⟩ fun fr=>?_
             conv=>whnf
             exact ⟨n2 - 1,by omega,none,q+1,false,by omega,by rw [htk,← Bool.or_assoc,← htb]; simp [hrk],⟨rfl,rfl,rfl,rfl,rfl,rfl,rfl,rfl,rfl,hwq,trivial⟩,rfl⟩
         · conv=>whnf
           refine hC _ _ ?_
           conv=>whnf
           refine box_with hA [(3,.ptr 0 0 0),(4,.ptr 1 0 0),(5,.bool ok),(6,.bool acc),(7,.sl irs),(8,.int .i64 i),(9,.ptr 2 0 0),(11,.nils),(13,.bool true),(14,.int .i64 q)] ⟨rfl,rfl,rfl,rfl,rfl,rfl,rfl,rfl,rfl,rfl,trivial⟩ fun fr=>?_
           conv=>whnf
           exact ⟨n2 - 1,by omega,none,q+1,true,by omega,by rw [htk,← Bool.or_assoc,← htb]; simp,⟨rfl,rfl,rfl,rfl,rfl,rfl,rfl,rfl,rfl,hwq,trivial⟩,rfl⟩
       · rw [ltB_f (by omega)]
         rw [List.take_of_length_le (by omega)] at htb
         conv=>whnf
         refine box_with hA [(3,.ptr 0 0 0),(4,.ptr 1 0 0),(5,.bool ok),(6,.bool acc),(7,.sl irs),(8,.int .i64 i),(9,.ptr 2 0 0),(11,.nils),(13,.bool tb)] ⟨rfl,rfl,rfl,rfl,rfl,rfl,rfl,rfl,rfl,trivial⟩ fun fr=>?_
         conv=>whnf
         cases acc
         · conv=>whnf
           refine box_with hA [(3,.ptr 0 0 0),(4,.ptr 1 0 0),(5,.bool ok),(6,.bool false),(7,.sl irs),(8,.int .i64 i)] ⟨rfl,rfl,rfl,rfl,rfl,rfl,trivial⟩ fun fr=>?_
           conv=>whnf
           refine ⟨n - 1,by omega,some [0,1],?_⟩
           conv=>whnf
           exact ⟨i+1,false,by omega,by rw [hai,← Bool.and_assoc,← hacc,hck,← htb]; simp,⟨rfl,rfl,rfl,rfl,rfl,hwk,trivial⟩,rfl⟩
         · conv=>whnf
           cases tb
           · conv=>whnf
             refine box_with hA [(3,.ptr 0 0 0),(4,.ptr 1 0 0),(5,.bool ok),(6,.bool false),(7,.sl irs),(8,.int .i64 i)] ⟨rfl,rfl,rfl,rfl,rfl,rfl,trivial⟩ fun fr=>?_
             conv=>whnf
             refine ⟨n - 1,by omega,some [0,1],?_⟩
             conv=>whnf
             exact ⟨i+1,false,by omega,by rw [hai,← Bool.and_assoc,← hacc,hck,← htb]; simp,⟨rfl,rfl,rfl,rfl,rfl,hwk,trivial⟩,rfl⟩
           · conv=>whnf
             refine .inl (hk9.mono ?_)
             rintro r rfl
             conv=>whnf
             refine box_with hA [(3,.ptr 0 0 0),(4,.ptr 1 0 0),(5,.bool ok),(6,.bool (ks xk [])),(7,.sl irs),(8,.int .i64 i)] ⟨rfl,rfl,rfl,rfl,rfl,rfl,trivial⟩ fun fr=>?_
             conv=>whnf
             refine ⟨n - 1,by omega,some [0,1],?_⟩
             conv=>whnf
             exact ⟨i+1,(ks xk []),by omega,by rw [hai,← Bool.and_assoc,← hacc,hck,← htb]; simp,⟨rfl,rfl,rfl,rfl,rfl,hwk,trivial⟩,rfl⟩
   · obtain ⟨fr,rfl⟩:=hh.split
     clear hh
     conv=>whnf
     refine box_go hA ?_
     conv=>whnf
     rw [hlx]
     by_cases hlj:j < xs.length
     · rw [ltB_t (by omega)]
       have hg:=hgx j hlj
       have hk:=hkt j hlj
       have hkl:=hkl j (by omega)
       generalize xs[j]=w at hg hk
       obtain ⟨wi,wk,wx,ws⟩:=w
       simp only [T.cells,T.kindOf] at hg hk
       have hwj:V.int .i64 (IntKind.i64.wrap ((j:Int)+1))=.int .i64 ((j+1:Nat):Int):=by rw [wrap64 (by omega) (by omega)]; simp
       conv=>whnf
       refine box_with hA [(3,.ptr 0 0 0),(4,.ptr 1 0 0),(5,.bool ok),(6,.bool acc),(7,.sl irs),(8,.int .i64 i),(9,.ptr 2 0 0),(11,.own 3),(12,.int .i64 j)] ⟨rfl,rfl,rfl,rfl,rfl,rfl,rfl,rfl,rfl,trivial⟩ fun fr=>?_
       conv=>whnf
       refine ⟨by omega,T.rows xs,_,4,rfl,hg,rfl,rfl,?_⟩
       conv=>whnf
       refine ⟨fun m hm=>by rw [List.mem_singleton.1 hm]; rfl,?_⟩
       conv=>whnf
       refine ⟨by
        show ((rws sCells (kindsOf (xs.take j))).length+1)*16≤_
        rw [hkl]; omega,?_⟩
       conv=>whnf
       refine box_with hA [(3,.ptr 0 0 0),(4,.ptr 1 0 0),(5,.bool ok),(6,.bool acc),(7,.sl irs),(8,.int .i64 i),(9,.ptr 2 0 0),(11,.own 5),(12,.int .i64 j)] ⟨rfl,rfl,rfl,rfl,rfl,rfl,rfl,rfl,rfl,trivial⟩ fun fr=>?_
       conv=>whnf
       refine ⟨n3 - 1,by omega,some [0,1,2,5],?_⟩
       conv=>whnf
       exact ⟨j+1,by omega,.inr ⟨by omega,⟨rfl,rfl,rfl,rfl,rfl,rfl,rfl,rfl,hwj,trivial⟩,by rw [hk]; rfl⟩⟩
     · rw [ltB_f (by omega)]
       have hk9:=i8 xk (kindsOf xs)
       rw [List.take_of_length_le (by omega)]
       conv=>whnf
       refine box_with hA [(3,.ptr 0 0 0),(4,.ptr 1 0 0),(5,.bool ok),(6,.bool acc),(7,.sl irs),(8,.int .i64 i),(9,.ptr 2 0 0),(11,.own 3)] ⟨rfl,rfl,rfl,rfl,rfl,rfl,rfl,rfl,trivial⟩ fun fr=>?_
       conv=>whnf
       refine box_with hA [(3,.ptr 0 0 0),(4,.ptr 1 0 0),(5,.bool ok),(6,.bool acc),(7,.sl irs),(8,.int .i64 i),(9,.ptr 2 0 0),(11,.own 3),(13,.bool (eqS xx []))] ⟨rfl,rfl,rfl,rfl,rfl,rfl,rfl,rfl,rfl,trivial⟩ fun fr=>?_
       conv=>whnf
       refine loop_drop (fun n fr st=>∃ (q:Nat) (tb:Bool),n+q=rl.length∧tb=(decide (xx=[])||(rl.take q).any fun r=>decide (r.kind=xk)&&r.text)∧Holds fr [(3,.ptr 0 0 0),(4,.ptr 1 0 0),(5,.bool ok),(6,.bool acc),(7,.sl irs),(8,.int .i64 i),(9,.ptr 2 0 0),(11,.own 3),(13,.bool tb),(14,.int .i64 q)]∧st=[scBox root (.sl rules),⟨[[.int .i64 ti,.str tk,.str tx,.sl (T.rows tks)]],4,true,true,true,.cell⟩,⟨[[.int .i64 xi,.str xk,.str xx,.sl (T.rows xs)]],4,true,true,true,.cell⟩,⟨rws sCells (kindsOf xs),1,true,true,false,.cell⟩]) rl.length none ?_ ?_
       · exact ⟨0,_,rfl,by rw [eqS_def]; simp,⟨rfl,rfl,rfl,rfl,rfl,rfl,rfl,rfl,rfl,rfl,trivial⟩,rfl⟩
       rintro n2 fr st ⟨q,tb,hq,htb,hh,rfl⟩
       obtain ⟨fr,rfl⟩:=hh.split
       clear hh
       conv=>whnf
       refine box_go hA ?_
       conv=>whnf
       rw [hlr]
       by_cases hq2:q < rl.length
       · rw [ltB_t (by omega)]
         have hgr:=hlg q hq2
         have htk:(rl.take (q+1)).any (fun r=>decide (r.kind=xk)&&r.text)=((rl.take q).any (fun r=>decide (r.kind=xk)&&r.text)||(decide (rl[q].kind=xk)&&rl[q].text)):=by
          rw [List.take_succ_eq_append_getElem hq2,List.any_append]; simp
         have hwq:V.int .i64 (IntKind.i64.wrap ((q:Int)+1))=.int .i64 ((q+1:Nat):Int):=by rw [wrap64 (by omega) (by omega)]; simp
         generalize rl[q]=ru at hgr htk
         obtain ⟨rk,rt,ris⟩:=ru
         conv=>whnf
         refine draw_with hX [(3,.ptr 0 0 0),(4,.ptr 1 0 0),(5,.bool ok),(6,.bool acc),(7,.sl irs),(8,.int .i64 i),(9,.ptr 2 0 0),(11,.own 3),(13,.bool tb),(14,.int .i64 q)] ⟨rfl,rfl,rfl,rfl,rfl,rfl,rfl,rfl,rfl,rfl,trivial⟩ fun C hC fr=>?_
         conv=>whnf
         cases tb
         · conv=>whnf
           refine ⟨by omega,rules,_,3,rfl,hgr,rfl,rfl,?_⟩
           conv=>whnf
           by_cases hrk:rk=xk
           · rw [eqS_t hrk]
             conv=>whnf
             refine ⟨by omega,rules,_,3,rfl,hgr,rfl,rfl,?_⟩
             conv=>whnf
             refine hC _ _ ?_
             conv=>whnf
             refine box_with hA [(3,.ptr 0 0 0),(4,.ptr 1 0 0),(5,.bool ok),(6,.bool acc),(7,.sl irs),(8,.int .i64 i),(9,.ptr 2 0 0),(11,.own 3),(13,.bool rt),(14,.int .i64 q)] ⟨rfl,rfl,rfl,rfl,rfl,rfl,rfl,rfl,rfl,rfl,trivial⟩ fun fr=>?_
             conv=>whnf
             exact ⟨n2 - 1,by omega,none,q+1,rt,by omega,by rw [htk,← Bool.or_assoc,← htb]; simp [hrk],⟨rfl,rfl,rfl,rfl,rfl,rfl,rfl,rfl,rfl,hwq,trivial⟩,rfl⟩
           · rw [eqS_f hrk]
             conv=>whnf
             refine hC _ _ ?_
             conv=>whnf
             refine box_with hA [(3,.ptr 0 0 0),(4,.ptr 1 0 0),(5,.bool ok),(6,.bool acc),(7,.sl irs),(8,.int .i64 i),(9,.ptr 2 0 0),(11,.own 3),(13,.bool false),(14,.int .i64 q)] ⟨rfl,rfl,rfl,rfl,rfl,rfl,rfl,rfl,rfl,rfl,trivial⟩ fun fr=>?_
             conv=>whnf
             exact ⟨n2 - 1,by omega,none,q+1,false,by omega,by rw [htk,← Bool.or_assoc,← htb]; simp [hrk],⟨rfl,rfl,rfl,rfl,rfl,rfl,rfl,rfl,rfl,hwq,trivial⟩,rfl⟩
         · conv=>whnf
           refine hC _ _ ?_
           conv=>whnf
           refine box_with hA [(3,.ptr 0 0 0),(4,.ptr 1 0 0),(5,.bool ok),(6,.bool acc),(7,.sl irs),(8,.int .i64 i),(9,.ptr 2 0 0),(11,.own 3),(13,.bool true),(14,.int .i64 q)] ⟨rfl,rfl,rfl,rfl,rfl,rfl,rfl,rfl,rfl,rfl,trivial⟩ fun fr=>?_
           conv=>whnf
           exact ⟨n2 - 1,by omega,none,q+1,true,by omega,by rw [htk,← Bool.or_assoc,← htb]; simp,⟨rfl,rfl,rfl,rfl,rfl,rfl,rfl,rfl,rfl,hwq,trivial⟩,rfl⟩
       · rw [ltB_f (by omega)]
         rw [List.take_of_length_le (by omega)] at htb
         conv=>whnf
         refine box_with hA [(3,.ptr 0 0 0),(4,.ptr 1 0 0),(5,.bool ok),(6,.bool acc),(7,.sl irs),(8,.int .i64 i),(9,.ptr 2 0 0),(11,.own 3),(13,.bool tb)] ⟨rfl,rfl,rfl,rfl,rfl,rfl,rfl,rfl,rfl,trivial⟩ fun fr=>?_
         conv=>whnf
         cases acc
         · conv=>whnf
           refine box_with hA [(3,.ptr 0 0 0),(4,.ptr 1 0 0),(5,.bool ok),(6,.bool false),(7,.sl irs),(8,.int .i64 i)] ⟨rfl,rfl,rfl,rfl,rfl,rfl,trivial⟩ fun fr=>?_
           conv=>whnf
           refine ⟨n - 1,by omega,some [0,1],?_⟩
           conv=>whnf
           exact ⟨i+1,false,by omega,by rw [hai,← Bool.and_assoc,← hacc,hck,← htb]; simp,⟨rfl,rfl,rfl,rfl,rfl,hwk,trivial⟩,rfl⟩
         · conv=>whnf
           cases tb
           · conv=>whnf
             refine box_with hA [(3,.ptr 0 0 0),(4,.ptr 1 0 0),(5,.bool ok),(6,.bool false),(7,.sl irs),(8,.int .i64 i)] ⟨rfl,rfl,rfl,rfl,rfl,rfl,trivial⟩ fun fr=>?_
             conv=>whnf
             refine ⟨n - 1,by omega,some [0,1],?_⟩
             conv=>whnf
             exact ⟨i+1,false,by omega,by rw [hai,← Bool.and_assoc,← hacc,hck,← htb]; simp,⟨rfl,rfl,rfl,rfl,rfl,hwk,trivial⟩,rfl⟩
           · conv=>whnf
             refine ⟨[],false,?_⟩
             conv=>whnf
             refine Full.mono hk9 ?_
             rintro o st' ⟨rfl,r,rfl,rfl⟩
             conv=>whnf
             refine box_with hA [(3,.ptr 0 0 0),(4,.ptr 1 0 0),(5,.bool ok),(6,.bool (ks xk (kindsOf xs))),(7,.sl irs),(8,.int .i64 i)] ⟨rfl,rfl,rfl,rfl,rfl,rfl,trivial⟩ fun fr=>?_
             conv=>whnf
             refine ⟨n - 1,by omega,some [0,1],?_⟩
             conv=>whnf
             exact ⟨i+1,(ks xk (kindsOf xs)),by omega,by rw [hai,← Bool.and_assoc,← hacc,hck,← htb]; simp,⟨rfl,rfl,rfl,rfl,rfl,hwk,trivial⟩,rfl⟩
 · rw [ltB_f (by omega)]
   rw [List.take_of_length_le (by omega),hall] at hacc
   conv=>whnf
   refine box_with hA [(5,.bool ok),(6,.bool acc)] ⟨rfl,rfl,trivial⟩ fun fr=>?_
   conv=>whnf
   rw [hfit,hacc]
   cases rk0 <;> cases fb <;> rfl
theorem lawFnSchemaFits (bs:List UInt8):Pure Tryd.prog 4 [.sl (brows bs)] (·=.bool true):=law_fnSchemaFits bs
omit [Adr]
theorem conFnSchemaFits (H:Type) (enc:TypeId × Value→H) (W:World) (base:Nat) (args:Array Value) (ds gs:List (DataW H)) (before:List MemPlace)
  (hval:∀ (j:Nat) t v,Tryd.f4.params[j]? = some t→args[j]? = some v→Value.okWide Tryd.prog W .any base t v)
  (hW:DataW.Whole enc Tryd.prog Tryd.f4.params.toList YtbpdmhbplelplaaDoor.Rows.fnSchemaFitsSpec.vars false W args.toList ds gs before) (hL:laidMetH Tryd.prog YtbpdmhbplelplaaDoor.Rows.fnSchemaFitsRow.laid W) {fresh handsOn again:Bool} :
  Calls Tryd.prog 4 args W fun e W'=>∃ v,e=.returned v∧YtbpdmhbplelplaaDoor.Rows.fnSchemaFitsSpec.post enc Tryd.prog Tryd.f4 false fresh handsOn again W args v W':=by
 have hm:laidMet Tryd.prog YtbpdmhbplelplaaDoor.Rows.fnSchemaFitsRow.laid W:=by
  rw [← MakeChecks.laidMetH_plain _ _ _ (by kernel_rfl)]; exact hL
 obtain ⟨⟨a0,c0,l0⟩,hm⟩:=laid_err hm (g:=0) (by kernel_rfl) (by kernel_rfl)
 obtain ⟨⟨a3,c3,l3⟩,hm⟩:=laid_err hm (g:=3) (by kernel_rfl) (by kernel_rfl)
 obtain ⟨⟨a4,c4,l4⟩,hm⟩:=laid_err hm (g:=4) (by kernel_rfl) (by kernel_rfl)
 obtain ⟨⟨a5,c5,l5⟩,hm⟩:=laid_err hm (g:=5) (by kernel_rfl) (by kernel_rfl)
 obtain ⟨⟨a1,c1,l1⟩,hm⟩:=laid_err hm (g:=1) (by kernel_rfl) (by kernel_rfl)
 obtain ⟨⟨a2,c2,l2⟩,hm⟩:=laid_err hm (g:=2) (by kernel_rfl) (by kernel_rfl)
 letI A:Adr:=⟨fun g=>match g with | 0=>a0 | 3=>a3 | 4=>a4 | 5=>a5 | 1=>a1 | 2=>a2 | _=>default⟩
 have hlaid:Laid (oldP W) W:=by
  intro g cs h
  match g,h with
  | 0,h=>cases h; exact rep_var c0 l0 rfl
  | 3,h=>cases h; exact rep_var c3 l3 rfl
  | 4,h=>cases h; exact rep_var c4 l4 rfl
  | 5,h=>cases h; exact rep_var c5 l5 rfl
  | 1,h=>cases h; exact rep_var c1 l1 rfl
  | 2,h=>cases h; exact rep_var c2 l2 rfl
  | g+6,h=>cases h
 refine law_callsV kids full globals_ok (tb:=4) rfl Tryd.underlying4 (by decide +kernel) hW (fun ds gs h h'=>by match ds,gs,h,h' with | [_],[_,_,_,_,_,_],_,_=>exact ⟨rfl,rfl,rfl⟩) hval
  (Ss:=[fun x=>∃ bs:List UInt8,x=.sl (brows bs)]) hlaid ?_ ?_
 · rw [Tryd.params4]
   exact ⟨argBytes,trivial⟩
 · intro xs h
   obtain ⟨_,rfl,⟨t0,rfl⟩⟩:=hold1 h
   exact lawFnSchemaFits t0
theorem doorFnSchemaFits (os:Os) (args:Array Value):laidMetH Tryd.prog YtbpdmhbplelplaaDoor.Rows.fnSchemaFitsRow.laid ((World.doorLaid Tryd.prog 400 os).forCall (fun _ _=>0) ⟨#[],args,[]⟩).memory :=
 laidMetH_of_parts3 (fuel:=8) (laidMet_of_run' 8 (by kernel_rfl) (by kernel_rfl)) (by kernel_rfl) (by kernel_rfl)
set_option maxRecDepth 100000 in
theorem rowFnSchemaFits:YtbpdmhbplelplaaDoor.Rows.FnSchemaFitsSaid :=
 OpenClaim.holds_of_wide 4 Tryd.f4 rfl rfl rfl rfl rfl rfl rfl ⟨rfl,rfl,rfl,rfl,rfl⟩ rfl rfl rfl rfl rfl (by kernel_rfl) Tryd.func4 (by kernel_rfl)
  (of_decide_eq_true (by kernel_rfl)) (by unfold Func.isWrapper; first | (rw [if_pos (by decide +kernel)]; kernel_rfl) | (rw [if_neg (by decide +kernel)]; exact ⟨rfl,rfl⟩))
  (fun os started H enc _=>returnsInHanded_of_change_and (C:=Tryd.checked) (X:=fun w _=>laidMetH Tryd.prog YtbpdmhbplelplaaDoor.Rows.fnSchemaFitsRow.laid w) (fun _ _ _ hh h=>h.of_heap hh) ownK started (by kernel_rfl) Tryd.func4
    (ChangeSpec.witness_shaped (enc:=enc) (C:=Tryd.checked) (os:=os) (X:=fun w _=>laidMetH Tryd.prog YtbpdmhbplelplaaDoor.Rows.fnSchemaFitsRow.laid w) false (World.doorLaid Tryd.prog 400 os) #[.slice none 0 0] 8 rfl (World.shaped_of_RefB (by kernel_rfl) (by kernel_rfl)) (by kernel_rfl) (by kernel_rfl) (by kernel_rfl) (doorFnSchemaFits os _))
    (fun W base args ds gs before hval hW _ _ hL _=>conFnSchemaFits H enc W base args ds gs before hval hW hL))
set_option maxRecDepth 100000 in
theorem overFnSchemaFits:YtbpdmhbplelplaaDoor.Rows.FnSchemaFitsCardSaid :=
 Claim7.holds_tied_plain_at .later [] [.sentinel, .sentinel, .sentinel, .sentinel, .sentinel, .sentinel] true (true, "b0274ff7744effe876c0ccfd820b2401516fb31be01a0a9a99a317afb20d88f6") true
  rowFnSchemaFits (fun _ h=>by cases h) (by kernel_rfl) (fun _ h=>by cases h) YtbpdmhbplelplaaDoor.fnSchemaFits_row_tie rfl ⟨rfl,rfl⟩ (by kernel_rfl) rfl
  (fun f fn hf hfn=>by
    obtain rfl : f = 4 := Option.some.inj ((show Tryd.prog.funcNamed "loop.example/codicil/laws.FnSchemaFits" = some 4 by kernel_rfl).symm.trans hf) |>.symm
    obtain rfl:fn=Tryd.f4:=(Option.some.inj (Tryd.func4.symm.trans hfn)).symm
    exact ⟨by kernel_rfl,fun j t ht=>by
     rw [Tryd.params4] at ht
     have hm:t∈([22]:List Nat):=by simpa using Array.mem_of_getElem? ht
     have hall:(([22]:List Nat).all fun u=>!Tryd.prog.wantsStandIn u)=true:=by kernel_rfl
     exact (show Tryd.prog.wantsStandIn t=false by simpa using List.all_eq_true.1 hall t hm)⟩)
  (by kernel_rfl)
end Go.Cod
