import Derived.Orders
import Derived.Test.YtheokahofeedjaaDoorCodB
namespace Go.Cod
open Go
variable [Lam]
omit [Lam] in
theorem ev_congr {fr fr':Nat→V} {x:Operand} (h:∀ t,x=.tmp t→fr t=fr' t):ev fr x=ev fr' x:=by
 cases x with
 | tmp t=>exact h t rfl
 | _=>rfl
theorem aOp_congr {P:Program} {ok:OkY} {τ:Tau} {o:Oper} {fr fr':Nat→V} {st:St} {K Z:V→St→Prop} (h:∀ x∈o.op.operands,ev fr x=ev fr' x) (ha:aOp P ok τ o fr st K Z):aOp P ok τ o fr' st K Z:=by
 unfold aOp at *
 have H:∀ x∈o.op.operands.toList,ev fr x=ev fr' x:=fun x hx=>h x (by simpa using hx)
 have hv:semVals fr' o=semVals fr o:=(List.map_congr_left H).symm
 clear h
 cases ho:o.op <;> rw [ho] at ha H <;> simp only [Op.operands] at H ha ⊢ <;> try exact ha
 case move x=>rw [← H x (by simp)]; exact ha
 case assign x=>rw [← H x (by simp)]; exact ha
 case pick c a b=>rw [← H c (by simp),← H a (by simp),← H b (by simp)]; exact ha
 case box e x=>rw [← H x (by simp)]; exact ha
 case build t parts =>
  have:(parts.toList.map fun p=>(p.1,ev fr' p.2))=parts.toList.map fun p=>(p.1,ev fr p.2):=List.map_congr_left fun p hp=>by rw [H p.2 (by simp; exact ⟨p.1,by simpa using hp⟩)]
  rw [this]; exact ha
 case buildSlice t len parts =>
  have:(parts.toList.map fun p=>(p.1,ev fr' p.2))=parts.toList.map fun p=>(p.1,ev fr p.2):=List.map_congr_left fun p hp=>by rw [H p.2 (by simp; exact ⟨p.1,by simpa using hp⟩)]
  rw [this]; exact ha
 case load t x=>rw [← H x (by simp)]; exact ha
 case store t x y=>rw [← H x (by simp),← H y (by simp)]; exact ha
 case nilCheck x=>rw [← H x (by simp)]; exact ha
 case binOp op t x y yt=>rw [← H x (by simp),← H y (by simp)]; exact ha
 case unOp op t x=>rw [← H x (by simp)]; exact ha
 case convert s d x=>rw [← H x (by simp)]; exact ha
 case makeFunc fn first cap =>
  cases fn <;> simp only at ha ⊢ <;> try exact ha
  · have:(cap.toList.map (ev fr'))=cap.toList.map (ev fr):=List.map_congr_left fun p hp=>by rw [H p (by simp; exact .inr (by simpa using hp))]
    rw [this]
    split at ha
    · exact ha
    · rename_i x hx
      rw [← H x (by have:x∈first.toList:=by rw [hx]; simp
                    simp; exact .inl (by simpa using this))]
      exact ha
    · exact ha
  · rw [Chk_iff] at ha ⊢
    refine ⟨ha.1,?_⟩
    have ha:=ha.2
    split at ha
    · rename_i x hx
      rw [← H x (by have:x∈first.toList:=by rw [hx]; simp
                    simp; exact .inl (by simpa using this))]
      exact ha
    · exact ha.elim
 case makeSlice t x y =>
  cases hm:Lam.pool t <;> simp only [hm] at ha ⊢
  · rw [← H x (by simp),← H y (by simp)]; exact ha
  · rw [hv]; exact ha
 case slice t x lo hi mx =>
  cases mx with
  | some=>simp only at ha ⊢; rw [hv]; exact ha
  | none =>
    have h1:lo.map (ev fr')=lo.map (ev fr):=by
     cases lo with
     | none=>rfl
     | some l=>simp only [Option.map_some]; rw [H l (by simp)]
    have h2:hi.map (ev fr')=hi.map (ev fr):=by
     cases hi with
     | none=>rfl
     | some l=>simp only [Option.map_some]; rw [H l (by simp)]
    simp only at ha ⊢
    rw [← H x (by simp),h1,h2]; exact ha
 case fieldAddr s x f=>rw [← H x (by simp)]; exact ha
 case field s x f=>rw [← H x (by simp)]; exact ha
 case indexAddr s x f=>rw [← H x (by simp),← H f (by simp)]; exact ha
 case index s x f=>rw [← H x (by simp),← H f (by simp)]; exact ha
 case extract x i=>rw [← H x (by simp)]; exact ha
 case makeMap t r=>cases r <;> exact ha
 case lookup t m k c=>rw [← H m (by simp),← H k (by simp)]; exact ha
 case mapUpdate t m k v=>rw [← H m (by simp),← H k (by simp),← H v (by simp)]; exact ha
 case insert t m k v=>rw [← H m (by simp),← H k (by simp),← H v (by simp)]; exact ha
 case makeInterface t x=>rw [← H x (by simp)]; exact ha
 case typeAssert x t t' c=>rw [← H x (by simp)]; exact ha
 case panic x=>rw [← H x (by simp)]; exact ha
 case call c =>
  obtain ⟨callee,args,ats⟩:=c
  have h1:args.toList.map (ev fr')=args.toList.map (ev fr):=List.map_congr_left fun p hp=>by rw [H p (by simp [Call.operands]; exact .inr (by simpa using hp))]
  cases callee with
  | value f =>
    simp only at ha ⊢
    rw [← H f (by simp [Call.operands]),h1,hv]; exact ha
  | invoke r m =>
    have h3:args.toList.map (ev fr')=args.toList.map (ev fr):=h1
    simp only at ha ⊢
    rw [← H r (by simp [Call.operands]),h3]; exact ha
  | builtin b =>
    have h2:∀ x∈args.toList,ev fr x=ev fr' x:=fun x hx=>H x (by simp [Call.operands]; simpa using hx)
    cases b <;> try exact ha
    case append =>
     simp only at ha ⊢
     split at ha
     · rename_i s x t u e1 e2
       rw [e1] at h2
       rw [← h2 s (by simp),← h2 x (by simp),hv]; exact ha
     · exact ha.elim
    case len =>
     simp only at ha ⊢
     split at ha
     · rename_i x t e1 e2
       rw [e1] at h2
       rw [← h2 x (by simp)]; exact ha
     · exact ha.elim
    all_goals (simp only at ha ⊢; rw [hv]; exact ha)
theorem aQOp_congr {P:Program} {τ:Tau} {o:Oper} {fr fr':Nat→V} {st:St} {K:V→Prop} (h:∀ x∈o.op.operands,ev fr x=ev fr' x) (ha:aQOp P τ o fr st K):aQOp P τ o fr' st K:=by
 obtain ⟨dst,op,type,pos,after,guard⟩:=o
 have hgen:isCall op=false→aQOp P τ ⟨dst,op,type,pos,after,guard⟩ fr st K=(match isSlice op with | true=>aOp P noY τ ⟨dst,op,type,pos,after,guard⟩ fr st (fun v st'=>st'=st∧K v) (fun _ _=>False) | false=>aOp P noY τ ⟨dst,op,type,pos,after,guard⟩ fr st (fun v _=>K v) (fun _ _=>False)):=by
  intro hc
  unfold aQOp
  split
  · rename_i f args ats ho; simp only at ho; subst ho; simp [isCall] at hc
  · rfl
 have hgen':isCall op=false→aQOp P τ ⟨dst,op,type,pos,after,guard⟩ fr' st K=(match isSlice op with | true=>aOp P noY τ ⟨dst,op,type,pos,after,guard⟩ fr' st (fun v st'=>st'=st∧K v) (fun _ _=>False) | false=>aOp P noY τ ⟨dst,op,type,pos,after,guard⟩ fr' st (fun v _=>K v) (fun _ _=>False)):=by
  intro hc
  unfold aQOp
  split
  · rename_i f args ats ho; simp only at ho; subst ho; simp [isCall] at hc
  · rfl
 cases hc:isCall op with
 | false =>
   rw [hgen hc] at ha
   rw [hgen' hc]
   cases hs:isSlice op with
   | true=>rw [hs] at ha; exact aOp_congr h ha
   | false=>rw [hs] at ha; exact aOp_congr h ha
 | true =>
   unfold isCall at hc
   split at hc
   · rename_i f args ats
     simp only [Op.operands] at h
     simp only [aQOp] at ha ⊢
     have h1:args.toList.map (ev fr')=args.toList.map (ev fr):=List.map_congr_left fun p hp=>by rw [h p (by simp [Call.operands]; exact .inr (by simpa using hp))]
     rw [← h f (by simp [Call.operands]),h1]; exact ha
   · cases hc
omit [Lam] in
theorem aEqNil_det {t lit x v} {K:Bool→Prop} (h:aEqNil t lit x v K):∃ b,K b∧∀ K':Bool→Prop,K' b→aEqNil t lit x v K':=by
 unfold aEqNil at h ⊢
 split at h <;> first
  | exact h.elim
  | (simp only [AtKind,Chk_iff] at h ⊢; exact ⟨_,h.2,fun _ hk=>⟨h.1,hk⟩⟩)
  | (simp only [AtKind,Chk_iff] at h ⊢; exact ⟨_,h.2.2,fun _ hk=>⟨h.1,h.2.1,hk⟩⟩)
omit [Lam] in
theorem aBin_det {op t lit x y} {K:V→Prop} (h:aBin op t lit x y K):∃ v,K v∧∀ K':V→Prop,K' v→aBin op t lit x y K':=by
 unfold aBin at h ⊢
 split at h <;> first
  | (obtain ⟨b,h1,h2⟩:=aEqNil_det h; exact ⟨_,h1,fun _ hk=>h2 _ hk⟩)
  | exact h.elim
  | exact ⟨_,h,fun _ hk=>hk⟩
  | exact ⟨_,h.2,fun _ hk=>⟨h.1,hk⟩⟩
  | (simp only [KSame_iff] at h ⊢; exact ⟨_,h.2,fun _ hk=>⟨h.1,hk⟩⟩)
  | (simp only [KSame_iff] at h ⊢; exact ⟨_,h.2.2,fun _ hk=>⟨h.1,h.2.1,hk⟩⟩)
  | (simp only [Chk_iff] at h ⊢; exact ⟨_,h.2,fun _ hk=>⟨h.1,hk⟩⟩)
omit [Lam] in
theorem aUn_det {op x} {K:V→Prop} (h:aUn op x K):∃ v,K v∧∀ K':V→Prop,K' v→aUn op x K':=by
 unfold aUn at h ⊢
 split at h <;> first
  | exact h.elim
  | exact ⟨_,h,fun _ hk=>hk⟩
theorem aLoad_det {τ t p st} {K:V→Prop} (h:aLoad τ t p st K):∃ v,K v∧∀ K':V→Prop,K' v→aLoad τ t p st K':=by
 unfold aLoad at h ⊢
 simp only [atRow_iff,Chk_iff,decide_eq_true_eq] at h ⊢
 cases hti:τ t with
 | none=>rw [hti] at h; exact h.elim
 | some ti =>
   rw [hti] at h
   simp only at h ⊢
   cases p <;> simp only at h ⊢ <;> try exact h.elim
   · rename_i k i j
     cases ho:st[k]? with
     | none=>rw [ho] at h; exact h.elim
     | some o =>
       rw [ho] at h
       simp only at h ⊢
       obtain ⟨h1,e,he,h⟩:=h
       split at h
       · rename_i hk; exact ⟨_,h.2,fun _ hv=>⟨h1,e,he,by rw [if_pos hk]; exact ⟨h.1,hv⟩⟩⟩
       · rename_i hk
         cases hj:e[j]? with
         | none=>rw [hj] at h; exact h.elim
         | some x=>rw [hj] at h; exact ⟨x,h,fun _ hv=>⟨h1,e,he,by rw [if_neg hk]; simp only [hj]; exact hv⟩⟩
   · rename_i cs
     split at h
     · rename_i hk; exact ⟨_,h.2,fun _ hv=>by rw [if_pos hk]; exact ⟨h.1,hv⟩⟩
     · rename_i hk
       cases hj:cs[0]? with
       | none=>rw [hj] at h; exact h.elim
       | some x=>rw [hj] at h; exact ⟨x,h,fun _ hv=>by rw [if_neg hk]; exact hv⟩
   · rename_i v
     cases hg:(globOf v).bind Lam.dat with
     | none=>rw [hg] at h; exact h.elim
     | some cs =>
       rw [hg] at h
       simp only at h ⊢
       split at h
       · rename_i hk; exact ⟨_,h.2,fun _ hv=>by rw [if_pos hk]; exact ⟨h.1,hv⟩⟩
       · rename_i hk
         cases hj:cs[0]? with
         | none=>rw [hj] at h; exact h.elim
         | some x=>rw [hj] at h; exact ⟨x,h,fun _ hv=>by rw [if_neg hk]; exact hv⟩
   · obtain ⟨k,cap,rows,e,hm,he,h⟩:=h
     split at h
     · rename_i hk; exact ⟨_,h.2,fun _ hv=>⟨k,cap,rows,e,hm,he,by rw [if_pos hk]; exact ⟨h.1,hv⟩⟩⟩
     · rename_i hk
       split at h
       · exact h.elim
       · rename_i x hx; exact ⟨x,h,fun _ hv=>⟨k,cap,rows,e,hm,he,by rw [if_neg hk,hx]; exact hv⟩⟩
   · obtain ⟨o,e,x,h1,h2,h3,h4,h5,h6,h⟩:=h
     exact ⟨x,h,fun _ hv=>⟨o,e,x,h1,h2,h3,h4,h5,h6,hv⟩⟩
omit [Lam] in
theorem aFieldAddr_det {τ s p f} {K:V→Prop} (h:aFieldAddr τ s p f K):∃ v,K v∧∀ K':V→Prop,K' v→aFieldAddr τ s p f K':=by
 unfold aFieldAddr at h ⊢
 simp only [Chk_iff,decide_eq_true_eq] at h ⊢
 cases hb:(τ s).bind (·.fields[f]?) with
 | none=>rw [hb] at h; exact h.elim
 | some q =>
   rw [hb] at h
   obtain ⟨off,size,b⟩:=q
   simp only at h ⊢
   obtain ⟨h1,h⟩:=h
   cases p <;> simp only at h ⊢ <;> try exact h.elim
   · exact ⟨_,h,fun _ hv=>⟨h1,hv⟩⟩
   · exact ⟨_,h,fun _ hv=>⟨h1,hv⟩⟩
   · exact ⟨_,h,fun _ hv=>⟨h1,hv⟩⟩
omit [Lam] in
theorem aField_det {τ s p f} {K:V→Prop} (h:aField τ s p f K):∃ v,K v∧∀ K':V→Prop,K' v→aField τ s p f K':=by
 unfold aField at h ⊢
 split at h
 · split at h
   · rename_i hi; exact ⟨_,h,fun _ hv=>by rw [if_pos hi]; exact hv⟩
   · rename_i hi
     split at h
     · rename_i v hv; exact ⟨_,h,fun _ hv=>by rw [if_neg hi]; exact hv⟩
     · exact h.elim
 · exact h.elim
omit [Lam] in
theorem aIndexAddr_det {τ t lit x i st} {K:V→Prop} (h:aIndexAddr τ t lit x i st K):∃ v,K v∧∀ K':V→Prop,K' v→aIndexAddr τ t lit x i st K':=by
 unfold aIndexAddr at h ⊢
 split at h
 · split at h
   · split at h
     · obtain ⟨h0,h⟩:=Chk_iff.1 h
       obtain ⟨h1,h⟩:=Chk_iff.1 h
       exact ⟨_,h,fun _ hv=>Chk_iff.2 ⟨h0,Chk_iff.2 ⟨h1,hv⟩⟩⟩
     · obtain ⟨h0,h1,h⟩:=h
       exact ⟨_,h,fun _ hv=>⟨h0,h1,hv⟩⟩
     · exact h.elim
   · exact h.elim
 · split at h
   · obtain ⟨h0,h1,h⟩:=h
     split at h
     · rename_i hs
       obtain ⟨h2,h⟩:=Chk_iff.1 h
       exact ⟨_,h,fun _ hv=>⟨h0,h1,Chk_iff.2 ⟨h2,hv⟩⟩⟩
     · exact h.elim
   · obtain ⟨h0,h1,h⟩:=h
     split at h
     · rename_i hs
       obtain ⟨h2,h⟩:=Chk_iff.1 h
       exact ⟨_,h,fun _ hv=>⟨h0,h1,Chk_iff.2 ⟨h2,hv⟩⟩⟩
     · exact h.elim
   · obtain ⟨h0,es,row,size,h1,h2,h3,h4,h⟩:=h
     exact ⟨_,h,fun _ hv=>⟨h0,es,row,size,h1,h2,h3,h4,hv⟩⟩
 · exact h.elim
omit [Lam] in
theorem aIndex_det {τ t x i} {K:V→Prop} (h:aIndex τ t x i K):∃ v,K v∧∀ K':V→Prop,K' v→aIndex τ t x i K':=by
 unfold aIndex at h ⊢
 split at h
 · obtain ⟨h0,b,h1,h⟩:=h
   exact ⟨_,h,fun _ hv=>⟨h0,b,h1,hv⟩⟩
 · split at h
   · obtain ⟨h0,h1,y,h2,h⟩:=h
     exact ⟨_,h,fun _ hv=>⟨h0,h1,y,h2,hv⟩⟩
   · exact h.elim
 · exact h.elim
omit [Lam] in
theorem aBound_det {x y} {K:Nat→Prop} (h:aBound x y K):∃ v,K v∧∀ K':Nat→Prop,K' v→aBound x y K':=by
 unfold aBound at h ⊢
 split at h
 · exact ⟨_,h.2.2,fun _ hv=>⟨h.1,h.2.1,hv⟩⟩
 · exact h.elim
omit [Lam] in
theorem aLow_det {lo n} {K:Nat→Nat→Prop} (h:aLow lo n K):∃ l,K l n∧∀ K':Nat→Nat→Prop,K' l n→aLow lo n K':=by
 unfold aLow at h ⊢
 cases lo with
 | none=>exact ⟨_,h,fun _ hv=>hv⟩
 | some x =>
   obtain ⟨l,h1,h2⟩:=aBound_det h
   exact ⟨l,h1,fun _ hv=>h2 _ hv⟩
omit [Lam] in
theorem aRange_det {lo hi n} {K:Nat→Nat→Prop} (h:aRange lo hi n K):∃ l m,K l m∧∀ K':Nat→Nat→Prop,K' l m→aRange lo hi n K':=by
 unfold aRange at h ⊢
 cases hi with
 | none=>obtain ⟨l,h1,h2⟩:=aLow_det h; exact ⟨l,_,h1,h2⟩
 | some x =>
   obtain ⟨m,h1,h2⟩:=aBound_det h
   obtain ⟨l,h3,h4⟩:=aLow_det h1
   exact ⟨l,m,h3,fun _ hv=>h2 _ (h4 _ hv)⟩
omit [Lam] in
theorem aSlice_det {τ t x lo hi st} {K:V→St→Prop} (h:aSlice τ t x lo hi st K):∃ v st',K v st'∧∀ K':V→St→Prop,K' v st'→aSlice τ t x lo hi st K':=by
 have lowD:∀ {lo n c b s} {C:V→Prop},aLowD lo n c b s C→∃ v,C v∧∀ C':V→Prop,C' v→aLowD lo n c b s C':=by
  intro lo n c b s C h
  unfold aLowD at h ⊢
  cases lo with
  | none=>exact ⟨_,h,fun _ h=>h⟩
  | some l =>
    obtain ⟨k,h1,h2⟩:=aBound_det h
    by_cases e:k=c
    · exact ⟨_,h1.1 e,fun _ hv=>h2 _ ⟨fun _=>hv,fun h=>absurd e h⟩⟩
    · exact ⟨_,h1.2 e,fun _ hv=>h2 _ ⟨fun h=>absurd h e,fun _=>hv⟩⟩
 unfold aSlice at h ⊢
 split at h
 · obtain ⟨l,m,h1,h2⟩:=aRange_det h
   exact ⟨_,_,h1,fun _ hv=>h2 _ hv⟩
 · split at h
   · obtain ⟨h0,h⟩:=h
     cases hi with
     | none =>
       obtain ⟨v,h1,h2⟩:=lowD h
       exact ⟨v,st,h1,fun _ hv=>⟨h0,h2 _ hv⟩⟩
     | some x =>
       obtain ⟨k,h1,h2⟩:=aBound_det h
       obtain ⟨v,h3,h4⟩:=lowD h1
       exact ⟨v,st,h3,fun _ hv=>⟨h0,h2 _ (h4 _ hv)⟩⟩
   · exact h.elim
 · split at h
   · obtain ⟨l,m,h1,h2⟩:=aRange_det h
     obtain ⟨h3,h1⟩:=Chk_iff.1 h1
     exact ⟨_,_,h1,fun _ hv=>h2 _ (Chk_iff.2 ⟨h3,hv⟩)⟩
   · exact h.elim
 · split at h
   · rename_i es size he hs
     obtain ⟨h0,h⟩:=h
     obtain ⟨l,m,h1,h2⟩:=aRange_det h
     exact ⟨_,_,h1,fun _ hv=>⟨h0,h2 _ hv⟩⟩
   · exact h.elim
 · exact h.elim
omit [Lam] in
theorem aLen_det {τ t x st} {K:V→Prop} (h:aLen τ t x st K):∃ v,K v∧∀ K':V→Prop,K' v→aLen τ t x st K':=by
 unfold aLen at h ⊢
 split at h
 · exact ⟨_,h,fun _ hv=>hv⟩
 · split at h
   · exact ⟨_,h,fun _ hv=>hv⟩
   · exact ⟨_,h,fun _ hv=>hv⟩
   split at h
   · rename_i hes; exact ⟨_,h,fun _ hv=>hv⟩
   · exact h.elim
 · split at h
   · obtain ⟨h1,h⟩:=Chk_iff.1 h
     exact ⟨_,h,fun _ hv=>Chk_iff.2 ⟨h1,hv⟩⟩
   · exact h.elim
 · exact h.elim
omit [Lam] in
theorem aLookup_det {τ t m k c st} {K:V→Prop} (h:aLookup τ t m k c st K):∃ v,K v∧∀ K':V→Prop,K' v→aLookup τ t m k c st K':=by
 unfold aLookup at h ⊢
 split at h
 · split at h
   · obtain ⟨h1,h⟩:=Chk_iff.1 h
     rw [AtKey_iff] at h
     split at h
     · rename_i v hv; exact ⟨_,h,fun _ hk=>Chk_iff.2 ⟨h1,AtKey_iff.2 (by rw [hv]; exact hk)⟩⟩
     · rename_i hv; exact ⟨_,h,fun _ hk=>Chk_iff.2 ⟨h1,AtKey_iff.2 (by rw [hv]; exact hk)⟩⟩
   · exact h.elim
 · exact h.elim
omit [Lam] in
theorem aMakeIface_det {τ t x} {K:V→Prop} (h:aMakeIface τ t x K):∃ v,K v∧∀ K':V→Prop,K' v→aMakeIface τ t x K':=by
 unfold aMakeIface at h ⊢
 split at h
 · exact h.elim
 · exact ⟨_,h,fun _ hk=>hk⟩
 · exact h.elim
omit [Lam] in
theorem aAssert_det {τ t c x} {K:V→Prop} (h:aAssert τ t c x K):∃ v,K v∧∀ K':V→Prop,K' v→aAssert τ t c x K':=by
 unfold aAssert at h ⊢
 split at h
 · split at h
   · exact h.elim
   · split at h
     · split at h
       · exact ⟨_,h,fun _ hk=>hk⟩
       · obtain ⟨h1,h⟩:=Chk_iff.1 h
         exact ⟨_,h,fun _ hk=>Chk_iff.2 ⟨h1,hk⟩⟩
     · obtain ⟨h1,h⟩:=Chk_iff.1 h
       exact ⟨_,h,fun _ hk=>Chk_iff.2 ⟨h1,hk⟩⟩
     · exact h.elim
 · exact h.elim
omit [Lam] in
theorem aBuildGo_det {fs:List (Nat × Nat × Bool)}:∀ (parts:List (Nat × V)) (cs:List V) {K:V→Prop},aBuild.go fs parts cs K→∃ v,K v∧∀ K':V→Prop,K' v→aBuild.go fs parts cs K'
 | [],cs,K,h=>⟨_,h,fun _ hk=>hk⟩
 | (i,v)::rest,cs,K,h=>by
   simp only [aBuild.go] at h ⊢
   split at h
   · rename_i off size b hf
     simp only [Chk_iff] at h ⊢
     obtain ⟨h1,h2,h3,h⟩:=h
     obtain ⟨v,q1,q2⟩:=aBuildGo_det rest _ h
     exact ⟨v,q1,fun K' hk=>⟨h1,h2,h3,q2 K' hk⟩⟩
   · exact h.elim
omit [Lam] in
theorem aBuild_det {τ t parts} {K:V→Prop} (h:aBuild τ t parts K):∃ v,K v∧∀ K':V→Prop,K' v→aBuild τ t parts K':=by
 unfold aBuild at h ⊢
 split at h
 · simp only [Chk_iff] at h ⊢
   obtain ⟨h1,h2,h⟩:=h
   split at h
   · obtain ⟨v,q1,q2⟩:=aBuildGo_det _ _ h
     exact ⟨v,q1,fun K' hk=>⟨h1,h2,q2 K' hk⟩⟩
   · exact h.elim
 · exact h.elim
omit [Lam] in
theorem aConvert_det {τ:Tau} {src dst:TypeId} {x:V} {st:St} {K:V→St→Prop} (h:aConvert τ src dst x st K):∃ v st',K v st'∧∀ K':V→St→Prop,K' v st'→aConvert τ src dst x st K':=by
 unfold aConvert at h ⊢
 split at h
 · exact ⟨_,_,h,fun _ hk=>hk⟩
 · exact ⟨_,_,h,fun _ hk=>hk⟩
 · obtain ⟨h1,h⟩:=Chk_iff.1 h
   obtain ⟨h2,h3,h⟩:=Chk_iff.1 h
   rw [lenK0] at h
   exact ⟨_,_,h,fun _ hk=>Chk_iff.2 ⟨h1,Chk_iff.2 ⟨h2,h3,by rw [lenK0]; exact hk⟩⟩⟩
 · obtain ⟨h1,h⟩:=Chk_iff.1 h
   split at h
   · obtain ⟨bs,h2,h⟩:=h
     exact ⟨_,_,h,fun _ hk=>Chk_iff.2 ⟨h1,bs,h2,hk⟩⟩
   · exact h.elim
 · exact h.elim
theorem aOp_det {P:Program} {ok:OkY} {τ:Tau} {o:Oper} {fr:Nat→V} {st:St} {K Z:V→St→Prop} (hq:quietOp o.op=true) (hc:isCall o.op=false) (ha:aOp P ok τ o fr st K Z):∃ v st',K v st'∧(isSlice o.op=false→st'=st)∧∀ (ok':OkY) (K' Z':V→St→Prop),K' v st'→aOp P ok' τ o fr st K' Z':=by
 unfold aOp at ha ⊢
 cases ho:o.op <;> rw [ho] at ha hq hc <;> (try rw [ho]) <;> simp only [quietOp,isCall,Bool.false_eq_true] at hq hc ha ⊢
 case move x=>exact ⟨_,_,ha,fun _=>rfl,fun _ _ _ hv=>hv⟩
 case assign x=>exact ⟨_,_,ha,fun _=>rfl,fun _ _ _ hv=>hv⟩
 case pick c a b =>
  split at ha
  · exact ⟨_,_,ha,fun _=>rfl,fun _ _ _ hv=>hv⟩
  · exact ha.elim
 case load t x=>obtain ⟨v,h1,h2⟩:=aLoad_det ha; exact ⟨v,st,h1,fun _=>rfl,fun _ _ _ hv=>h2 _ hv⟩
 case lookup t m k c=>obtain ⟨v,h1,h2⟩:=aLookup_det ha; exact ⟨v,st,h1,fun _=>rfl,fun _ _ _ hv=>h2 _ hv⟩
 case makeInterface t x=>obtain ⟨v,h1,h2⟩:=aMakeIface_det ha; exact ⟨v,st,h1,fun _=>rfl,fun _ _ _ hv=>h2 _ hv⟩
 case typeAssert x t t' c=>obtain ⟨v,h1,h2⟩:=aAssert_det ha; exact ⟨v,st,h1,fun _=>rfl,fun _ _ _ hv=>h2 _ hv⟩
 case nilCheck x =>
  split at ha
  · exact ⟨_,_,ha,fun _=>rfl,fun _ _ _ hv=>hv⟩
  · exact ⟨_,_,ha,fun _=>rfl,fun _ _ _ hv=>hv⟩
  · exact ⟨_,_,ha,fun _=>rfl,fun _ _ _ hv=>hv⟩
  · exact ⟨_,_,ha,fun _=>rfl,fun _ _ _ hv=>hv⟩
  · exact ⟨_,_,ha,fun _=>rfl,fun _ _ _ hv=>hv⟩
  · exact ⟨_,_,ha,fun _=>rfl,fun _ _ _ hv=>hv⟩
  · exact ha.elim
 case binOp op t x y yt=>obtain ⟨v,h1,h2⟩:=aBin_det ha; exact ⟨v,st,h1,fun _=>rfl,fun _ _ _ hv=>h2 _ hv⟩
 case build t parts=>obtain ⟨v,h1,h2⟩:=aBuild_det ha; exact ⟨v,st,h1,fun _=>rfl,fun _ _ _ hv=>h2 _ hv⟩
 case unOp op t x=>obtain ⟨v,h1,h2⟩:=aUn_det ha; exact ⟨v,st,h1,fun _=>rfl,fun _ _ _ hv=>h2 _ hv⟩
 case slice t x lo hi mx =>
  cases mx with
  | some=>cases hq
  | none =>
    obtain ⟨v,st',h1,h2⟩:=aSlice_det ha
    exact ⟨v,st',h1,(fun h=>by simp [isSlice] at h),fun _ _ _ hv=>h2 _ hv⟩
 case convert s t x =>
  obtain ⟨v,st',h1,h2⟩:=aConvert_det ha
  exact ⟨v,st',h1,(fun h=>by simp [isSlice] at h),fun _ _ _ hv=>h2 _ hv⟩
 case fieldAddr s x f=>obtain ⟨v,h1,h2⟩:=aFieldAddr_det ha; exact ⟨v,st,h1,fun _=>rfl,fun _ _ _ hv=>h2 _ hv⟩
 case field s x f=>obtain ⟨v,h1,h2⟩:=aField_det ha; exact ⟨v,st,h1,fun _=>rfl,fun _ _ _ hv=>h2 _ hv⟩
 case indexAddr s x f=>obtain ⟨v,h1,h2⟩:=aIndexAddr_det ha; exact ⟨v,st,h1,fun _=>rfl,fun _ _ _ hv=>h2 _ hv⟩
 case index s x f=>obtain ⟨v,h1,h2⟩:=aIndex_det ha; exact ⟨v,st,h1,fun _=>rfl,fun _ _ _ hv=>h2 _ hv⟩
 case extract x i =>
  split at ha
  · split at ha
    · exact ⟨_,_,ha,fun _=>rfl,fun _ _ _ hv=>hv⟩
    · exact ha.elim
  · exact ha.elim
 case call c =>
  obtain ⟨callee,args,ats⟩:=c
  cases callee with
  | value f=>cases hc
  | invoke r m=>cases hq
  | builtin b =>
    cases b <;> simp only [Bool.false_eq_true] at hq
    simp only at ha ⊢
    split at ha
    · obtain ⟨v,h1,h2⟩:=aLen_det ha; exact ⟨v,st,h1,fun _=>rfl,fun _ _ _ hv=>h2 _ hv⟩
    · exact ha.elim
end Go.Cod
namespace Go.Cod
open Go
variable [Lam]
def dstOf (ops:Array Oper) (i:Nat):Option Nat:=(ops[i]?).bind (·.dst)
def frS (ops:Array Oper) (vs:Nat→V) (fr0:Nat→V) (L:Nat→Bool):Nat→V:=fun t =>
 match (List.range ops.size).find? (fun j=>L j&&decide (dstOf ops j=some t)) with
 | some j=>vs j
 | none=>fr0 t
def Uniq (ops:Array Oper):Prop:=∀ i j t,i < ops.size→j < ops.size→dstOf ops i=some t→dstOf ops j=some t→i=j
omit [Lam] in
theorem frS_hit {ops vs fr0 L} (U:Uniq ops) {j t:Nat} (hj:j < ops.size) (hL:L j=true) (hd:dstOf ops j=some t):frS ops vs fr0 L t=vs j:=by
 unfold frS
 cases hf:(List.range ops.size).find? (fun j=>L j&&decide (dstOf ops j=some t)) with
 | none =>
   have:=List.find?_eq_none.1 hf j (by simpa using hj)
   simp [hL,hd] at this
 | some k =>
   have h1:=List.find?_some hf
   have h2:=List.mem_of_find?_eq_some hf
   simp at h1 h2
   rw [U k j t h2 hj h1.2 hd]
omit [Lam] in
theorem frS_miss {ops vs fr0 L} {t:Nat} (h:∀ j,j < ops.size→L j=true→dstOf ops j≠some t):frS ops vs fr0 L t=fr0 t:=by
 unfold frS
 cases hf:(List.range ops.size).find? (fun j=>L j&&decide (dstOf ops j=some t)) with
 | none=>rfl
 | some k =>
   have h1:=List.find?_some hf
   have h2:=List.mem_of_find?_eq_some hf
   simp at h1 h2
   exact absurd h1.2 (h k h2 h1.1)
omit [Lam] in
theorem frS_congr {ops vs vs' fr0 L L'} (h:∀ j,j < ops.size→L j=L' j) (hv:∀ j,j < ops.size→L j=true→vs j=vs' j):frS ops vs fr0 L=frS ops vs' fr0 L':=by
 funext t
 unfold frS
 have e:(List.range ops.size).find? (fun j=>L j&&decide (dstOf ops j=some t))=(List.range ops.size).find? (fun j=>L' j&&decide (dstOf ops j=some t)):=by
  have key:∀ (l:List Nat) (p q:Nat→Bool),(∀ x∈l,p x=q x)→l.find? p=l.find? q:=by
   intro l p q hl
   induction l with
   | nil=>rfl
   | cons x l ih=>rw [List.find?_cons,List.find?_cons,hl x (by simp),ih fun y hy=>hl y (by simp [hy])]
  exact key _ _ _ fun x hx=>by rw [h x (by simpa using hx)]
 rw [← e]
 cases hf:(List.range ops.size).find? (fun j=>L j&&decide (dstOf ops j=some t)) with
 | none=>rfl
 | some k =>
   have h1:=List.find?_some hf
   have h2:=List.mem_of_find?_eq_some hf
   simp at h1 h2
   exact hv k h2 h1.1
omit [Lam] in
theorem frS_put {ops vs fr0 L L'} (U:Uniq ops) {i:Nat} (hi:i < ops.size) (hL:∀ j,j < ops.size→L' j=(L j||j == i)):put (frS ops vs fr0 L) (dstOf ops i) (vs i)=frS ops vs fr0 L':=by
 funext t
 by_cases hd:dstOf ops i=some t
 · rw [hd,frS_hit U hi (by rw [hL i hi]; simp) hd]
   simp [put]
 · have e1:put (frS ops vs fr0 L) (dstOf ops i) (vs i) t=frS ops vs fr0 L t:=by
    cases h:dstOf ops i with
    | none=>rfl
    | some d =>
      have:t≠d:=by rintro rfl; exact hd h
      simp [put,upd_ne _ _ this]
   rw [e1]
   by_cases hex:∃ j,j < ops.size∧L j=true∧dstOf ops j=some t
   · obtain ⟨j,h1,h2,h3⟩:=hex
     rw [frS_hit U h1 h2 h3,frS_hit U h1 (by rw [hL j h1,h2]; rfl) h3]
   · rw [frS_miss (fun j h1 h2 h3=>hex ⟨j,h1,h2,h3⟩),frS_miss (fun j h1 h2 h3=>?_)]
     rw [hL j h1] at h2
     by_cases e:j=i
     · subst e; exact hd h3
     · simp [e] at h2; exact hex ⟨j,h1,h2,h3⟩
theorem X.put {P ok E w0 mod γ0 Pr0 C0 nt ρ Pr γ C fr st a w} (H:X P ok E w0 mod γ0 Pr0 C0 nt ρ Pr γ C fr st a w) (d:Option Nat) (hd:∀ x,d=some x→x < nt) {x:V} {v:Value} (hv:Rep Pr γ w x v):X P ok E w0 mod γ0 Pr0 C0 nt ρ Pr γ C (Cod.put fr d x) st (a.put d v) w :=
 ⟨H.mine,by cases d <;> exact H.ext,H.fr.put d hd hv,H.st,H.base⟩
section
variable {P:Program} {τ:Tau}
def QDet (P:Program) (τ:Tau) (st:St) (o:Oper) (fr:Nat→V) (v:V):Prop:=∀ K':V→Prop,K' v→aQOp P τ o fr st K'
theorem aQOp_det {o:Oper} {fr:Nat→V} {st:St} {K:V→Prop} (hq:quietOp o.op=true) (h:aQOp P τ o fr st K):∃ v,K v∧QDet P τ st o fr v:=by
 unfold QDet aQOp
 unfold aQOp at h
 split at h
 · rename_i f args ats ho
   split at h
   · rename_i g cap hc
     obtain ⟨h1,r,h3,h4⟩:=Chk_iff.1 h
     exact ⟨r,h4,fun K' hk=>Chk_iff.2 ⟨h1,r,h3,hk⟩⟩
   · exact h.elim
 · rename_i hno
   have hc:isCall o.op=false:=by
    unfold isCall
    split
    · rename_i f args ats ho; exact absurd ho (hno f args ats)
    · rfl
   cases hs:isSlice o.op with
   | true =>
     rw [hs] at h
     obtain ⟨v,st',⟨rfl,hk⟩,_,hall⟩:=aOp_det hq hc h
     exact ⟨v,hk,fun K' hk'=>hall _ _ _ ⟨rfl,hk'⟩⟩
   | false =>
     rw [hs] at h
     obtain ⟨v,st',hk,_,hall⟩:=aOp_det hq hc h
     exact ⟨v,hk,fun K' hk'=>hall _ _ _ hk'⟩
theorem aQOp_aOp {o:Oper} {fr:Nat→V} {st:St} {K:V→Prop} (hq:quietOp o.op=true) (h:aQOp P τ o fr st K) (ok:OkY):aOp P ok τ o fr st (fun v st'=>st'=st∧K v) (fun _ _=>False):=by
 unfold aQOp at h
 split at h
 · rename_i f args ats ho
   unfold aOp
   rw [ho]
   simp only
   split at h
   · rename_i g cap hc
     obtain ⟨h1,r,h3,h4⟩:=Chk_iff.1 h
     rw [Bool.and_eq_true] at h1
     obtain ⟨h0,h1⟩:=h1
     have h0:(isName f&&Lam.ext g)=false:=by
      cases e:(isName f&&Lam.ext g)
      · rfl
      · rw [e] at h0; cases h0
     rw [hc]
     simp only [h0]
     unfold ACall
     rw [h1]
     rcases h3 with h3 | ⟨es,vs',q1,q2,q3,q4⟩
     · exact .inl (h3.mono fun r' e=>by rw [e]; exact ⟨rfl,h4⟩)
     · exact .inr (.inr ⟨es,vs',q1,q2,q3,q4.mono fun r' e=>⟨e.1,by rw [e.2]; exact ⟨rfl,h4⟩⟩⟩)
   · exact h.elim
 · rename_i hno
   have hc:isCall o.op=false:=by
    unfold isCall
    split
    · rename_i f args ats ho; exact absurd ho (hno f args ats)
    · rfl
   cases hs:isSlice o.op with
   | true =>
     rw [hs] at h
     obtain ⟨v,st',⟨rfl,hk⟩,_,hall⟩:=aOp_det hq hc h
     exact hall _ _ _ ⟨rfl,hk⟩
   | false =>
     rw [hs] at h
     obtain ⟨v,st',hk,he,hall⟩:=aOp_det hq hc h
     have he:=he hs
     subst he
     exact hall _ _ _ ⟨rfl,hk⟩
def Yields' (P:Program) (τ:Tau) (ops:Array Oper) (st:St) (o:Oper) (fr:Nat→V) (v:V):Prop :=
 match o.guard with
 | none=>QDet P τ st o fr v
 | some (j,want)=>∃ d,dstOf ops j=some d∧((∃ b,fr d=.bool b∧(b=want→QDet P τ st o fr v)∧(b≠want→v=undefV))∨∃ xs,fr d=.raw (.tuple xs)∧v=undefV)
theorem QDet.congr {st:St} {o:Oper} {fr fr':Nat→V} {v:V} (h:∀ x∈o.op.operands,ev fr x=ev fr' x) (hq:QDet P τ st o fr v):QDet P τ st o fr' v :=
 fun K' hk=>aQOp_congr h (hq K' hk)
omit [Lam] in
theorem looks_ev {ops:Array Oper} {o:Oper} {fr fr':Nat→V} (h:∀ t∈o.looksAt ops,fr t=fr' t):∀ x∈o.op.operands,ev fr x=ev fr' x:=by
 intro x hx
 refine ev_congr fun t ht=>h t ?_
 subst ht
 unfold Oper.looksAt
 refine List.mem_append_left _ (List.mem_filterMap.2 ⟨.tmp t,by simpa using hx,rfl⟩)
theorem Yields'.congr {ops:Array Oper} {st:St} {o:Oper} {fr fr':Nat→V} {v:V} (h:∀ t∈o.looksAt ops,fr t=fr' t) (hy:Yields' P τ ops st o fr v):Yields' P τ ops st o fr' v:=by
 unfold Yields' at hy ⊢
 cases hg:o.guard with
 | none=>rw [hg] at hy; exact hy.congr (looks_ev h)
 | some q =>
   obtain ⟨j,want⟩:=q
   rw [hg] at hy
   obtain ⟨d,h1,hy⟩:=hy
   have hd:fr d=fr' d:=h d (by
    unfold Oper.looksAt
    rw [hg]
    refine List.mem_append_right _ ?_
    unfold dstOf at h1
    simp [h1])
   rcases hy with ⟨b,h2,h3,h4⟩ | ⟨xs,h2,h4⟩
   · exact ⟨d,h1,.inl ⟨b,by rw [← hd,h2],fun e=>(h3 e).congr (looks_ev h),h4⟩⟩
   · exact ⟨d,h1,.inr ⟨xs,by rw [← hd,h2],h4⟩⟩
theorem qrun {ops:Array Oper} {st:St} {fr0:Nat→V} {K:(Nat→V)→Prop} (U:Uniq ops) (hq:∀ (i:Nat) o,ops[i]? = some o→quietOp o.op=true) :
  ∀ (l:List Oper) (k:Nat) (vs:Nat→V),(∀ j:Nat,l[j]? = ops[k+j]?)→k+l.length=ops.size→aQOps P τ ops l (frS ops vs fr0 fun j=>decide (j < k)) st K →
  ∃ vs',(∀ j,j < k→vs' j=vs j)∧(∀ (i:Nat) o,k≤i→ops[i]? = some o→Yields' P τ ops st o (frS ops vs' fr0 fun j=>decide (j < i)) (vs' i))∧K (frS ops vs' fr0 fun j=>decide (j < ops.size))
 | [],k,vs,_,hk,h=>by
   simp at hk
   subst hk
   exact ⟨vs,fun _ _=>rfl,fun i o hi ho=>by have:=(Array.getElem?_eq_some_iff.1 ho).1; omega,h⟩
 | o::l,k,vs,hl,hk,h=>by
   have ho:ops[k]? = some o:=by have:=hl 0; simpa using this.symm
   have hkn:k < ops.size:=(Array.getElem?_eq_some_iff.1 ho).1
   have hdst:dstOf ops k=o.dst:=by simp [dstOf,ho]
   simp only [List.length_cons] at hk
   have next:∀ v,aQOps P τ ops l (put (frS ops vs fr0 fun j=>decide (j < k)) o.dst v) st K→Yields' P τ ops st o (frS ops vs fr0 fun j=>decide (j < k)) v →
     ∃ vs',(∀ j,j < k→vs' j=vs j)∧(∀ (i:Nat) o,k≤i→ops[i]? = some o→Yields' P τ ops st o (frS ops vs' fr0 fun j=>decide (j < i)) (vs' i))∧K (frS ops vs' fr0 fun j=>decide (j < ops.size)):=by
    intro v hv hy
    let vs1:Nat→V:=fun j=>if j=k then v else vs j
    have e0:(frS ops vs fr0 fun j=>decide (j < k))=frS ops vs1 fr0 fun j=>decide (j < k):=frS_congr (fun _ _=>rfl) fun j _ hj=>by
     simp at hj; simp [vs1]; omega
    have e1:put (frS ops vs fr0 fun j=>decide (j < k)) o.dst v=frS ops vs1 fr0 fun j=>decide (j < k+1):=by
     rw [e0,← hdst]
     have:=frS_put (vs:=vs1) (fr0:=fr0) (L:=fun j=>decide (j < k)) (L':=fun j=>decide (j < k+1)) U hkn (fun j _=>by
      by_cases e:j=k
      · subst e; simp
      · have h1:(j == k)=false:=by simpa using e
        rw [h1,Bool.or_false]
        exact decide_eq_decide.2 (by omega))
     rw [← this]
     simp [vs1]
    rw [e1] at hv
    obtain ⟨vs',q1,q2,q3⟩:=qrun U hq l (k+1) vs1 (fun j=>by have:=hl (j+1); simpa [Nat.add_assoc,Nat.add_comm 1 j] using this) (by omega) hv
    refine ⟨vs',fun j hj=>by rw [q1 j (by omega)]; simp [vs1]; omega,fun i o' hi ho'=>?_,q3⟩
    by_cases e:i=k
    · subst e
      rw [ho] at ho'; cases ho'
      have ev':vs' i=v:=by rw [q1 i (by omega)]; simp [vs1]
      rw [ev']
      have e2:(frS ops vs fr0 fun j=>decide (j < i))=frS ops vs' fr0 fun j=>decide (j < i):=frS_congr (fun _ _=>rfl) fun j _ hj=>by
       simp at hj
       rw [q1 j (by omega)]; simp [vs1]; omega
      rw [← e2]; exact hy
    · exact q2 i o' (by omega) ho'
   simp only [aQOps_cons] at h
   split at h
   · rename_i hg
     obtain ⟨v,h1,h2⟩:=aQOp_det (hq k o ho) h
     rw [force_eq] at h1
     exact next v h1 (by unfold Yields'; rw [hg]; exact h2)
   · rename_i j want hg
     split at h
     · rename_i d hd
       split at h
       · rename_i b hb
         cases b <;> cases want <;> simp only [BC,negB,if_true,if_false,Bool.false_eq_true] at h
         · obtain ⟨v,h1,h2⟩:=aQOp_det (hq k o ho) h
           rw [force_eq] at h1
           exact next v h1 (by unfold Yields'; rw [hg]; exact ⟨d,hd,.inl ⟨_,hb,fun _=>h2,fun e=>absurd rfl e⟩⟩)
         · exact next undefV h (by unfold Yields'; rw [hg]; exact ⟨d,hd,.inl ⟨_,hb,(fun e=>by cases e),fun _=>rfl⟩⟩)
         · exact next undefV h (by unfold Yields'; rw [hg]; exact ⟨d,hd,.inl ⟨_,hb,(fun e=>by cases e),fun _=>rfl⟩⟩)
         · obtain ⟨v,h1,h2⟩:=aQOp_det (hq k o ho) h
           rw [force_eq] at h1
           exact next v h1 (by unfold Yields'; rw [hg]; exact ⟨d,hd,.inl ⟨_,hb,fun _=>h2,fun e=>absurd rfl e⟩⟩)
       · rename_i xs hb
         exact next undefV h (by unfold Yields'; rw [hg]; exact ⟨d,hd,.inr ⟨xs,hb,rfl⟩⟩)
       · exact h.elim
     · exact h.elim
omit [Lam] in
theorem reach_closed {ops:Array Oper} {L:Nat→Prop} (hL:∀ i o,ops[i]? = some o→L i→∀ e∈o.after,Region.binds .any e=true→L e.on):∀ (n i j:Nat) (o:Oper),ops[i]? = some o→(∀ e∈o.after,Region.binds .any e=true→L e.on)→reach ops n i j=true→L j
 | 0,i,j,o,_,_,h=>by simp [reach] at h
 | n+1,i,j,o,ho,hi,h=>by
   simp only [reach,ho,List.any_eq_true,Bool.and_eq_true,Bool.or_eq_true] at h
   obtain ⟨e,he,hb,hj⟩:=h
   have he':e∈o.after:=by simpa using he
   have hLe:=hi e he' hb
   rcases hj with hj | hj
   · have:e.on=j:=by simpa using hj
     rw [← this]; exact hLe
   · cases ho':ops[e.on]? with
     | none=>cases n <;> simp [reach,ho'] at hj
     | some o'=>exact reach_closed hL n e.on j o' ho' (hL _ o' ho' hLe) hj
structure OrderOk (ops:Array Oper):Prop where
 quiet:∀ (i:Nat) o,ops[i]? = some o→quietOp o.op=true
 back:∀ (i:Nat) o,ops[i]? = some o→∀ e∈o.after,Region.binds .any e=true→e.on < i
 uniq:Uniq ops
 look:∀ (i:Nat) o,ops[i]? = some o→∀ j t,j < ops.size→dstOf ops j=some t→t∈o.looksAt ops→(j < i∧reach ops ops.size i j=true)∨(i < j∧reach ops ops.size j i=true)
omit [Lam] in
theorem orderOk_spec {ops:Array Oper} (h:orderOk ops=true):OrderOk ops:=by
 unfold orderOk at h
 simp only [List.all_eq_true,List.mem_range] at h
 have H:∀ (i:Nat) o,ops[i]? = some o→quietOp o.op=true∧(∀ e∈o.after,Region.binds .any e=true→e.on < i) ∧
   (∀ j,j < ops.size→(i=j∨dstOf ops i=none∨dstOf ops i≠dstOf ops j)∧(∀ t,dstOf ops j=some t→t∈o.looksAt ops→(j < i∧reach ops ops.size i j=true)∨(i < j∧reach ops ops.size j i=true))):=by
  intro i o ho
  have hi:i < ops.size:=(Array.getElem?_eq_some_iff.1 ho).1
  have:=h i hi
  rw [ho] at this
  simp only [Bool.and_eq_true,List.all_eq_true,List.mem_range,Bool.or_eq_true] at this
  obtain ⟨⟨h1,h2⟩,h3⟩:=this
  refine ⟨h1,fun e he hb=>?_,fun j hj=>?_⟩
  · have:=h2 e (by simpa using he)
    simp [hb] at this
    exact this
  · obtain ⟨a,b⟩:=h3 j hj
    refine ⟨?_,fun t ht hm=>?_⟩
    · rcases a with (a | a) | a
      · exact .inl (by simpa using a)
      · exact .inr (.inl (by unfold dstOf; rw [ho]; simpa using a))
      · refine .inr (.inr fun e=>?_)
        unfold dstOf at e
        rw [← ho,e] at a
        simp at a
    · unfold dstOf at ht
      rw [ht] at b
      simp only [Bool.or_eq_true,Bool.not_eq_true',Bool.and_eq_true,decide_eq_true_eq] at b
      rcases b with (b | b) | b
      · have:(o.looksAt ops).contains t=true:=by simpa using hm
        rw [this] at b; cases b
      · exact .inl b
      · exact .inr b
 refine ⟨fun i o ho=>(H i o ho).1,fun i o ho=>(H i o ho).2.1,fun i j t hi hj h1 h2=>?_,fun i o ho j t hj h1 h2=>((H i o ho).2.2 j hj).2 t h1 h2⟩
 rcases ((H i ops[i] (by simp [hi])).2.2 j hj).1 with e | e | e
 · exact e
 · rw [e] at h1; cases h1
 · rw [h1,h2] at e; exact absurd rfl e
omit [Lam] in
theorem filter_lt {p q:Nat→Bool}:∀ (l:List Nat),(∀ x∈l,q x=true→p x=true)→(∃ x∈l,p x=true∧q x=false)→(l.filter q).length < (l.filter p).length
 | [],_,h=>by obtain ⟨x,hx,_⟩:=h; simp at hx
 | x::l,h1,h2=>by
   have mono:∀ (l:List Nat),(∀ x∈l,q x=true→p x=true)→(l.filter q).length≤(l.filter p).length:=by
    intro l hl
    induction l with
    | nil=>simp
    | cons y l ih =>
      have:=ih fun z hz=>hl z (by simp [hz])
      simp only [List.filter_cons]
      cases hq:q y
      · cases hp:p y <;> simp <;> omega
      · rw [hl y (by simp) hq]; simp; omega
   have hm:=mono l fun y hy=>h1 y (by simp [hy])
   simp only [List.filter_cons]
   obtain ⟨y,hy,hp,hq⟩:=h2
   rcases List.mem_cons.1 hy with rfl | hy
   · rw [hp,hq]; simp; omega
   · have:=filter_lt l (fun z hz=>h1 z (by simp [hz])) ⟨y,hy,hp,hq⟩
     cases hqx:q x
     · cases hpx:p x <;> simp <;> omega
     · rw [h1 x (by simp) hqx]; simp; omega
variable {ok:OkY} {E:Env P ok} {w0:World} {mod:Nat→Prop} {γ0:List G} {Pr0:Nat→Nat→Prop} {C0:Nat→Prop} {nt:Nat} {ρ:Option Nat}
theorem draw_sound (hτ:TauGood P τ) {ops:Array Oper} (O:OrderOk ops) (hd:∀ (i:Nat) t,dstOf ops i=some t→t < nt) {st:St} {vs fr0:Nat→V} {Q:Exit→Act→World→Prop}
  (hy:∀ (i:Nat) o,ops[i]? = some o→Yields' P τ ops st o (frS ops vs fr0 fun j=>decide (j < i)) (vs i))
  (hQ:∀ a w Pr γ C,X P ok E w0 mod γ0 Pr0 C0 nt ρ Pr γ C (frS ops vs fr0 fun j=>decide (j < ops.size)) st a w→Q .normal a w) :
  ∀ (fuel:Nat) (listed:Array Bool) {Pr γ C a w},listed.size=ops.size→((List.range ops.size).filter fun i=>!listed.getD i false).length≤fuel →
    (∀ i o,ops[i]? = some o→listed.getD i false=true→∀ e∈o.after,Region.binds .any e=true→listed.getD e.on false=true) →
    X P ok E w0 mod γ0 Pr0 C0 nt ρ Pr γ C (frS ops vs fr0 fun j=>listed.getD j false) st a w→wpAnyIn (fen ρ) 0 P .any ops Q fuel listed a w:=by
 have both:∀ (listed:Array Bool) (i:Nat),listed.size=ops.size→i < ops.size→listed.getD i true=listed.getD i false:=by
  intro listed i hs hi
  simp [Array.getD,hs,hi]
 have finish:∀ (listed:Array Bool),listed.size=ops.size →
   (∀ i o,ops[i]? = some o→listed.getD i false=true→∀ e∈o.after,Region.binds .any e=true→listed.getD e.on false=true)→Region.ready .any ops listed=[]→∀ i,i < ops.size→listed.getD i false=true:=by
  intro listed hs _ hr i
  induction i using Nat.strongRecOn with
  | _ i ih =>
    intro hi
    cases hl:listed.getD i false with
    | true=>rfl
    | false =>
      have:i∈Region.ready .any ops listed:=mem_ready.2 ⟨by rw [both listed i hs hi]; exact hl,ops[i],by simp [hi],fun e he hb=>ih e.on (O.back i _ (by simp [hi]) e he hb) (Nat.lt_trans (O.back i _ (by simp [hi]) e he hb) hi)⟩
      rw [hr] at this; simp at this
 have done:∀ (listed:Array Bool) {Pr γ C a w},listed.size=ops.size→(∀ i,i < ops.size→listed.getD i false=true)→X P ok E w0 mod γ0 Pr0 C0 nt ρ Pr γ C (frS ops vs fr0 fun j=>listed.getD j false) st a w→Q .normal a w:=by
  intro listed Pr γ C a w hs hall A
  have e:(frS ops vs fr0 fun j=>listed.getD j false)=frS ops vs fr0 fun j=>decide (j < ops.size):=frS_congr (fun j hj=>by rw [hall j hj]; simp [hj]) fun _ _ _=>rfl
  rw [e] at A
  exact hQ a w Pr γ C A
 intro fuel
 induction fuel with
 | zero =>
   intro listed Pr γ C a w hs hc hcl A
   have hall:∀ i,i < ops.size→listed.getD i false=true:=by
    intro i hi
    cases hl:listed.getD i false with
    | true=>rfl
    | false =>
      have:i∈(List.range ops.size).filter fun i=>!listed.getD i false:=List.mem_filter.2 ⟨by simpa using hi,by rw [hl]; rfl⟩
      rw [List.length_eq_zero_iff.1 (Nat.le_zero.1 hc)] at this
      simp at this
   refine ⟨?_,done listed hs hall A⟩
   refine List.eq_nil_iff_forall_not_mem.2 fun i hi=>?_
   obtain ⟨h1,o,ho,_⟩:=mem_ready.1 hi
   have hi':i < ops.size:=(Array.getElem?_eq_some_iff.1 ho).1
   rw [both listed i hs hi',hall i hi'] at h1
   cases h1
 | succ fuel ih =>
   intro listed Pr γ C a w hs hc hcl A
   refine ⟨fun hr=>done listed hs (finish listed hs hcl hr) A,fun i hi=>?_⟩
   obtain ⟨h1,o,ho,h3⟩:=mem_ready.1 hi
   have hin:i < ops.size:=(Array.getElem?_eq_some_iff.1 ho).1
   rw [both listed i hs hin] at h1
   have hdst:dstOf ops i=o.dst:=by simp [dstOf,ho]
   have hag:∀ t∈o.looksAt ops,(frS ops vs fr0 fun j=>decide (j < i)) t=(frS ops vs fr0 fun j=>listed.getD j false) t:=by
    intro t ht
    by_cases hex:∃ j,j < ops.size∧dstOf ops j=some t
    · obtain ⟨j,hj,hjt⟩:=hex
      rcases O.look i o ho j t hj hjt ht with ⟨hlt,hre⟩ | ⟨hlt,hre⟩
      · have hLj:listed.getD j false=true:=reach_closed (L:=fun x=>listed.getD x false=true) (fun x o' ho' hx=>hcl x o' ho' hx) ops.size i j o ho h3 hre
        rw [frS_hit O.uniq hj (by simpa using hlt) hjt,frS_hit O.uniq hj hLj hjt]
      · have hLj:listed.getD j false=false:=by
         cases hl:listed.getD j false with
         | false=>rfl
         | true =>
           have:=reach_closed (L:=fun x=>listed.getD x false=true) (fun x o' ho' hx=>hcl x o' ho' hx) ops.size j i ops[j] (by simp [hj]) (fun e he hb=>hcl j ops[j] (by simp [hj]) hl e he hb) hre
           rw [h1] at this; cases this
        rw [frS_miss (fun k hk h2 h4=>?_),frS_miss (fun k hk h2 h4=>?_)]
        · have:=O.uniq k j t hk hj h4 hjt; subst this
          rw [hLj] at h2; cases h2
        · have:=O.uniq k j t hk hj h4 hjt; subst this
          simp at h2; omega
    · rw [frS_miss (fun k hk _ h4=>hex ⟨k,hk,h4⟩),frS_miss (fun k hk _ h4=>hex ⟨k,hk,h4⟩)]
   have hyi:=(hy i o ho).congr hag
   have next:∀ {Pr' γ' C' cv w'},X P ok E w0 mod γ0 Pr0 C0 nt ρ Pr' γ' C' (frS ops vs fr0 fun j=>listed.getD j false) st a w'→Rep Pr' γ' w' (vs i) cv→wpAnyIn (fen ρ) 0 P .any ops Q fuel (listed.setIfInBounds i true) (a.put o.dst cv) w':=by
    intro Pr' γ' C' cv w' A' hr
    have A2:=A'.put o.dst (fun t ht=>hd i t (by rw [hdst]; exact ht)) hr
    rw [← hdst,frS_put (L:=fun j=>listed.getD j false) (L':=fun j=>(listed.setIfInBounds i true).getD j false) O.uniq hin (fun j hj=>by
     by_cases e:i=j
     · subst e; simp [Array.getD,hs,hin]
     · rw [getD_set_ne false e]
       have:(j == i)=false:=by simpa using Ne.symm e
       rw [this,Bool.or_false])] at A2
    rw [hdst] at A2
    refine ih (listed.setIfInBounds i true) (by simpa using hs) ?_ (fun k o' ho' hk e he hb=>?_) A2
    · have:=filter_lt (p:=fun i=>!listed.getD i false) (q:=fun j=>!(listed.setIfInBounds i true).getD j false) (List.range ops.size) (fun x _ hx=>by
       cases hl:listed.getD x false with
       | false=>rfl
       | true=>simp only [getD_set_true (i:=i) hl] at hx; cases hx) ⟨i,by simpa using hin,by simp only [h1]; rfl,by simp [Array.getD,hs,hin]⟩
      omega
    · by_cases e1:i=k
      · subst e1
        rw [ho] at ho'; cases ho'
        exact getD_set_true (h3 e he hb)
      · rw [getD_set_ne false e1] at hk
        exact getD_set_true (hcl k o' ho' hk e he hb)
   have run:QDet P τ st o (frS ops vs fr0 fun j=>listed.getD j false) (vs i)→o.wpIn (fen ρ) 0 P a w (wpAnyIn (fen ρ) 0 P .any ops Q fuel (listed.setIfInBounds i true)) Q:=fun hq =>
    aOp_sound hτ A (aQOp_aOp (O.quiet i o ho) (hq (·=vs i) rfl) ok) (fun v cv st' Pr' γ' C' w' hk hr A'=>by
     obtain ⟨rfl,rfl⟩:=hk
     exact next A' hr) (fun _ _ _ _ _ _ _ h=>h.elim)
   unfold wpOpIn
   simp only [ho]
   unfold Yields' at hyi
   cases hg:o.guard with
   | none =>
     rw [hg] at hyi
     rw [if_pos (by simp [Region.wanted,hg])]
     exact run hyi
   | some q =>
     obtain ⟨j,want⟩:=q
     rw [hg] at hyi
     obtain ⟨d,q1,⟨b,q2,q3,q4⟩ | ⟨xs,q2,q4⟩⟩:=hyi
     rotate_left
     · have hsl:=A.fr.slot d
       rw [q2] at hsl
       have hyb:yielded ops a.tmps j=none:=by
        generalize hv:a.tmps.getD d undef=u at hsl
        cases hsl
        unfold yielded
        unfold dstOf at q1
        rw [q1]
        simp only [Option.bind_some]
        rw [Array.getD_eq_getD_getElem?] at hv
        cases hget:a.tmps[d]? with
        | none=>rfl
        | some v'=>rw [hget] at hv; simp at hv; subst hv; rfl
       rw [if_neg (by simp [Region.wanted,hg,hyb])]
       exact ⟨fun _ _=>trivial,next A (by rw [q4]; exact .raw _)⟩
     have hsl:=A.fr.slot d
     rw [q2] at hsl
     have hyb:yielded ops a.tmps j=some b:=by
      generalize hv:a.tmps.getD d undef=u at hsl
      cases hsl
      unfold yielded
      unfold dstOf at q1
      rw [q1]
      simp only [Option.bind_some]
      rw [Array.getD_eq_getD_getElem?] at hv
      cases hget:a.tmps[d]? with
      | none=>rw [hget] at hv; simp [undef] at hv
      | some v'=>rw [hget] at hv; simp at hv; subst hv; rfl
     by_cases e:b=want
     · rw [if_pos (by simp [Region.wanted,hg,hyb,e])]
       exact run (q3 e)
     · rw [if_neg (by simp [Region.wanted,hg,hyb,e])]
       have hu:=q4 e
       exact ⟨fun _ _=>trivial,next A (by rw [hu]; exact .raw _)⟩
end
end Go.Cod
namespace Go.Cod
open Go
variable [Lam]
section
variable {P:Program} {τ:Tau}
structure MixOk (ops:Array Oper):Prop where
 quiet:∀ (i:Nat) o,ops[i]? = some o→chainAt ops i=false→quietOp o.op=true
 back:∀ (i:Nat) o,ops[i]? = some o→∀ e∈o.after,Region.binds .any e=true→e.on < i
 uniq:Uniq ops
 look:∀ (i:Nat) o,ops[i]? = some o→∀ j t,j < ops.size→dstOf ops j=some t→t∈o.looksAt ops→(j < i∧reach ops ops.size i j=true)∨(i < j∧reach ops ops.size j i=true)
 line:∀ (i j:Nat),i < ops.size→chainAt ops i=true→chainAt ops j=true→j < i→reach ops ops.size i j=true
 free:∀ (i j:Nat),i < ops.size→chainAt ops i=false→chainAt ops j=true→reach ops ops.size i j=false
 ahead:∀ (i:Nat) o,ops[i]? = some o→chainAt ops i=false→plainOp o.op=false→∀ (j:Nat) p,ops[j]? = some p→chainAt ops j=true→reach ops ops.size j i=true∨(lookOp o.op=true∧allocOp p.op=true)
omit [Lam] in
theorem chainAt_lt {ops:Array Oper} {i:Nat} (h:chainAt ops i=true):i < ops.size:=by
 unfold chainAt at h
 split at h
 · cases h
 · rename_i o ho; exact (Array.getElem?_eq_some_iff.1 ho).1
omit [Lam] in
theorem mixOk_spec {ops:Array Oper} (h:mixOk ops=true):MixOk ops:=by
 unfold mixOk at h
 simp only [List.all_eq_true,List.mem_range] at h
 have H:∀ (i:Nat) o,ops[i]? = some o→(chainAt ops i=true∨quietOp o.op=true)∧(∀ e∈o.after,Region.binds .any e=true→e.on < i) ∧
   (∀ j,j < ops.size→(i=j∨dstOf ops i=none∨dstOf ops i≠dstOf ops j)∧(∀ t,dstOf ops j=some t→t∈o.looksAt ops→(j < i∧reach ops ops.size i j=true)∨(i < j∧reach ops ops.size j i=true))) ∧
   (chainAt ops i=true→∀ j,chainAt ops j=true→j < i→reach ops ops.size i j=true) ∧
   (chainAt ops i=false→(∀ j,chainAt ops j=true→reach ops ops.size i j=false)∧(plainOp o.op=false→∀ (j:Nat) p,ops[j]? = some p→chainAt ops j=true→reach ops ops.size j i=true∨(lookOp o.op=true∧allocOp p.op=true))):=by
  intro i o ho
  have hi:i < ops.size:=(Array.getElem?_eq_some_iff.1 ho).1
  have:=h i hi
  rw [ho] at this
  simp only [Bool.and_eq_true,List.all_eq_true,List.mem_range,Bool.or_eq_true] at this
  obtain ⟨⟨⟨h1,h2⟩,h3⟩,h4⟩:=this
  refine ⟨h1,fun e he hb=>?_,fun j hj=>?_,fun hc j hj hlt=>?_,fun hc=>⟨fun j hj=>?_,fun hp j p hpj hj=>?_⟩⟩
  · have:=h2 e (by simpa using he)
    simp [hb] at this
    exact this
  · obtain ⟨a,b⟩:=h3 j hj
    refine ⟨?_,fun t ht hm=>?_⟩
    · rcases a with (a | a) | a
      · exact .inl (by simpa using a)
      · exact .inr (.inl (by unfold dstOf; rw [ho]; simpa using a))
      · refine .inr (.inr fun e=>?_)
        unfold dstOf at e
        rw [← ho,e] at a
        simp at a
    · unfold dstOf at ht
      rw [ht] at b
      simp only [Bool.or_eq_true,Bool.not_eq_true',Bool.and_eq_true,decide_eq_true_eq] at b
      rcases b with (b | b) | b
      · have:(o.looksAt ops).contains t=true:=by simpa using hm
        rw [this] at b; cases b
      · exact .inl b
      · exact .inr b
  · rw [hc] at h4
    simp only [List.all_eq_true,List.mem_range,Bool.or_eq_true,Bool.not_eq_true',Bool.and_eq_false_imp,decide_eq_false_iff_not] at h4
    rcases h4 j (chainAt_lt hj) with h | h
    · exact absurd hlt (h hj)
    · exact h
  · rw [hc] at h4
    simp only [Bool.and_eq_true,List.all_eq_true,List.mem_range,Bool.not_eq_true',Bool.and_eq_false_imp] at h4
    exact h4.1 j (chainAt_lt hj) hj
  · rw [hc] at h4
    simp only [Bool.and_eq_true,List.all_eq_true,List.mem_range,Bool.or_eq_true,Bool.not_eq_true'] at h4
    rcases h4.2 with h | h
    · rw [hp] at h; cases h
    · rcases h j (chainAt_lt hj) with (h | h) | h
      · rw [hj] at h; cases h
      · exact .inl h
      · rw [hpj] at h; exact .inr h
 refine ⟨fun i o ho hc=>?_,fun i o ho=>(H i o ho).2.1,fun i j t hi hj h1 h2=>?_,fun i o ho j t hj h1 h2=>((H i o ho).2.2.1 j hj).2 t h1 h2,fun i j hi hc hj hlt=>(H i ops[i] (by simp [hi])).2.2.2.1 hc j hj hlt,
  fun i j hi hc hj=>((H i ops[i] (by simp [hi])).2.2.2.2 hc).1 j hj,fun i o ho hc hp j p hpj hj=>((H i o ho).2.2.2.2 hc).2 hp j p hpj hj⟩
 · rcases (H i o ho).1 with h | h
   · rw [hc] at h; cases h
   · exact h
 · rcases ((H i ops[i] (by simp [hi])).2.2.1 j hj).1 with e | e | e
   · exact e
   · rw [e] at h1; cases h1
   · rw [h1,h2] at e; exact absurd rfl e
theorem QDet.plain {st st':St} {o:Oper} {fr:Nat→V} {v:V} (hp:plainOp o.op=true) (h:QDet P τ st o fr v):QDet P τ st' o fr v:=by
 intro K' hk
 have h:=h K' hk
 obtain ⟨dst,op,type,pos,after,guard⟩:=o
 simp only at hp
 unfold aQOp at h ⊢
 cases op <;> simp only [plainOp,Bool.false_eq_true] at hp <;> simp only [isSlice] at h ⊢ <;> exact h
def Grow (st st':St):Prop:=∀ (k:Nat) o,st[k]? = some o→∃ o',st'[k]? = some o'∧o'.es=o.es∧o'.live=o.live∧o'.box=o.box∧o'.kind=o.kind
omit [Lam] in
theorem Grow.refl (st:St):Grow st st:=fun _ o h=>⟨o,h,rfl,rfl,rfl,rfl⟩
omit [Lam] in
theorem Grow.trans {a b c:St} (h:Grow a b) (h':Grow b c):Grow a c:=fun k o hk=>by
 obtain ⟨o',h1,h2,h3,h4,h5⟩:=h k o hk
 obtain ⟨p,k1,k2,k3,k4,k5⟩:=h' k o' h1
 exact ⟨p,k1,k2.trans h2,k3.trans h3,k4.trans h4,k5.trans h5⟩
omit [Lam] in
theorem Grow.push (st:St) (o:O):Grow st (st++[o]):=fun k p h=>⟨p,by rw [List.getElem?_append_left (List.getElem?_eq_some_iff.1 h).1]; exact h,rfl,rfl,rfl,rfl⟩
omit [Lam] in
theorem Grow.lend1 (st:St) (k:Nat):Grow st (lend1 st k):=by
 intro j p h
 unfold Cod.lend1
 split
 · rename_i o ho
   split
   · by_cases e:k=j
     · subst e
       rw [ho] at h; cases h
       exact ⟨{ p with excl:=false },by rw [List.getElem?_set,if_pos rfl,if_pos (List.getElem?_eq_some_iff.1 ho).1],rfl,rfl,rfl,rfl⟩
     · exact ⟨p,by rw [List.getElem?_set,if_neg e]; exact h,rfl,rfl,rfl,rfl⟩
   · exact ⟨p,h,rfl,rfl,rfl,rfl⟩
 · exact ⟨p,h,rfl,rfl,rfl,rfl⟩
omit [Lam] in
theorem Grow.lend:∀ (ks:List Nat) (st:St),Grow st (lend st ks)
 | [],st=>.refl st
 | k::ks,st=>(Grow.lend1 st k).trans (Grow.lend ks _)
omit [Lam] in
theorem Grow.liveEs {st st':St} (h:Grow st st') {k:Nat} {es:List (List V)} (hk:liveEs st k=some es):liveEs st' k=some es:=by
 unfold Cod.liveEs at hk ⊢
 split at hk
 · rename_i o ho
   obtain ⟨o',h1,h2,h3,h4,_⟩:=h k o ho
   rw [h1]; simp only [h2,h3,h4]; exact hk
 · cases hk
omit [Lam] in
theorem Grow.elems {st st':St} (h:Grow st st') {x:V} {es:List (List V)} (hk:elems st x=some es):elems st' x=some es:=by
 unfold Cod.elems at hk ⊢
 split at hk <;> first | exact hk | exact h.liveEs hk
omit [Lam] in
theorem Grow.pool {st st':St} (h:Grow st st') {k:Nat} {e:List V} (hk:e∈poolEs st k):e∈poolEs st' k:=by
 obtain ⟨o,h1,h2,h3,h4⟩:=poolEs_some hk
 obtain ⟨o',q1,q2,_,_,q5⟩:=h k o h1
 unfold poolEs
 rw [q1]; simp only [q5.trans h2,q2]; exact h4
theorem aLoad_grow {st st':St} (h:Grow st st') {t:TypeId} {p:V} {K:V→Prop} (ha:aLoad τ t p st K):aLoad τ t p st' K:=by
 unfold aLoad at ha ⊢
 simp only [atRow_iff,Chk_iff] at ha ⊢
 split at ha
 · exact ha.elim
 · split at ha
   · split at ha
     · exact ha.elim
     · rename_i o ho
       obtain ⟨o',q1,q2,q3,q4,_⟩:=h _ o ho
       simp only [q1]
       obtain ⟨a1,e,a2,a3⟩:=ha
       exact ⟨by rw [q3]; exact a1,e,by rw [q2]; exact a2,a3⟩
   · obtain ⟨o,e,x,ho,a1,a2,a3,a4⟩:=ha
     obtain ⟨o',q1,q2,q3,q4,_⟩:=h _ o ho
     exact ⟨o',e,x,q1,by rw [q3]; exact a1,by rw [q4]; exact a2,by rw [q2]; exact a3,a4⟩
   · exact ha
   · obtain ⟨k,cap,rows,e,a1,a2⟩:=ha
     exact ⟨k,cap,rows,e,h.pool a1,a2⟩
   · exact ha
   · exact ha.elim
omit [Lam] in
theorem aIndexAddr_grow {st st':St} (h:Grow st st') {t:TypeId} {lit:Bool} {x i:V} {K:V→Prop} (ha:aIndexAddr τ t lit x i st K):aIndexAddr τ t lit x i st' K:=by
 unfold aIndexAddr at ha ⊢
 split at ha
 · exact ha
 · split at ha
   · exact ha
   · exact ha
   · obtain ⟨h0,es,row,size,h1,h2⟩:=ha
     exact ⟨h0,es,row,size,h.elems h1,h2⟩
 · exact ha.elim
omit [Lam] in
theorem aLen_grow {st st':St} (h:Grow st st') {t:TypeId} {x:V} {K:V→Prop} (ha:aLen τ t x st K):aLen τ t x st' K:=by
 unfold aLen at ha ⊢
 split at ha
 · exact ha
 · split at ha
   · exact ha
   · exact ha
   split at ha
   · rename_i hes; simp only [h.elems hes]; exact ha
   · exact ha.elim
 · split at ha
   · rename_i o ho
     obtain ⟨o',q1,q2,_,_,q5⟩:=h _ o ho
     simp only [q1]
     rw [q2,q5]; exact ha
   · exact ha.elim
 · exact ha.elim
theorem QDet.grow {st st':St} {o:Oper} {fr:Nat→V} {v:V} (h:Grow st st') (hp:lookOp o.op=true) (hq:QDet P τ st o fr v):QDet P τ st' o fr v:=by
 intro K' hk
 replace hq:=hq K' hk
 obtain ⟨dst,op,type,pos,after,guard⟩:=o
 simp only at hp
 unfold aQOp at hq ⊢
 cases op <;> simp only [lookOp,Bool.false_eq_true] at hp
 case load=>simp only [isSlice] at hq ⊢; exact aLoad_grow h hq
 case indexAddr=>simp only [isSlice] at hq ⊢; exact aIndexAddr_grow h hq
 case call c =>
  obtain ⟨callee,args,ats⟩:=c
  cases callee with
  | value f=>cases hp
  | invoke r m=>cases hp
  | builtin b =>
    cases b <;> simp only [Bool.false_eq_true] at hp
    simp only [isSlice] at hq ⊢
    unfold aOp at hq ⊢
    simp only at hq ⊢
    split at hq
    · exact aLen_grow h hq
    · exact hq.elim
theorem aOp_grow {ok:OkY} {o:Oper} {fr:Nat→V} {st:St} {K Z:V→St→Prop} (ho:allocOp o.op=true) (h:aOp P ok τ o fr st K Z):aOp P ok τ o fr st (fun v st'=>K v st'∧Grow st st') Z:=by
 unfold aOp at h ⊢
 cases hop:o.op <;> rw [hop] at ho h <;> simp only [allocOp,Bool.false_eq_true] at ho <;> simp only at h ⊢
 case box t x =>
  simp only [lenK0] at h ⊢
  obtain ⟨h1,h2⟩:=Chk_iff.1 h
  exact Chk_iff.2 ⟨h1,h2,.push _ _⟩
 case buildSlice t len parts =>
  unfold aBuildSlice at h ⊢
  simp only [lenK0] at h ⊢
  simp only [Chk_iff] at h ⊢
  split at h
  · split at h
    · obtain ⟨a,b,c,d,e,h⟩:=h
      refine ⟨a,b,c,d,e,?_⟩
      split at h
      · rw [if_pos ‹_›]; exact ⟨h,.refl _⟩
      · rw [if_neg ‹_›]; exact ⟨h.1,h.2,(Grow.lend _ _).trans (.push _ _)⟩
    · exact h.elim
  · exact h.elim
 case alloc t =>
  simp only [lenK0] at h ⊢
  split at h
  · obtain ⟨h1,h2⟩:=Chk_iff.1 h
    exact Chk_iff.2 ⟨h1,h2,.push _ _⟩
  · exact h.elim
theorem erun {ops:Array Oper} {st:St} {fr0:Nat→V} {K:(Nat→V)→Prop} (M:MixOk ops) :
  ∀ (l:List Oper) (k:Nat) (vs:Nat→V),(∀ j:Nat,l[j]? = ops[k+j]?)→k+l.length=ops.size→aEOps P τ ops l k (frS ops vs fr0 fun j=>decide (j < k)&&!chainAt ops j) st K →
  ∃ vs',(∀ j,j < k→vs' j=vs j)∧(∀ (i:Nat) o,k≤i→ops[i]? = some o→chainAt ops i=false→Yields' P τ ops st o (frS ops vs' fr0 fun j=>decide (j < i)&&!chainAt ops j) (vs' i))∧K (frS ops vs' fr0 fun j=>decide (j < ops.size)&&!chainAt ops j)
 | [],k,vs,_,hk,h=>by
   simp at hk
   subst hk
   exact ⟨vs,fun _ _=>rfl,fun i o hi ho=>by have:=(Array.getElem?_eq_some_iff.1 ho).1; omega,h⟩
 | o::l,k,vs,hl,hk,h=>by
   have ho:ops[k]? = some o:=by have:=hl 0; simpa using this.symm
   have hkn:k < ops.size:=(Array.getElem?_eq_some_iff.1 ho).1
   have hdst:dstOf ops k=o.dst:=by simp [dstOf,ho]
   simp only [List.length_cons] at hk
   have hl':∀ j:Nat,l[j]? = ops[k+1+j]? := fun j=>by have:=hl (j+1); simpa [Nat.add_assoc,Nat.add_comm 1 j] using this
   simp only [aEOps_cons] at h
   cases hck:chainAt ops k with
   | true =>
     rw [hck] at h
     have e:(frS ops vs fr0 fun j=>decide (j < k)&&!chainAt ops j)=frS ops vs fr0 fun j=>decide (j < k+1)&&!chainAt ops j:=frS_congr (fun j _=>by
      by_cases e:j=k
      · subst e; simp [hck]
      · congr 1; exact decide_eq_decide.2 (by omega)) fun _ _ _=>rfl
     rw [e] at h
     obtain ⟨vs',q1,q2,q3⟩:=erun M l (k+1) vs hl' (by omega) h
     refine ⟨vs',fun j hj=>q1 j (by omega),fun i o' hi ho' hc=>?_,q3⟩
     by_cases e:i=k
     · subst e; rw [hck] at hc; cases hc
     · exact q2 i o' (by omega) ho' hc
   | false =>
   rw [hck] at h
   simp only at h
   have next:∀ v,aEOps P τ ops l (k+1) (put (frS ops vs fr0 fun j=>decide (j < k)&&!chainAt ops j) o.dst v) st K→Yields' P τ ops st o (frS ops vs fr0 fun j=>decide (j < k)&&!chainAt ops j) v →
     ∃ vs',(∀ j,j < k→vs' j=vs j)∧(∀ (i:Nat) o,k≤i→ops[i]? = some o→chainAt ops i=false→Yields' P τ ops st o (frS ops vs' fr0 fun j=>decide (j < i)&&!chainAt ops j) (vs' i))∧K (frS ops vs' fr0 fun j=>decide (j < ops.size)&&!chainAt ops j):=by
    intro v hv hy
    let vs1:Nat→V:=fun j=>if j=k then v else vs j
    have lt1:∀ j:Nat,(decide (j < k)&&!chainAt ops j)=true→j≠k:=fun j hj=>by simp at hj; omega
    have e0:(frS ops vs fr0 fun j=>decide (j < k)&&!chainAt ops j)=frS ops vs1 fr0 fun j=>decide (j < k)&&!chainAt ops j:=frS_congr (fun _ _=>rfl) fun j _ hj=>by
     have:=lt1 j hj; simp [vs1,this]
    have e1:put (frS ops vs fr0 fun j=>decide (j < k)&&!chainAt ops j) o.dst v=frS ops vs1 fr0 fun j=>decide (j < k+1)&&!chainAt ops j:=by
     rw [e0,← hdst]
     have:=frS_put (vs:=vs1) (fr0:=fr0) (L:=fun j=>decide (j < k)&&!chainAt ops j) (L':=fun j=>decide (j < k+1)&&!chainAt ops j) M.uniq hkn (fun j _=>by
      by_cases e:j=k
      · subst e; simp [hck]
      · have h1:(j == k)=false:=by simpa using e
        rw [h1,Bool.or_false]
        congr 1; exact decide_eq_decide.2 (by omega))
     rw [← this]
     simp [vs1]
    rw [e1] at hv
    obtain ⟨vs',q1,q2,q3⟩:=erun M l (k+1) vs1 hl' (by omega) hv
    refine ⟨vs',fun j hj=>by rw [q1 j (by omega)]; simp [vs1]; omega,fun i o' hi ho' hc=>?_,q3⟩
    by_cases e:i=k
    · subst e
      rw [ho] at ho'; cases ho'
      have ev':vs' i=v:=by rw [q1 i (by omega)]; simp [vs1]
      rw [ev']
      have e2:(frS ops vs fr0 fun j=>decide (j < i)&&!chainAt ops j)=frS ops vs' fr0 fun j=>decide (j < i)&&!chainAt ops j:=frS_congr (fun _ _=>rfl) fun j _ hj=>by
       have hne:=lt1 j hj
       have:j < i:=by simp at hj; exact hj.1
       rw [q1 j (by omega)]; simp [vs1,hne]
      rw [← e2]; exact hy
    · exact q2 i o' (by omega) ho' hc
   split at h
   · rename_i hg
     obtain ⟨v,h1,h2⟩:=aQOp_det (M.quiet k o ho hck) h
     rw [force_eq] at h1
     exact next v h1 (by unfold Yields'; rw [hg]; exact h2)
   · rename_i j want hg
     split at h
     · rename_i d hd
       split at h
       · rename_i b hb
         cases b <;> cases want <;> simp only [BC,negB,if_true,if_false,Bool.false_eq_true] at h
         · obtain ⟨v,h1,h2⟩:=aQOp_det (M.quiet k o ho hck) h
           rw [force_eq] at h1
           exact next v h1 (by unfold Yields'; rw [hg]; exact ⟨d,hd,.inl ⟨_,hb,fun _=>h2,fun e=>absurd rfl e⟩⟩)
         · exact next undefV h (by unfold Yields'; rw [hg]; exact ⟨d,hd,.inl ⟨_,hb,(fun e=>by cases e),fun _=>rfl⟩⟩)
         · exact next undefV h (by unfold Yields'; rw [hg]; exact ⟨d,hd,.inl ⟨_,hb,(fun e=>by cases e),fun _=>rfl⟩⟩)
         · obtain ⟨v,h1,h2⟩:=aQOp_det (M.quiet k o ho hck) h
           rw [force_eq] at h1
           exact next v h1 (by unfold Yields'; rw [hg]; exact ⟨d,hd,.inl ⟨_,hb,fun _=>h2,fun e=>absurd rfl e⟩⟩)
       · rename_i xs hb
         exact next undefV h (by unfold Yields'; rw [hg]; exact ⟨d,hd,.inr ⟨xs,hb,rfl⟩⟩)
       · exact h.elim
     · exact h.elim
open Classical in
noncomputable def maskF (ops:Array Oper) (L:Nat→Bool) (fr0 F:Nat→V):Nat→V:=fun t =>
 if ∃ j,j < ops.size∧chainAt ops j=false∧L j=false∧dstOf ops j=some t then fr0 t else F t
omit [Lam] in
theorem maskF_in {ops:Array Oper} {L:Nat→Bool} {fr0 F:Nat→V} {t:Nat} (h:∃ j,j < ops.size∧chainAt ops j=false∧L j=false∧dstOf ops j=some t):maskF ops L fr0 F t=fr0 t:=by
 unfold maskF; rw [if_pos h]
omit [Lam] in
theorem maskF_out {ops:Array Oper} {L:Nat→Bool} {fr0 F:Nat→V} {t:Nat} (h:¬ ∃ j,j < ops.size∧chainAt ops j=false∧L j=false∧dstOf ops j=some t):maskF ops L fr0 F t=F t:=by
 unfold maskF; rw [if_neg h]
theorem aCOps_skip {ok:OkY} {ops:Array Oper} {Zf:V→St→Prop} {F:Nat→V} {st:St} {K:(Nat→V)→St→Prop}:∀ (d:Nat) (l:List Oper) (k:Nat),(∀ j:Nat,l[j]? = ops[k+j]?)→k+d≤ops.size→(∀ j,k≤j→j < k+d→chainAt ops j=false)→aCOps P ok τ ops Zf l k F st K →
  ∃ l',(∀ j:Nat,l'[j]? = ops[k+d+j]?)∧aCOps P ok τ ops Zf l' (k+d) F st K
 | 0,l,k,hl,_,_,h=>⟨l,hl,h⟩
 | d+1,[],k,hl,hk,_,h=>by
   have:=hl 0
   have h2:k < ops.size:=by omega
   simp [h2] at this
 | d+1,o::l,k,hl,hk,hc,h=>by
   simp only [aCOps_cons] at h
   rw [hc k (Nat.le_refl _) (by omega)] at h
   obtain ⟨l',h1,h2⟩:=aCOps_skip d l (k+1) (fun j=>by have:=hl (j+1); simpa [Nat.add_assoc,Nat.add_comm 1 j] using this) (by omega) (fun j h1 h2=>hc j (by omega) (by omega)) h
   have e:k+1+d=k+(d+1):=by omega
   rw [e] at h1 h2
   exact ⟨l',h1,h2⟩
variable {ok:OkY} {E:Env P ok} {w0:World} {mod:Nat→Prop} {γ0:List G} {Pr0:Nat→Nat→Prop} {C0:Nat→Prop} {nt:Nat} {ρ:Option Nat}
theorem mix_sound (hτ:TauGood P τ) {ops:Array Oper} (M:MixOk ops) (hd:∀ (i:Nat) t,dstOf ops i=some t→t < nt) {st:St} {vs fr0:Nat→V} {Q:Exit→Act→World→Prop} {Kf:(Nat→V)→St→Prop} {Zf:V→St→Prop}
  (hZ:∀ a w fr st Pr γ C v cv,Zf v st→Rep Pr γ w v cv→X P ok E w0 mod γ0 Pr0 C0 nt ρ Pr γ C fr st a w→Q (.panic [{ v:=cv,recovered:=false }]) a w)
  (hy:∀ (i:Nat) o,ops[i]? = some o→chainAt ops i=false→Yields' P τ ops st o (frS ops vs fr0 fun j=>decide (j < i)&&!chainAt ops j) (vs i))
  (hQ:∀ a w fr st Pr γ C,Kf fr st→X P ok E w0 mod γ0 Pr0 C0 nt ρ Pr γ C fr st a w→Q .normal a w) :
  ∀ (fuel:Nat) (listed:Array Bool) {F:Nat→V} {stc:St} {rest:List Oper} {k:Nat} {Pr γ C a w},listed.size=ops.size→((List.range ops.size).filter fun i=>!listed.getD i false).length≤fuel →
    (∀ i o,ops[i]? = some o→listed.getD i false=true→∀ e∈o.after,Region.binds .any e=true→listed.getD e.on false=true) →
    (∀ j:Nat,rest[j]? = ops[k+j]?)→k≤ops.size→(∀ j,chainAt ops j=true→(listed.getD j false=true↔j < k)) →
    (∀ t,(∀ j,j < ops.size→chainAt ops j=true→listed.getD j false=true→dstOf ops j≠some t)→F t=(frS ops vs fr0 fun j=>decide (j < ops.size)&&!chainAt ops j) t) →
    ((∃ j p,ops[j]? = some p∧chainAt ops j=true∧listed.getD j false=true∧allocOp p.op=false)∨Grow st stc)→((∃ j,chainAt ops j=true∧listed.getD j false=true)∨stc=st)→aCOps P ok τ ops Zf rest k F stc Kf →
    X P ok E w0 mod γ0 Pr0 C0 nt ρ Pr γ C (maskF ops (fun j=>listed.getD j false) fr0 F) stc a w→wpAnyIn (fen ρ) 0 P .any ops Q fuel listed a w:=by
 have both:∀ (listed:Array Bool) (i:Nat),listed.size=ops.size→i < ops.size→listed.getD i true=listed.getD i false:=by
  intro listed i hs hi
  simp [Array.getD,hs,hi]
 have finish:∀ (listed:Array Bool),listed.size=ops.size→Region.ready .any ops listed=[]→∀ i,i < ops.size→listed.getD i false=true:=by
  intro listed hs hr i
  induction i using Nat.strongRecOn with
  | _ i ih =>
    intro hi
    cases hl:listed.getD i false with
    | true=>rfl
    | false =>
      have:i∈Region.ready .any ops listed:=mem_ready.2 ⟨by rw [both listed i hs hi]; exact hl,ops[i],by simp [hi],fun e he hb=>ih e.on (M.back i _ (by simp [hi]) e he hb) (Nat.lt_trans (M.back i _ (by simp [hi]) e he hb) hi)⟩
      rw [hr] at this; simp at this
 have done:∀ (listed:Array Bool) {F:Nat→V} {stc:St} {rest:List Oper} {k:Nat} {Pr γ C a w},listed.size=ops.size→(∀ i,i < ops.size→listed.getD i false=true)→(∀ j:Nat,rest[j]? = ops[k+j]?)→k≤ops.size→(∀ j,chainAt ops j=true→(listed.getD j false=true↔j < k))→aCOps P ok τ ops Zf rest k F stc Kf →
   X P ok E w0 mod γ0 Pr0 C0 nt ρ Pr γ C (maskF ops (fun j=>listed.getD j false) fr0 F) stc a w→Q .normal a w:=by
  intro listed F stc rest k Pr γ C a w hs hall hl hk hch h A
  have e:maskF ops (fun j=>listed.getD j false) fr0 F=F:=by
   funext t
   exact maskF_out fun ⟨j,h1,_,h2,_⟩=>by rw [hall j h1] at h2; cases h2
  rw [e] at A
  obtain ⟨l',h1,h2⟩:=aCOps_skip (ops.size - k) rest k hl (by omega) (fun j h1 h2=>by
   cases hc:chainAt ops j with
   | false=>rfl
   | true=>have:=(hch j hc).1 (hall j (chainAt_lt hc)); omega) h
  have hl0:l'=[]:=by
   cases l' with
   | nil=>rfl
   | cons x xs=>have:=h1 0; simp [show k+(ops.size - k)=ops.size by omega] at this
  subst hl0
  exact hQ a w F stc Pr γ C h2 A
 intro fuel
 induction fuel with
 | zero =>
   intro listed F stc rest k Pr γ C a w hs hc hcl hl hk hch hF hg0 h0 h A
   have hall:∀ i,i < ops.size→listed.getD i false=true:=by
    intro i hi
    cases hl:listed.getD i false with
    | true=>rfl
    | false =>
      have:i∈(List.range ops.size).filter fun i=>!listed.getD i false:=List.mem_filter.2 ⟨by simpa using hi,by rw [hl]; rfl⟩
      rw [List.length_eq_zero_iff.1 (Nat.le_zero.1 hc)] at this
      simp at this
   refine ⟨?_,done listed hs hall hl hk hch h A⟩
   refine List.eq_nil_iff_forall_not_mem.2 fun i hi=>?_
   obtain ⟨h1,o,ho,_⟩:=mem_ready.1 hi
   have hi':i < ops.size:=(Array.getElem?_eq_some_iff.1 ho).1
   rw [both listed i hs hi',hall i hi'] at h1
   cases h1
 | succ fuel ih =>
   intro listed F stc rest k Pr γ C a w hs hc hcl hl hk hch hF hg0 h0 h A
   refine ⟨fun hr=>done listed hs (finish listed hs hr) hl hk hch h A,fun i hi=>?_⟩
   obtain ⟨h1,o,ho,h3⟩:=mem_ready.1 hi
   have hin:i < ops.size:=(Array.getElem?_eq_some_iff.1 ho).1
   rw [both listed i hs hin] at h1
   have hdst:dstOf ops i=o.dst:=by simp [dstOf,ho]
   have reachL:∀ {j:Nat},reach ops ops.size i j=true→listed.getD j false=true:=fun hre=>reach_closed (L:=fun x=>listed.getD x false=true) (fun x o' ho' hx=>hcl x o' ho' hx) ops.size i _ o ho h3 hre
   have reachU:∀ {j:Nat},j < ops.size→reach ops ops.size j i=true→listed.getD j false=false:=fun {j} hj hre=>by
    cases hl:listed.getD j false with
    | false=>rfl
    | true =>
      have:=reach_closed (L:=fun x=>listed.getD x false=true) (fun x o' ho' hx=>hcl x o' ho' hx) ops.size j i ops[j] (by simp [hj]) (fun e he hb=>hcl j ops[j] (by simp [hj]) hl e he hb) hre
      rw [h1] at this; cases this
   have hsize:((List.range ops.size).filter fun j=>!(listed.setIfInBounds i true).getD j false).length≤fuel:=by
    have:=filter_lt (p:=fun i=>!listed.getD i false) (q:=fun j=>!(listed.setIfInBounds i true).getD j false) (List.range ops.size) (fun x _ hx=>by
     cases hl:listed.getD x false with
     | false=>rfl
     | true=>simp only [getD_set_true (i:=i) hl] at hx; cases hx) ⟨i,by simpa using hin,by simp only [h1]; rfl,by simp [Array.getD,hs,hin]⟩
    omega
   have hclose:∀ k o',ops[k]? = some o'→(listed.setIfInBounds i true).getD k false=true→∀ e∈o'.after,Region.binds .any e=true→(listed.setIfInBounds i true).getD e.on false=true:=by
    intro k o' ho' hk e he hb
    by_cases e1:i=k
    · subst e1
      rw [ho] at ho'; cases ho'
      exact getD_set_true (h3 e he hb)
    · rw [getD_set_ne false e1] at hk
      exact getD_set_true (hcl k o' ho' hk e he hb)
   have hseti:(listed.setIfInBounds i true).getD i false=true:=by simp [Array.getD,hs,hin]
   have hF1:∀ t,(∀ j,j < ops.size→chainAt ops j=false→dstOf ops j≠some t)→(frS ops vs fr0 fun j=>decide (j < ops.size)&&!chainAt ops j) t=fr0 t:=fun t ht=>frS_miss fun j hj hL=>by
    simp only [Bool.and_eq_true,Bool.not_eq_true'] at hL
    exact ht j hj hL.2
   have hF1v:∀ j t,j < ops.size→chainAt ops j=false→dstOf ops j=some t→(frS ops vs fr0 fun j=>decide (j < ops.size)&&!chainAt ops j) t=vs j:=fun j t hj hc ht=>frS_hit M.uniq hj (by simp [hj,hc]) ht
   unfold wpOpIn
   simp only [ho]
   cases hci:chainAt ops i with
   | false =>
     have hag:∀ t∈o.looksAt ops,(frS ops vs fr0 fun j=>decide (j < i)&&!chainAt ops j) t=maskF ops (fun j=>listed.getD j false) fr0 F t:=by
      intro t ht
      by_cases hex:∃ j,j < ops.size∧dstOf ops j=some t
      · obtain ⟨j,hj,hjt⟩:=hex
        have uq:∀ {m:Nat},m < ops.size→dstOf ops m=some t→m=j:=fun hm hmt=>M.uniq _ _ _ hm hj hmt hjt
        rcases M.look i o ho j t hj hjt ht with ⟨hlt,hre⟩ | ⟨hlt,hre⟩
        · have hLj:=reachL hre
          have hcj:chainAt ops j=false:=by
           cases hc:chainAt ops j with
           | false=>rfl
           | true=>have:=M.free i j hin hci hc; rw [hre] at this; cases this
          rw [frS_hit M.uniq hj (by simp [hlt,hcj]) hjt,maskF_out,hF t (fun m hm hcm hLm hmt=>by rw [uq hm hmt,hcj] at hcm; cases hcm),hF1v j t hj hcj hjt]
          rintro ⟨m,q1,q2,q3,q4⟩
          rw [uq q1 q4,hLj] at q3; cases q3
        · have hLj:=reachU hj hre
          rw [frS_miss (fun m hm h2 h4=>by have:=uq hm h4; subst this; simp at h2; omega)]
          cases hcj:chainAt ops j with
          | false=>rw [maskF_in ⟨j,hj,hcj,hLj,hjt⟩]
          | true =>
            rw [maskF_out (fun ⟨m,q1,q2,q3,q4⟩=>by rw [uq q1 q4,hcj] at q2; cases q2),hF t (fun m hm hcm hLm hmt=>by rw [uq hm hmt,hLj] at hLm; cases hLm),hF1 t (fun m hm hcm hmt=>by rw [uq hm hmt,hcj] at hcm; cases hcm)]
      · have no:∀ m,m < ops.size→dstOf ops m≠some t:=fun m hm hmt=>hex ⟨m,hm,hmt⟩
        rw [frS_miss (fun m hm _=>no m hm),maskF_out (fun ⟨m,q1,_,_,q4⟩=>no m q1 q4),hF t (fun m hm _ _=>no m hm),hF1 t (fun m hm _=>no m hm)]
     have hyi:=(hy i o ho hci).congr hag
     have next:∀ {Pr' γ' C' cv w'},X P ok E w0 mod γ0 Pr0 C0 nt ρ Pr' γ' C' (maskF ops (fun j=>listed.getD j false) fr0 F) stc a w'→Rep Pr' γ' w' (vs i) cv→wpAnyIn (fen ρ) 0 P .any ops Q fuel (listed.setIfInBounds i true) (a.put o.dst cv) w':=by
      intro Pr' γ' C' cv w' A' hr
      have A2:=A'.put o.dst (fun t ht=>hd i t (by rw [hdst]; exact ht)) hr
      have e:put (maskF ops (fun j=>listed.getD j false) fr0 F) o.dst (vs i)=maskF ops (fun j=>(listed.setIfInBounds i true).getD j false) fr0 F:=by
       funext t
       by_cases hit:dstOf ops i=some t
       · rw [← hdst,hit]
         simp only [put,upd_same]
         rw [maskF_out,hF t (fun m hm hcm _ hmt=>by rw [M.uniq m i t hm hin hmt hit,hci] at hcm; cases hcm),hF1v i t hin hci hit]
         rintro ⟨m,q1,q2,q3,q4⟩
         rw [M.uniq m i t q1 hin q4 hit,hseti] at q3; cases q3
       · have e1:put (maskF ops (fun j=>listed.getD j false) fr0 F) o.dst (vs i) t=maskF ops (fun j=>listed.getD j false) fr0 F t:=by
          rw [← hdst]
          cases hq:dstOf ops i with
          | none=>rfl
          | some d =>
            have:t≠d:=by rintro rfl; exact hit hq
            simp [put,upd_ne _ _ this]
         rw [e1]
         by_cases hm:∃ j,j < ops.size∧chainAt ops j=false∧listed.getD j false=false∧dstOf ops j=some t
         · obtain ⟨j,q1,q2,q3,q4⟩:=hm
           have hne:i≠j:=by rintro rfl; exact hit q4
           rw [maskF_in ⟨j,q1,q2,q3,q4⟩,maskF_in ⟨j,q1,q2,by rw [getD_set_ne false hne]; exact q3,q4⟩]
         · rw [maskF_out hm,maskF_out fun ⟨j,q1,q2,q3,q4⟩=>hm ⟨j,q1,q2,by
            have hne:i≠j:=by rintro rfl; exact hit q4
            rw [getD_set_ne false hne] at q3; exact q3,q4⟩]
      rw [e] at A2
      refine ih (listed.setIfInBounds i true) (by simpa using hs) hsize hclose hl hk (fun j hcj=>?_) (fun t ht=>hF t fun j hj hcj hLj=>ht j hj hcj (getD_set_true hLj)) ?_ ?_ h A2
      · have hne:i≠j:=by rintro rfl; rw [hci] at hcj; cases hcj
        rw [getD_set_ne false hne]; exact hch j hcj
      · rcases hg0 with ⟨j,p,q0,q1,q2,q3⟩ | hg0
        · exact .inl ⟨j,p,q0,q1,getD_set_true q2,q3⟩
        · exact .inr hg0
      · rcases h0 with ⟨j,q1,q2⟩ | h0
        · exact .inl ⟨j,q1,getD_set_true q2⟩
        · exact .inr h0
     have run:QDet P τ st o (maskF ops (fun j=>listed.getD j false) fr0 F) (vs i)→o.wpIn (fen ρ) 0 P a w (wpAnyIn (fen ρ) 0 P .any ops Q fuel (listed.setIfInBounds i true)) Q:=fun hq=>by
      have hq':QDet P τ stc o (maskF ops (fun j=>listed.getD j false) fr0 F) (vs i):=by
       cases hp:plainOp o.op with
       | true=>exact hq.plain hp
       | false =>
         rcases h0 with ⟨j,q1,q2⟩ | h0
         · have hj:=chainAt_lt q1
           rcases M.ahead i o ho hci hp j ops[j] (by simp [hj]) q1 with hr | ⟨hl1,_⟩
           · have:=reachU hj hr
             rw [q2] at this; cases this
           · rcases hg0 with ⟨m,p,r1,r2,r3,r4⟩ | hg0
             · rcases M.ahead i o ho hci hp m p r1 r2 with hr | ⟨_,hl2⟩
               · have:=reachU (chainAt_lt r2) hr
                 rw [r3] at this; cases this
               · rw [r4] at hl2; cases hl2
             · exact hq.grow hg0 hl1
         · rw [h0]; exact hq
      exact aOp_sound hτ A (aQOp_aOp (M.quiet i o ho hci) (hq' (·=vs i) rfl) ok) (fun v cv st' Pr' γ' C' w' hk hr A'=>by
       obtain ⟨rfl,rfl⟩:=hk
       exact next A' hr) (fun _ _ _ _ _ _ _ h=>h.elim)
     unfold Yields' at hyi
     cases hg:o.guard with
     | none =>
       rw [hg] at hyi
       rw [if_pos (by simp [Region.wanted,hg])]
       exact run hyi
     | some q =>
       obtain ⟨j,want⟩:=q
       rw [hg] at hyi
       obtain ⟨d,q1,⟨b,q2,q3,q4⟩ | ⟨xs,q2,q4⟩⟩:=hyi
       rotate_left
       · have hsl:=A.fr.slot d
         rw [q2] at hsl
         have hyb:yielded ops a.tmps j=none:=by
          generalize hv:a.tmps.getD d undef=u at hsl
          cases hsl
          unfold yielded
          unfold dstOf at q1
          rw [q1]
          simp only [Option.bind_some]
          rw [Array.getD_eq_getD_getElem?] at hv
          cases hget:a.tmps[d]? with
          | none=>rfl
          | some v'=>rw [hget] at hv; simp at hv; subst hv; rfl
         rw [if_neg (by simp [Region.wanted,hg,hyb])]
         exact ⟨fun _ _=>trivial,next A (by rw [q4]; exact .raw _)⟩
       have hsl:=A.fr.slot d
       rw [q2] at hsl
       have hyb:yielded ops a.tmps j=some b:=by
        generalize hv:a.tmps.getD d undef=u at hsl
        cases hsl
        unfold yielded
        unfold dstOf at q1
        rw [q1]
        simp only [Option.bind_some]
        rw [Array.getD_eq_getD_getElem?] at hv
        cases hget:a.tmps[d]? with
        | none=>rw [hget] at hv; simp [undef] at hv
        | some v'=>rw [hget] at hv; simp at hv; subst hv; rfl
       by_cases e:b=want
       · rw [if_pos (by simp [Region.wanted,hg,hyb,e])]
         exact run (q3 e)
       · rw [if_neg (by simp [Region.wanted,hg,hyb,e])]
         have hu:=q4 e
         exact ⟨fun _ _=>trivial,next A (by rw [hu]; exact .raw _)⟩
   | true =>
     have hki:k≤i:=by
      rcases Nat.lt_or_ge i k with hlt | hge
      · have:=(hch i hci).2 hlt; rw [h1] at this; cases this
      · exact hge
     have hbetween:∀ j,k≤j→j < i→chainAt ops j=false:=by
      intro j hj1 hj2
      cases hc:chainAt ops j with
      | false=>rfl
      | true =>
        have:=(hch j hc).1 (reachL (M.line i j hin hci hc hj2)); omega
     obtain ⟨l',hl1,hl2⟩:=aCOps_skip (i - k) rest k hl (by omega) (fun j q1 q2=>hbetween j q1 (by omega)) h
     rw [show k+(i - k)=i by omega] at hl1 hl2
     cases l' with
     | nil=>have:=hl1 0; simp [hin] at this
     | cons o' l'' =>
     have:o'=o:=by have:=hl1 0; simp [ho] at this; exact this
     subst this
     have hl3:∀ j:Nat,l''[j]? = ops[i+1+j]? := fun j=>by have:=hl1 (j+1); simpa [Nat.add_assoc,Nat.add_comm 1 j] using this
     simp only [aCOps_cons,hci] at hl2
     have hag:∀ t∈o'.looksAt ops,F t=maskF ops (fun j=>listed.getD j false) fr0 F t:=by
      intro t ht
      rw [maskF_out]
      rintro ⟨j,q1,q2,q3,q4⟩
      rcases M.look i o' ho j t q1 q4 ht with ⟨hlt,hre⟩ | ⟨hlt,hre⟩
      · rw [reachL hre] at q3; cases q3
      · have:=M.free j i q1 q2 hci; rw [hre] at this; cases this
     have next:∀ {v:V} {cv:Value} {st':St} {Pr' γ' C' w'},aCOps P ok τ ops Zf l'' (i+1) (put F o'.dst v) st' Kf→(allocOp o'.op=true→Grow stc st')→Rep Pr' γ' w' v cv→X P ok E w0 mod γ0 Pr0 C0 nt ρ Pr' γ' C' (maskF ops (fun j=>listed.getD j false) fr0 F) st' a w'→wpAnyIn (fen ρ) 0 P .any ops Q fuel (listed.setIfInBounds i true) (a.put o'.dst cv) w':=by
      intro v cv st' Pr' γ' C' w' hk' hgr hr A'
      have A2:=A'.put o'.dst (fun t ht=>hd i t (by rw [hdst]; exact ht)) hr
      have e:put (maskF ops (fun j=>listed.getD j false) fr0 F) o'.dst v=maskF ops (fun j=>(listed.setIfInBounds i true).getD j false) fr0 (put F o'.dst v):=by
       funext t
       by_cases hit:dstOf ops i=some t
       · rw [← hdst,hit]
         simp only [put,upd_same]
         rw [maskF_out]
         · simp [upd]
         · rintro ⟨m,q1,q2,q3,q4⟩
           rw [M.uniq m i t q1 hin q4 hit,hci] at q2; cases q2
       · have e1:∀ G:Nat→V,put G o'.dst v t=G t:=fun G=>by
          rw [← hdst]
          cases hq:dstOf ops i with
          | none=>rfl
          | some d =>
            have:t≠d:=by rintro rfl; exact hit hq
            simp [put,upd_ne _ _ this]
         rw [e1]
         by_cases hm:∃ j,j < ops.size∧chainAt ops j=false∧listed.getD j false=false∧dstOf ops j=some t
         · obtain ⟨j,q1,q2,q3,q4⟩:=hm
           have hne:i≠j:=by rintro rfl; exact hit q4
           rw [maskF_in ⟨j,q1,q2,q3,q4⟩,maskF_in ⟨j,q1,q2,by rw [getD_set_ne false hne]; exact q3,q4⟩]
         · rw [maskF_out hm,maskF_out (fun ⟨j,q1,q2,q3,q4⟩=>hm ⟨j,q1,q2,by
            have hne:i≠j:=by rintro rfl; exact hit q4
            rw [getD_set_ne false hne] at q3; exact q3,q4⟩),e1]
      rw [e] at A2
      refine ih (listed.setIfInBounds i true) (by simpa using hs) hsize hclose hl3 (by omega) (fun j hcj=>?_) (fun t ht=>?_) ?_ (.inl ⟨i,hci,hseti⟩) hk' A2
      · by_cases e:i=j
        · subst e; simp [hseti]
        · rw [getD_set_ne false e,hch j hcj]
          constructor
          · intro hjk; omega
          · intro hji
            rcases Nat.lt_or_ge j k with h4 | h4
            · exact h4
            · have:=hbetween j h4 (by omega); rw [hcj] at this; cases this
      · have hit:dstOf ops i≠some t:=ht i hin hci hseti
        have e1:put F o'.dst v t=F t:=by
         rw [← hdst]
         cases hq:dstOf ops i with
         | none=>rfl
         | some d =>
           have:t≠d:=by rintro rfl; exact hit hq
           simp [put,upd_ne _ _ this]
        rw [e1]
        exact hF t fun j hj hcj hLj=>ht j hj hcj (getD_set_true hLj)
      · rcases hg0 with ⟨j,p,q0,q1,q2,q3⟩ | hg0
        · exact .inl ⟨j,p,q0,q1,getD_set_true q2,q3⟩
        · cases hal:allocOp o'.op with
          | true=>exact .inr (hg0.trans (hgr hal))
          | false=>exact .inl ⟨i,o',ho,hci,hseti,hal⟩
     have go:aOp P ok τ o' F stc (fun v st'=>aCOps P ok τ ops Zf l'' (i+1) (put F o'.dst v) st' Kf) Zf→o'.wpIn (fen ρ) 0 P a w (wpAnyIn (fen ρ) 0 P .any ops Q fuel (listed.setIfInBounds i true)) Q:=fun h=>by
      have h:=aOp_congr (looks_ev hag) h
      cases hal:allocOp o'.op with
      | true=>exact aOp_sound hτ A (aOp_grow hal h) (fun v cv st' Pr' γ' C' w' hk hr A'=>next hk.1 (fun _=>hk.2) hr A') (fun v cv st' Pr' γ' C' w' h hr A'=>hZ a w' _ st' Pr' γ' C' v cv h hr A')
      | false=>exact aOp_sound hτ A h (fun v cv st' Pr' γ' C' w' hk hr A'=>next hk (fun e=>by rw [hal] at e; cases e) hr A') (fun v cv st' Pr' γ' C' w' h hr A'=>hZ a w' _ st' Pr' γ' C' v cv h hr A')
     simp only [force_eq,forceSt_eq] at hl2
     cases hg:o'.guard with
     | none =>
       rw [hg] at hl2
       rw [if_pos (by simp [Region.wanted,hg])]
       exact go hl2
     | some q =>
       obtain ⟨j,want⟩:=q
       rw [hg] at hl2
       simp only at hl2
       split at hl2
       · rename_i d hdj
         split at hl2
         · rename_i b hb
           have hsl:=A.fr.slot d
           have hdl:F d=maskF ops (fun j=>listed.getD j false) fr0 F d:=hag d (by
            unfold Oper.looksAt
            rw [hg]
            refine List.mem_append_right _ ?_
            simp [hdj])
           rw [← hdl,hb] at hsl
           have hyb:yielded ops a.tmps j=some b:=by
            generalize hv:a.tmps.getD d undef=u at hsl
            cases hsl
            unfold yielded
            rw [hdj]
            simp only [Option.bind_some]
            rw [Array.getD_eq_getD_getElem?] at hv
            cases hget:a.tmps[d]? with
            | none=>rw [hget] at hv; simp [undef] at hv
            | some v'=>rw [hget] at hv; simp at hv; subst hv; rfl
           cases b <;> cases want <;> simp only [BC,negB,if_true,if_false,Bool.false_eq_true] at hl2
           · rw [if_pos (by simp [Region.wanted,hg,hyb])]
             exact go hl2
           · rw [if_neg (by simp [Region.wanted,hg,hyb])]
             exact ⟨fun _ _=>trivial,next hl2 (fun _=>.refl _) (.raw _) A⟩
           · rw [if_neg (by simp [Region.wanted,hg,hyb])]
             exact ⟨fun _ _=>trivial,next hl2 (fun _=>.refl _) (.raw _) A⟩
           · rw [if_pos (by simp [Region.wanted,hg,hyb])]
             exact go hl2
         · exact hl2.elim
       · exact hl2.elim
end
end Go.Cod
namespace Go.Cod
open Go
variable [Lam]
section
variable {P:Program} {τ:Tau} {Mx CH:Nat}
omit [Lam] in
theorem hasBit_eq (m j:Nat):hasBit m j=m.testBit j:=by
 unfold hasBit
 rw [Nat.testBit_eq_decide_div_mod_eq]
 show Nat.beq (m >>> j % 2) 1=_
 rw [Nat.shiftRight_eq_div_pow]
 cases h:Nat.beq (m / 2 ^ j % 2) 1
 · exact (decide_eq_false (Nat.ne_of_beq_eq_false h)).symm
 · exact (decide_eq_true (Nat.eq_of_beq_eq_true h)).symm
omit [Lam] in
theorem chainC_lt {CH n i:Nat} (h:chainC CH n i=true):i < n:=by
 unfold chainC at h
 split at h
 · cases h
 · rename_i hb
   have:¬ n≤i:=fun e=>by rw [Nat.ble_eq_true_of_le e] at hb; cases hb
   omega
omit [Lam] in
theorem relB_iff {M n i j:Nat}:relB M n i j=true↔j < n∧M.testBit (i*n+j)=true:=by
 unfold relB
 split
 · rename_i hb
   have:=Nat.le_of_ble_eq_true hb
   constructor
   · intro h; cases h
   · intro h; omega
 · rename_i hb
   have:¬ n≤j:=fun e=>by rw [Nat.ble_eq_true_of_le e] at hb; cases hb
   rw [hasBit_eq]
   exact ⟨fun h=>⟨by omega,h⟩,fun h=>h.2⟩
def CertTo (M:Nat) (ops:Array Oper) (i:Nat):Prop:=∀ a o,a < i→ops[a]? = some o→∀ j,relB M ops.size a j=true→∃ e∈o.after,Region.binds .any e=true∧(e.on=j∨relB M ops.size e.on j=true)
omit [Lam] in
theorem rowMake_bit {n M:Nat}:∀ (es:List Edge) (m j:Nat),(rowMake n M es m).testBit j=true→m.testBit j=true∨∃ e∈es,Region.binds .any e=true∧(e.on=j∨(rowAt M n e.on).testBit j=true)
 | [],m,j,h=>.inl h
 | e::es,m,j,h=>by
   simp only [rowMake] at h
   split at h
   · rename_i hb
     rcases rowMake_bit es _ j h with h | ⟨e',h1,h2⟩
     · have h':(m ||| (1 <<< e.on ||| rowAt M n e.on)).testBit j=true:=h
       rw [Nat.testBit_or,Nat.testBit_or,Bool.or_eq_true,Bool.or_eq_true] at h'
       rcases h' with h' | h' | h'
       · exact .inl h'
       · refine .inr ⟨e,by simp,hb,.inl ?_⟩
         rw [Nat.shiftLeft_eq,Nat.one_mul,Nat.testBit_two_pow] at h'
         simpa using h'
       · exact .inr ⟨e,by simp,hb,.inr h'⟩
     · exact .inr ⟨e',by simp [h1],h2⟩
   · rcases rowMake_bit es _ j h with h | ⟨e',h1,h2⟩
     · exact .inl h
     · exact .inr ⟨e',by simp [h1],h2⟩
omit [Lam] in
theorem rowAt_bit {M n i j:Nat}:(rowAt M n i).testBit j=true↔relB M n i j=true:=by
 rw [relB_iff]
 show ((M >>> (i*n)) % 2 ^ n).testBit j=true↔_
 rw [Nat.testBit_mod_two_pow,Nat.testBit_shiftRight,Bool.and_eq_true,decide_eq_true_eq]
omit [Lam] in
theorem matL_cert {ops:Array Oper} (n:Nat) (hn:n=ops.size):∀ (l:List Oper) (i M:Nat),(∀ j:Nat,l[j]? = ops[i+j]?)→i+l.length=n→M < 2 ^ (i*n)→CertTo M ops i→CertTo (matL n l i M) ops n
 | [],i,M,_,hi,_,h=>by simp at hi; subst hi; exact h
 | o::os,i,M,hl,hi,hM,h=>by
   simp only [matL]
   simp only [List.length_cons] at hi
   have ho:ops[i]? = some o:=by have:=hl 0; simpa using this.symm
   obtain ⟨r,hr⟩:∃ r,r=rowMake n M o.after.toList 0:=⟨_,rfl⟩
   rw [← hr]
   have hrl:r % 2 ^ n < 2 ^ n:=Nat.mod_lt _ (Nat.two_pow_pos n)
   have hbit:∀ x,(M ||| ((r % 2 ^ n) <<< (i*n))).testBit x=true↔M.testBit x=true∨(i*n≤x∧x - i*n < n∧r.testBit (x - i*n)=true):=fun x=>by
    rw [Nat.testBit_or,Nat.testBit_shiftLeft,Bool.or_eq_true,Bool.and_eq_true,Nat.testBit_mod_two_pow,Bool.and_eq_true,decide_eq_true_eq,decide_eq_true_eq]
   have hMf:∀ x,i*n≤x→M.testBit x=false:=fun x hx=>Nat.testBit_lt_two_pow (Nat.lt_of_lt_of_le hM (Nat.pow_le_pow_right (by omega) hx))
   have hmul:(i+1)*n=i*n+n:=Nat.succ_mul i n
   refine matL_cert n hn os (i+1) (M ||| ((r % 2 ^ n) <<< (i*n))) (fun j=>by have:=hl (j+1); simpa [Nat.add_assoc,Nat.add_comm 1 j] using this) (by omega) ?_ ?_
   · refine Nat.or_lt_two_pow (Nat.lt_of_lt_of_le hM (Nat.pow_le_pow_right (by omega) (by omega))) ?_
     rw [Nat.shiftLeft_eq,hmul,Nat.pow_add,Nat.mul_comm (2 ^ (i*n))]
     exact Nat.mul_lt_mul_of_pos_right hrl (Nat.two_pow_pos _)
   · have old:∀ a j,relB M ops.size a j=true→relB (M ||| ((r % 2 ^ n) <<< (i*n))) ops.size a j=true:=fun a j hr'=>by
      rw [relB_iff] at hr' ⊢
      exact ⟨hr'.1,(hbit _).2 (.inl hr'.2)⟩
     intro a oa ha hoa j hj
     rw [relB_iff,hbit] at hj
     obtain ⟨hjn,hj⟩:=hj
     rw [← hn] at hjn hj
     by_cases e:a=i
     · subst e
       rw [ho] at hoa; cases hoa
       rcases hj with hj | ⟨_,_,hj⟩
       · rw [hMf _ (by omega)] at hj; cases hj
       · rw [show a*n+j - a*n=j by omega,hr] at hj
         rcases rowMake_bit _ _ _ hj with hj | ⟨e,h1,h2,h3⟩
         · simp at hj
         · refine ⟨e,by simpa using h1,h2,?_⟩
           rcases h3 with h3 | h3
           · exact .inl h3
           · rw [rowAt_bit] at h3
             rw [hn] at h3
             exact .inr (old _ _ h3)
     · have hlt:a < i:=by omega
       have hle:(a+1)*n≤i*n:=Nat.mul_le_mul_right n (by omega)
       rw [Nat.succ_mul] at hle
       rcases hj with hj | ⟨h1,_,_⟩
       · obtain ⟨e,h1,h2,h3⟩:=h a oa hlt hoa j (by rw [relB_iff,← hn]; exact ⟨hjn,hj⟩)
         exact ⟨e,h1,h2,h3.imp id (old _ _)⟩
       · omega
omit [Lam] in
theorem mat_cert (ops:Array Oper):CertTo (matL ops.size ops.toList 0 0) ops ops.size :=
 matL_cert ops.size rfl ops.toList 0 0 (fun j=>by simp) (by simp) (Nat.two_pow_pos _) (fun a _ h=>by omega)
omit [Lam] in
theorem rel_closed {M:Nat} {ops:Array Oper} (hM:CertTo M ops ops.size) (hb:∀ (i:Nat) o,ops[i]? = some o→∀ e∈o.after,Region.binds .any e=true→e.on < i) {L:Nat→Prop} (hL:∀ i o,ops[i]? = some o→L i→∀ e∈o.after,Region.binds .any e=true→L e.on):∀ (i j:Nat) (o:Oper),ops[i]? = some o→(∀ e∈o.after,Region.binds .any e=true→L e.on)→relB M ops.size i j=true→L j:=by
 intro i
 induction i using Nat.strongRecOn with
 | _ i ih =>
   intro j o ho hd h
   have hi:i < ops.size:=(Array.getElem?_eq_some_iff.1 ho).1
   obtain ⟨e,h1,h2,h3⟩:=hM i o hi ho j h
   rcases h3 with h3 | h3
   · rw [← h3]; exact hd e h1 h2
   · have hlt:=hb i o ho e h1 h2
     have he:e.on < ops.size:=by omega
     exact ih e.on hlt j ops[e.on] (by simp [he]) (hL e.on _ (by simp [he]) (hd e h1 h2)) h3
open Classical in
noncomputable def maskF2 (CH:Nat) (ops:Array Oper) (L:Nat→Bool) (fr0 F:Nat→V):Nat→V:=fun t =>
 if ∃ j,j < ops.size∧chainC CH ops.size j=false∧L j=false∧dstOf ops j=some t then fr0 t else F t
omit [Lam] in
theorem maskF2_in {ops:Array Oper} {L:Nat→Bool} {fr0 F:Nat→V} {t:Nat} (h:∃ j,j < ops.size∧chainC CH ops.size j=false∧L j=false∧dstOf ops j=some t):maskF2 CH ops L fr0 F t=fr0 t:=by
 unfold maskF2; rw [if_pos h]
omit [Lam] in
theorem maskF2_out {ops:Array Oper} {L:Nat→Bool} {fr0 F:Nat→V} {t:Nat} (h:¬ ∃ j,j < ops.size∧chainC CH ops.size j=false∧L j=false∧dstOf ops j=some t):maskF2 CH ops L fr0 F t=F t:=by
 unfold maskF2; rw [if_neg h]
structure Mix2 (τ:Tau) (Mx CH:Nat) (ops:Array Oper):Prop where
 quiet:∀ (i:Nat) o,ops[i]? = some o→chainC CH ops.size i=false→quietOp o.op=true
 back:∀ (i:Nat) o,ops[i]? = some o→∀ e∈o.after,Region.binds .any e=true→e.on < i
 uniq:Uniq ops
 look:∀ (i:Nat) o,ops[i]? = some o→∀ j t,j < ops.size→dstOf ops j=some t→t∈o.looksAt ops→(j < i∧relB Mx ops.size i j=true)∨(i < j∧relB Mx ops.size j i=true)
 free:∀ (i j:Nat),i < ops.size→chainC CH ops.size i=false→chainC CH ops.size j=true→relB Mx ops.size i j=false
 ahead:∀ (i:Nat) o,ops[i]? = some o→chainC CH ops.size i=false→plainOp o.op=false→∀ (j:Nat) p,ops[j]? = some p→chainC CH ops.size j=true→floatOk ops i=true∨relB Mx ops.size j i=true∨(lookOp o.op=true∧allocOp p.op=true)
theorem mix2_spec {ops:Array Oper} (h:mix2Ok τ Mx CH ops=true):Mix2 τ Mx CH ops:=by
 unfold mix2Ok at h
 simp only [List.all_eq_true,List.mem_range] at h
 have H:∀ (i:Nat) o,ops[i]? = some o→(chainC CH ops.size i=true∨quietOp o.op=true)∧(∀ e∈o.after,Region.binds .any e=true→e.on < i) ∧
   (∀ j,j < ops.size→(i=j∨dstOf ops i=none∨dstOf ops i≠dstOf ops j)∧(∀ t,dstOf ops j=some t→t∈o.looksAt ops→(j < i∧relB Mx ops.size i j=true)∨(i < j∧relB Mx ops.size j i=true))) ∧
   (chainC CH ops.size i=false→(∀ j,chainC CH ops.size j=true→relB Mx ops.size i j=false)∧(plainOp o.op=false→∀ (j:Nat) p,ops[j]? = some p→chainC CH ops.size j=true→floatOk ops i=true∨relB Mx ops.size j i=true∨(lookOp o.op=true∧allocOp p.op=true))):=by
  intro i o ho
  have hi:i < ops.size:=(Array.getElem?_eq_some_iff.1 ho).1
  have:=h i hi
  rw [ho] at this
  simp only [Bool.and_eq_true,List.all_eq_true,List.mem_range,Bool.or_eq_true] at this
  obtain ⟨⟨⟨h1,h2⟩,h3⟩,h4⟩:=this
  refine ⟨h1.imp id (·.1),fun e he hb=>?_,fun j hj=>?_,fun hc=>⟨fun j hj=>?_,fun hp j p hpj hj=>?_⟩⟩
  · have:=h2 e (by simpa using he)
    simp [hb] at this
    exact this
  · obtain ⟨a,b⟩:=h3 j hj
    refine ⟨?_,fun t ht hm=>?_⟩
    · rcases a with (a | a) | a
      · exact .inl (by simpa using a)
      · exact .inr (.inl (by unfold dstOf; rw [ho]; simpa using a))
      · refine .inr (.inr fun e=>?_)
        unfold dstOf at e
        rw [← ho,e] at a
        simp at a
    · unfold dstOf at ht
      rw [ht] at b
      simp only [Bool.or_eq_true,Bool.not_eq_true',Bool.and_eq_true,decide_eq_true_eq] at b
      rcases b with (b | b) | b
      · have:(o.looksAt ops).contains t=true:=by simpa using hm
        rw [this] at b; cases b
      · exact .inl b
      · exact .inr b
  · rw [hc] at h4
    simp only [Bool.and_eq_true,List.all_eq_true,List.mem_range,Bool.not_eq_true',Bool.and_eq_false_imp] at h4
    exact h4.1 j (chainC_lt hj) hj
  · rw [hc] at h4
    simp only [Bool.and_eq_true,List.all_eq_true,List.mem_range,Bool.or_eq_true,Bool.not_eq_true'] at h4
    rcases h4.2 with (h | h) | h
    · rw [hp] at h; cases h
    · exact .inl h
    · rcases h j (chainC_lt hj) with (h | h) | h
      · rw [hj] at h; cases h
      · exact .inr (.inl h)
      · rw [hpj] at h; exact .inr (.inr h)
 refine ⟨fun i o ho hc=>?_,fun i o ho=>(H i o ho).2.1,fun i j t hi hj h1 h2=>?_,fun i o ho j t hj h1 h2=>((H i o ho).2.2.1 j hj).2 t h1 h2,
  fun i j hi hc hj=>((H i ops[i] (by simp [hi])).2.2.2 hc).1 j hj,fun i o ho hc hp j p hpj hj=>((H i o ho).2.2.2 hc).2 hp j p hpj hj⟩
 · rcases (H i o ho).1 with h | h
   · rw [hc] at h; cases h
   · exact h
 · rcases ((H i ops[i] (by simp [hi])).2.2.1 j hj).1 with e | e | e
   · exact e
   · rw [e] at h1; cases h1
   · rw [h1,h2] at e; exact absurd rfl e
theorem Yields'.imp {ops:Array Oper} {st st':St} {o:Oper} {fr:Nat→V} {v:V} (h:QDet P τ st o fr v→QDet P τ st' o fr v) (hy:Yields' P τ ops st o fr v):Yields' P τ ops st' o fr v:=by
 unfold Yields' at hy ⊢
 cases hg:o.guard with
 | none=>rw [hg] at hy; exact h hy
 | some q =>
   obtain ⟨j,want⟩:=q
   rw [hg] at hy
   obtain ⟨d,h1,⟨b,h2,h3,h4⟩ | ⟨xs,h2,h4⟩⟩:=hy
   · exact ⟨d,h1,.inl ⟨b,h2,fun e=>h (h3 e),h4⟩⟩
   · exact ⟨d,h1,.inr ⟨xs,h2,h4⟩⟩
theorem aFloat_spec {ops:Array Oper} {F:Nat→V} {st:St} {C:Prop}:∀ (l:List Nat),aFloat P τ ops l F st C→C∧∀ i∈l,∀ o,ops[i]? = some o→quietOp o.op=true→∃ t,o.dst=some t∧(o.guard=none→QDet P τ st o F (F t)) ∧
   ∀ j want,o.guard=some (j,want)→∃ d b,dstOf ops j=some d∧F d=.bool b∧(b=want→QDet P τ st o F (F t))
 | [],h=>⟨h,fun i hi=>by simp at hi⟩
 | i::is,h=>by
   obtain ⟨h0,h⟩:=h
   obtain ⟨h1,h2⟩:=aFloat_spec is h
   refine ⟨h1,fun x hx o ho hq=>?_⟩
   rcases List.mem_cons.1 hx with rfl | hx
   · rw [ho] at h0
     simp only at h0
     split at h0
     · exact h0.elim
     · rename_i t ht
       refine ⟨t,ht,fun hg=>?_,fun j want hg=>?_⟩
       · rw [hg] at h0
         obtain ⟨v,rfl,hd⟩:=aQOp_det hq h0
         exact hd
       · rw [hg] at h0
         simp only at h0
         split at h0
         · rename_i d hd
           split at h0
           · rename_i b hb
             refine ⟨d,b,hd,hb,fun e=>?_⟩
             subst e
             cases b <;> simp only [BC,negB,if_true,if_false,Bool.false_eq_true] at h0
             · obtain ⟨v,rfl,hd⟩:=aQOp_det hq h0
               exact hd
             · obtain ⟨v,rfl,hd⟩:=aQOp_det hq h0
               exact hd
           · exact h0.elim
         · exact h0.elim
   · exact h2 x hx o ho hq
theorem erun2 {ops:Array Oper} {st:St} {fr0:Nat→V} {K:(Nat→V)→Prop} (M:Mix2 τ Mx CH ops) :
  ∀ (l:List Oper) (k:Nat) (vs:Nat→V),(∀ j:Nat,l[j]? = ops[k+j]?)→k+l.length=ops.size→aEOps2 P τ CH ops l k (frS ops vs fr0 fun j=>decide (j < k)&&!chainC CH ops.size j) st K →
  ∃ vs',(∀ j,j < k→vs' j=vs j)∧(∀ (i:Nat) o,k≤i→ops[i]? = some o→chainC CH ops.size i=false→Yields' P τ ops st o (frS ops vs' fr0 fun j=>decide (j < i)&&!chainC CH ops.size j) (vs' i))∧K (frS ops vs' fr0 fun j=>decide (j < ops.size)&&!chainC CH ops.size j)
 | [],k,vs,_,hk,h=>by
   simp at hk
   subst hk
   exact ⟨vs,fun _ _=>rfl,fun i o hi ho=>by have:=(Array.getElem?_eq_some_iff.1 ho).1; omega,h⟩
 | o::l,k,vs,hl,hk,h=>by
   have ho:ops[k]? = some o:=by have:=hl 0; simpa using this.symm
   have hkn:k < ops.size:=(Array.getElem?_eq_some_iff.1 ho).1
   have hdst:dstOf ops k=o.dst:=by simp [dstOf,ho]
   simp only [List.length_cons] at hk
   have hl':∀ j:Nat,l[j]? = ops[k+1+j]? := fun j=>by have:=hl (j+1); simpa [Nat.add_assoc,Nat.add_comm 1 j] using this
   simp only [aEOps2_cons] at h
   cases hck:chainC CH ops.size k with
   | true =>
     rw [hck] at h
     have e:(frS ops vs fr0 fun j=>decide (j < k)&&!chainC CH ops.size j)=frS ops vs fr0 fun j=>decide (j < k+1)&&!chainC CH ops.size j:=frS_congr (fun j _=>by
      by_cases e:j=k
      · subst e; simp [hck]
      · congr 1; exact decide_eq_decide.2 (by omega)) fun _ _ _=>rfl
     rw [e] at h
     obtain ⟨vs',q1,q2,q3⟩:=erun2 M l (k+1) vs hl' (by omega) h
     refine ⟨vs',fun j hj=>q1 j (by omega),fun i o' hi ho' hc=>?_,q3⟩
     by_cases e:i=k
     · subst e; rw [hck] at hc; cases hc
     · exact q2 i o' (by omega) ho' hc
   | false =>
   rw [hck] at h
   simp only at h
   have next:∀ v,aEOps2 P τ CH ops l (k+1) (put (frS ops vs fr0 fun j=>decide (j < k)&&!chainC CH ops.size j) o.dst v) st K→Yields' P τ ops st o (frS ops vs fr0 fun j=>decide (j < k)&&!chainC CH ops.size j) v →
     ∃ vs',(∀ j,j < k→vs' j=vs j)∧(∀ (i:Nat) o,k≤i→ops[i]? = some o→chainC CH ops.size i=false→Yields' P τ ops st o (frS ops vs' fr0 fun j=>decide (j < i)&&!chainC CH ops.size j) (vs' i))∧K (frS ops vs' fr0 fun j=>decide (j < ops.size)&&!chainC CH ops.size j):=by
    intro v hv hy
    let vs1:Nat→V:=fun j=>if j=k then v else vs j
    have lt1:∀ j:Nat,(decide (j < k)&&!chainC CH ops.size j)=true→j≠k:=fun j hj=>by simp at hj; omega
    have e0:(frS ops vs fr0 fun j=>decide (j < k)&&!chainC CH ops.size j)=frS ops vs1 fr0 fun j=>decide (j < k)&&!chainC CH ops.size j:=frS_congr (fun _ _=>rfl) fun j _ hj=>by
     have:=lt1 j hj; simp [vs1,this]
    have e1:put (frS ops vs fr0 fun j=>decide (j < k)&&!chainC CH ops.size j) o.dst v=frS ops vs1 fr0 fun j=>decide (j < k+1)&&!chainC CH ops.size j:=by
     rw [e0,← hdst]
     have:=frS_put (vs:=vs1) (fr0:=fr0) (L:=fun j=>decide (j < k)&&!chainC CH ops.size j) (L':=fun j=>decide (j < k+1)&&!chainC CH ops.size j) M.uniq hkn (fun j _=>by
      by_cases e:j=k
      · subst e; simp [hck]
      · have h1:(j == k)=false:=by simpa using e
        rw [h1,Bool.or_false]
        congr 1; exact decide_eq_decide.2 (by omega))
     rw [← this]
     simp [vs1]
    rw [e1] at hv
    obtain ⟨vs',q1,q2,q3⟩:=erun2 M l (k+1) vs1 hl' (by omega) hv
    refine ⟨vs',fun j hj=>by rw [q1 j (by omega)]; simp [vs1]; omega,fun i o' hi ho' hc=>?_,q3⟩
    by_cases e:i=k
    · subst e
      rw [ho] at ho'; cases ho'
      have ev':vs' i=v:=by rw [q1 i (by omega)]; simp [vs1]
      rw [ev']
      have e2:(frS ops vs fr0 fun j=>decide (j < i)&&!chainC CH ops.size j)=frS ops vs' fr0 fun j=>decide (j < i)&&!chainC CH ops.size j:=frS_congr (fun _ _=>rfl) fun j _ hj=>by
       have hne:=lt1 j hj
       have:j < i:=by simp at hj; exact hj.1
       rw [q1 j (by omega)]; simp [vs1,hne]
      rw [← e2]; exact hy
    · exact q2 i o' (by omega) ho' hc
   split at h
   · rename_i hg
     obtain ⟨v,h1,h2⟩:=aQOp_det (M.quiet k o ho hck) h
     rw [force_eq] at h1
     exact next v h1 (by unfold Yields'; rw [hg]; exact h2)
   · rename_i j want hg
     split at h
     · rename_i d hd
       split at h
       · rename_i b hb
         cases b <;> cases want <;> simp only [BC,negB,if_true,if_false,Bool.false_eq_true] at h
         · obtain ⟨v,h1,h2⟩:=aQOp_det (M.quiet k o ho hck) h
           rw [force_eq] at h1
           exact next v h1 (by unfold Yields'; rw [hg]; exact ⟨d,hd,.inl ⟨_,hb,fun _=>h2,fun e=>absurd rfl e⟩⟩)
         · exact next undefV h (by unfold Yields'; rw [hg]; exact ⟨d,hd,.inl ⟨_,hb,(fun e=>by cases e),fun _=>rfl⟩⟩)
         · exact next undefV h (by unfold Yields'; rw [hg]; exact ⟨d,hd,.inl ⟨_,hb,(fun e=>by cases e),fun _=>rfl⟩⟩)
         · obtain ⟨v,h1,h2⟩:=aQOp_det (M.quiet k o ho hck) h
           rw [force_eq] at h1
           exact next v h1 (by unfold Yields'; rw [hg]; exact ⟨d,hd,.inl ⟨_,hb,fun _=>h2,fun e=>absurd rfl e⟩⟩)
       · rename_i xs hb
         exact next undefV h (by unfold Yields'; rw [hg]; exact ⟨d,hd,.inr ⟨xs,hb,rfl⟩⟩)
       · exact h.elim
     · exact h.elim
omit [Lam] in
theorem allL_mem {α:Type}:∀ {l:List α} {f:α→Prop},allL l f→∀ i∈l,f i
 | [],_,_,i,h=>by simp at h
 | [j],_,H,i,h=>by simp at h; subst h; exact H
 | j::k::l,f,H,i,h=>by
   rcases List.mem_cons.1 h with rfl | h
   · exact H.1
   · exact allL_mem (l:=k::l) H.2 i h
def predsX (Mx CH:Nat) (ops:Array Oper) (i:Nat):List Nat:=(List.range ops.size).filter (fun j=>relB Mx ops.size i j&&chainC CH ops.size j)
def floatX (Mx CH:Nat) (ops:Array Oper) (i:Nat):List Nat:=(List.range ops.size).filter (floatsAt Mx CH ops i)
omit [Lam] in
theorem List.monotone_filter_right' {p q:Nat→Bool}:∀ (l:List Nat),(∀ x∈l,q x=true→p x=true)→(l.filter q).Sublist (l.filter p)
 | [],_=>.refl _
 | x::l,h=>by
   have ih:=List.monotone_filter_right' l fun y hy=>h y (by simp [hy])
   simp only [List.filter_cons]
   cases hq:q x
   · cases hp:p x
     · simpa using ih
     · simpa using ih.cons x
   · rw [h x (by simp) hq]; simpa using ih.cons_cons x
omit [Lam] in
theorem plan_len (M CH:Nat) (ops:Array Oper) {L:Nat→Bool} (_:∀ i,L i=false):((List.range ops.size).filter fun i=>chainC CH ops.size i&&!L i).length≤(planOf M CH ops).length:=by
 unfold planOf
 rw [List.length_map]
 refine (List.Sublist.length_le (List.monotone_filter_right' _ fun x _ hx=>?_))
 simp only [Bool.and_eq_true] at hx
 exact hx.1
omit [Lam] in
theorem readyX_mem {ops:Array Oper} {l:List Nat} {e:Nat × List Nat × List Nat}:e∈readyX (planOf Mx CH ops) l↔∃ i,e=(i,predsX Mx CH ops i,floatX Mx CH ops i)∧i < ops.size∧i∉l∧chainC CH ops.size i=true∧∀ j,j < ops.size→relB Mx ops.size i j=true→chainC CH ops.size j=true→j∈l:=by
 unfold readyX planOf
 rw [List.mem_filter,List.mem_map]
 simp only [Bool.and_eq_true,Bool.not_eq_true',List.all_eq_true]
 constructor
 · rintro ⟨⟨i,h1,rfl⟩,h2,h3⟩
   rw [List.mem_filter,List.mem_range] at h1
   refine ⟨i,rfl,h1.1,by simpa using h2,h1.2,fun j hj hr hc=>?_⟩
   have:=h3 j (List.mem_filter.2 ⟨List.mem_range.2 hj,by rw [hr,hc]; rfl⟩)
   simpa using this
 · rintro ⟨i,rfl,h1,h2,h3,h4⟩
   refine ⟨⟨i,List.mem_filter.2 ⟨List.mem_range.2 h1,h3⟩,rfl⟩,by simpa using h2,fun j hj=>?_⟩
   simp only [predsX,List.mem_filter,List.mem_range,Bool.and_eq_true] at hj
   simpa using h4 j hj.1 hj.2.1 hj.2.2
variable {ok:OkY} {E:Env P ok} {w0:World} {mod:Nat→Prop} {γ0:List G} {Pr0:Nat→Nat→Prop} {C0:Nat→Prop} {nt:Nat} {ρ:Option Nat}
theorem mix2_sound (hτ:TauGood P τ) {ops:Array Oper} (M:Mix2 τ Mx CH ops) (hM:CertTo Mx ops ops.size) (hd:∀ (i:Nat) t,dstOf ops i=some t→t < nt) {vs fr0:Nat→V} {Q:Exit→Act→World→Prop} {Kf:(Nat→V)→St→Prop} {Zf:V→St→Prop}
  (hZ:∀ a w fr st Pr γ C v cv,Zf v st→Rep Pr γ w v cv→X P ok E w0 mod γ0 Pr0 C0 nt ρ Pr γ C fr st a w→Q (.panic [{ v:=cv,recovered:=false }]) a w)
  (hQ:∀ a w fr st Pr γ C,Kf fr st→X P ok E w0 mod γ0 Pr0 C0 nt ρ Pr γ C fr st a w→Q .normal a w) :
  ∀ (fuel:Nat) (listed:Array Bool) {F:Nat→V} {stc:St} {l:List Nat} {n:List (Nat × List Nat × List Nat)} {Pr γ C a w},listed.size=ops.size→((List.range ops.size).filter fun i=>!listed.getD i false).length≤fuel →
    (∀ i o,ops[i]? = some o→listed.getD i false=true→∀ e∈o.after,Region.binds .any e=true→listed.getD e.on false=true) →
    ((List.range ops.size).filter fun i=>chainC CH ops.size i&&!listed.getD i false).length≤n.length→(∀ j,chainC CH ops.size j=true→(listed.getD j false=true↔j∈l)) →
    (∀ t,(∀ j,j < ops.size→chainC CH ops.size j=true→listed.getD j false=true→dstOf ops j≠some t)→F t=(frS ops vs fr0 fun j=>decide (j < ops.size)&&!chainC CH ops.size j) t) →
    (∀ (i:Nat) o,ops[i]? = some o→chainC CH ops.size i=false→listed.getD i false=false→Yields' P τ ops stc o (frS ops vs fr0 fun j=>decide (j < i)&&!chainC CH ops.size j) (vs i))→aXOps P ok τ ops Zf (planOf Mx CH ops) Kf n l F stc →
    X P ok E w0 mod γ0 Pr0 C0 nt ρ Pr γ C (maskF2 CH ops (fun j=>listed.getD j false) fr0 F) stc a w→wpAnyIn (fen ρ) 0 P .any ops Q fuel listed a w:=by
 have both:∀ (listed:Array Bool) (i:Nat),listed.size=ops.size→i < ops.size→listed.getD i true=listed.getD i false:=by
  intro listed i hs hi
  simp [Array.getD,hs,hi]
 have finish:∀ (listed:Array Bool),listed.size=ops.size→Region.ready .any ops listed=[]→∀ i,i < ops.size→listed.getD i false=true:=by
  intro listed hs hr i
  induction i using Nat.strongRecOn with
  | _ i ih =>
    intro hi
    cases hl:listed.getD i false with
    | true=>rfl
    | false =>
      have:i∈Region.ready .any ops listed:=mem_ready.2 ⟨by rw [both listed i hs hi]; exact hl,ops[i],by simp [hi],fun e he hb=>ih e.on (M.back i _ (by simp [hi]) e he hb) (Nat.lt_trans (M.back i _ (by simp [hi]) e he hb) hi)⟩
      rw [hr] at this; simp at this
 have done:∀ (listed:Array Bool) {F:Nat→V} {stc:St} {l:List Nat} {n:List (Nat × List Nat × List Nat)} {Pr γ C a w},listed.size=ops.size→(∀ i,i < ops.size→listed.getD i false=true)→(∀ j,chainC CH ops.size j=true→(listed.getD j false=true↔j∈l))→aXOps P ok τ ops Zf (planOf Mx CH ops) Kf n l F stc →
   X P ok E w0 mod γ0 Pr0 C0 nt ρ Pr γ C (maskF2 CH ops (fun j=>listed.getD j false) fr0 F) stc a w→Q .normal a w:=by
  intro listed F stc l n Pr γ C a w hs hall hch h A
  have e:maskF2 CH ops (fun j=>listed.getD j false) fr0 F=F:=by
   funext t
   exact maskF2_out fun ⟨j,h1,_,h2,_⟩=>by rw [hall j h1] at h2; cases h2
  rw [e] at A
  have hr:readyX (planOf Mx CH ops) l=[]:=List.eq_nil_iff_forall_not_mem.2 fun e hi=>by
   obtain ⟨i,_,h1,h2,h3,_⟩:=readyX_mem.1 hi
   exact h2 ((hch i h3).1 (hall i h1))
  cases n with
  | nil =>
    have h:(match readyX (planOf Mx CH ops) l with | []=>Kf F stc | _::_=>False):=h
    rw [hr] at h; exact hQ a w F stc Pr γ C h A
  | cons _ n =>
    rw [aXOps_cons] at h
    simp only [hr] at h; exact hQ a w F stc Pr γ C h A
 intro fuel
 induction fuel with
 | zero =>
   intro listed F stc l n Pr γ C a w hs hc hcl hn hch hF hY h A
   have hall:∀ i,i < ops.size→listed.getD i false=true:=by
    intro i hi
    cases hl:listed.getD i false with
    | true=>rfl
    | false =>
      have:i∈(List.range ops.size).filter fun i=>!listed.getD i false:=List.mem_filter.2 ⟨by simpa using hi,by rw [hl]; rfl⟩
      rw [List.length_eq_zero_iff.1 (Nat.le_zero.1 hc)] at this
      simp at this
   refine ⟨?_,done listed hs hall hch h A⟩
   refine List.eq_nil_iff_forall_not_mem.2 fun i hi=>?_
   obtain ⟨h1,o,ho,_⟩:=mem_ready.1 hi
   have hi':i < ops.size:=(Array.getElem?_eq_some_iff.1 ho).1
   rw [both listed i hs hi',hall i hi'] at h1
   cases h1
 | succ fuel ih =>
   intro listed F stc l n Pr γ C a w hs hc hcl hn hch hF hY h A
   refine ⟨fun hr=>done listed hs (finish listed hs hr) hch h A,fun i hi=>?_⟩
   obtain ⟨h1,o,ho,h3⟩:=mem_ready.1 hi
   have hin:i < ops.size:=(Array.getElem?_eq_some_iff.1 ho).1
   rw [both listed i hs hin] at h1
   have hdst:dstOf ops i=o.dst:=by simp [dstOf,ho]
   have reachL:∀ {j:Nat},relB Mx ops.size i j=true→listed.getD j false=true:=fun hre=>rel_closed hM M.back (L:=fun x=>listed.getD x false=true) (fun x o' ho' hx=>hcl x o' ho' hx) i _ o ho h3 hre
   have reachU:∀ {j:Nat},j < ops.size→relB Mx ops.size j i=true→listed.getD j false=false:=fun {j} hj hre=>by
    cases hl:listed.getD j false with
    | false=>rfl
    | true =>
      have:=rel_closed hM M.back (L:=fun x=>listed.getD x false=true) (fun x o' ho' hx=>hcl x o' ho' hx) j i ops[j] (by simp [hj]) (fun e he hb=>hcl j ops[j] (by simp [hj]) hl e he hb) hre
      rw [h1] at this; cases this
   have hsize:((List.range ops.size).filter fun j=>!(listed.setIfInBounds i true).getD j false).length≤fuel:=by
    have:=filter_lt (p:=fun i=>!listed.getD i false) (q:=fun j=>!(listed.setIfInBounds i true).getD j false) (List.range ops.size) (fun x _ hx=>by
     cases hl:listed.getD x false with
     | false=>rfl
     | true=>simp only [getD_set_true (i:=i) hl] at hx; cases hx) ⟨i,by simpa using hin,by simp only [h1]; rfl,by simp [Array.getD,hs,hin]⟩
    omega
   have hsizen:((List.range ops.size).filter fun j=>chainC CH ops.size j&&!(listed.setIfInBounds i true).getD j false).length≤n.length:=by
    refine Nat.le_trans ?_ hn
    refine (List.Sublist.length_le ?_)
    refine List.monotone_filter_right' _ fun x _ hx=>?_
    simp only [Bool.and_eq_true,Bool.not_eq_true'] at hx ⊢
    refine ⟨hx.1,?_⟩
    cases hl:listed.getD x false with
    | false=>rfl
    | true=>rw [getD_set_true (i:=i) hl] at hx; exact absurd hx.2 (by simp)
   have hsizec:chainC CH ops.size i=true→((List.range ops.size).filter fun j=>chainC CH ops.size j&&!(listed.setIfInBounds i true).getD j false).length+1≤n.length:=fun hci=>by
    have:=filter_lt (p:=fun i=>chainC CH ops.size i&&!listed.getD i false) (q:=fun j=>chainC CH ops.size j&&!(listed.setIfInBounds i true).getD j false) (List.range ops.size) (fun x _ hx=>by
     simp only [Bool.and_eq_true,Bool.not_eq_true'] at hx ⊢
     refine ⟨hx.1,?_⟩
     cases hl:listed.getD x false with
     | false=>rfl
     | true=>rw [getD_set_true (i:=i) hl] at hx; exact absurd hx.2 (by simp)) ⟨i,by simpa using hin,by simp only [h1,hci]; rfl,by simp [Array.getD,hs,hin]⟩
    omega
   have hclose:∀ k o',ops[k]? = some o'→(listed.setIfInBounds i true).getD k false=true→∀ e∈o'.after,Region.binds .any e=true→(listed.setIfInBounds i true).getD e.on false=true:=by
    intro k o' ho' hk e he hb
    by_cases e1:i=k
    · subst e1
      rw [ho] at ho'; cases ho'
      exact getD_set_true (h3 e he hb)
    · rw [getD_set_ne false e1] at hk
      exact getD_set_true (hcl k o' ho' hk e he hb)
   have hseti:(listed.setIfInBounds i true).getD i false=true:=by simp [Array.getD,hs,hin]
   have hF1:∀ t,(∀ j,j < ops.size→chainC CH ops.size j=false→dstOf ops j≠some t)→(frS ops vs fr0 fun j=>decide (j < ops.size)&&!chainC CH ops.size j) t=fr0 t:=fun t ht=>frS_miss fun j hj hL=>by
    simp only [Bool.and_eq_true,Bool.not_eq_true'] at hL
    exact ht j hj hL.2
   have hF1v:∀ j t,j < ops.size→chainC CH ops.size j=false→dstOf ops j=some t→(frS ops vs fr0 fun j=>decide (j < ops.size)&&!chainC CH ops.size j) t=vs j:=fun j t hj hc ht=>frS_hit M.uniq hj (by simp [hj,hc]) ht
   unfold wpOpIn
   simp only [ho]
   cases hci:chainC CH ops.size i with
   | false =>
     have hag:∀ t∈o.looksAt ops,(frS ops vs fr0 fun j=>decide (j < i)&&!chainC CH ops.size j) t=maskF2 CH ops (fun j=>listed.getD j false) fr0 F t:=by
      intro t ht
      by_cases hex:∃ j,j < ops.size∧dstOf ops j=some t
      · obtain ⟨j,hj,hjt⟩:=hex
        have uq:∀ {m:Nat},m < ops.size→dstOf ops m=some t→m=j:=fun hm hmt=>M.uniq _ _ _ hm hj hmt hjt
        rcases M.look i o ho j t hj hjt ht with ⟨hlt,hre⟩ | ⟨hlt,hre⟩
        · have hLj:=reachL hre
          have hcj:chainC CH ops.size j=false:=by
           cases hc:chainC CH ops.size j with
           | false=>rfl
           | true=>have:=M.free i j hin hci hc; rw [hre] at this; cases this
          rw [frS_hit M.uniq hj (by simp [hlt,hcj]) hjt,maskF2_out,hF t (fun m hm hcm hLm hmt=>by rw [uq hm hmt,hcj] at hcm; cases hcm),hF1v j t hj hcj hjt]
          rintro ⟨m,q1,q2,q3,q4⟩
          rw [uq q1 q4,hLj] at q3; cases q3
        · have hLj:=reachU hj hre
          rw [frS_miss (fun m hm h2 h4=>by have:=uq hm h4; subst this; simp at h2; omega)]
          cases hcj:chainC CH ops.size j with
          | false=>rw [maskF2_in ⟨j,hj,hcj,hLj,hjt⟩]
          | true =>
            rw [maskF2_out (fun ⟨m,q1,q2,q3,q4⟩=>by rw [uq q1 q4,hcj] at q2; cases q2),hF t (fun m hm hcm hLm hmt=>by rw [uq hm hmt,hLj] at hLm; cases hLm),hF1 t (fun m hm hcm hmt=>by rw [uq hm hmt,hcj] at hcm; cases hcm)]
      · have no:∀ m,m < ops.size→dstOf ops m≠some t:=fun m hm hmt=>hex ⟨m,hm,hmt⟩
        rw [frS_miss (fun m hm _=>no m hm),maskF2_out (fun ⟨m,q1,_,_,q4⟩=>no m q1 q4),hF t (fun m hm _ _=>no m hm),hF1 t (fun m hm _=>no m hm)]
     have hyi:=(hY i o ho hci h1).congr hag
     have next:∀ {Pr' γ' C' cv w'},X P ok E w0 mod γ0 Pr0 C0 nt ρ Pr' γ' C' (maskF2 CH ops (fun j=>listed.getD j false) fr0 F) stc a w'→Rep Pr' γ' w' (vs i) cv→wpAnyIn (fen ρ) 0 P .any ops Q fuel (listed.setIfInBounds i true) (a.put o.dst cv) w':=by
      intro Pr' γ' C' cv w' A' hr
      have A2:=A'.put o.dst (fun t ht=>hd i t (by rw [hdst]; exact ht)) hr
      have e:put (maskF2 CH ops (fun j=>listed.getD j false) fr0 F) o.dst (vs i)=maskF2 CH ops (fun j=>(listed.setIfInBounds i true).getD j false) fr0 F:=by
       funext t
       by_cases hit:dstOf ops i=some t
       · rw [← hdst,hit]
         simp only [put,upd_same]
         rw [maskF2_out,hF t (fun m hm hcm _ hmt=>by rw [M.uniq m i t hm hin hmt hit,hci] at hcm; cases hcm),hF1v i t hin hci hit]
         rintro ⟨m,q1,q2,q3,q4⟩
         rw [M.uniq m i t q1 hin q4 hit,hseti] at q3; cases q3
       · have e1:put (maskF2 CH ops (fun j=>listed.getD j false) fr0 F) o.dst (vs i) t=maskF2 CH ops (fun j=>listed.getD j false) fr0 F t:=by
          rw [← hdst]
          cases hq:dstOf ops i with
          | none=>rfl
          | some d =>
            have:t≠d:=by rintro rfl; exact hit hq
            simp [put,upd_ne _ _ this]
         rw [e1]
         by_cases hm:∃ j,j < ops.size∧chainC CH ops.size j=false∧listed.getD j false=false∧dstOf ops j=some t
         · obtain ⟨j,q1,q2,q3,q4⟩:=hm
           have hne:i≠j:=by rintro rfl; exact hit q4
           rw [maskF2_in ⟨j,q1,q2,q3,q4⟩,maskF2_in ⟨j,q1,q2,by rw [getD_set_ne false hne]; exact q3,q4⟩]
         · rw [maskF2_out hm,maskF2_out fun ⟨j,q1,q2,q3,q4⟩=>hm ⟨j,q1,q2,by
            have hne:i≠j:=by rintro rfl; exact hit q4
            rw [getD_set_ne false hne] at q3; exact q3,q4⟩]
      rw [e] at A2
      refine ih (listed.setIfInBounds i true) (by simpa using hs) hsize hclose hsizen (fun j hcj=>?_) (fun t ht=>hF t fun j hj hcj hLj=>ht j hj hcj (getD_set_true hLj)) (fun m om hm hcm hLm=>hY m om hm hcm ?_) h A2
      · have hne:i≠j:=by rintro rfl; rw [hci] at hcj; cases hcj
        rw [getD_set_ne false hne]; exact hch j hcj
      · cases hl:listed.getD m false with
        | false=>rfl
        | true=>rw [getD_set_true hl] at hLm; cases hLm
     have run:QDet P τ stc o (maskF2 CH ops (fun j=>listed.getD j false) fr0 F) (vs i)→o.wpIn (fen ρ) 0 P a w (wpAnyIn (fen ρ) 0 P .any ops Q fuel (listed.setIfInBounds i true)) Q:=fun hq'=>by
      exact aOp_sound hτ A (aQOp_aOp (M.quiet i o ho hci) (hq' (·=vs i) rfl) ok) (fun v cv st' Pr' γ' C' w' hk hr A'=>by
       obtain ⟨rfl,rfl⟩:=hk
       exact next A' hr) (fun _ _ _ _ _ _ _ h=>h.elim)
     unfold Yields' at hyi
     cases hg:o.guard with
     | none =>
       rw [hg] at hyi
       rw [if_pos (by simp [Region.wanted,hg])]
       exact run hyi
     | some q =>
       obtain ⟨j,want⟩:=q
       rw [hg] at hyi
       obtain ⟨d,q1,⟨b,q2,q3,q4⟩ | ⟨xs,q2,q4⟩⟩:=hyi
       rotate_left
       · have hsl:=A.fr.slot d
         rw [q2] at hsl
         have hyb:yielded ops a.tmps j=none:=by
          generalize hv:a.tmps.getD d undef=u at hsl
          cases hsl
          unfold yielded
          unfold dstOf at q1
          rw [q1]
          simp only [Option.bind_some]
          rw [Array.getD_eq_getD_getElem?] at hv
          cases hget:a.tmps[d]? with
          | none=>rfl
          | some v'=>rw [hget] at hv; simp at hv; subst hv; rfl
         rw [if_neg (by simp [Region.wanted,hg,hyb])]
         exact ⟨fun _ _=>trivial,next A (by rw [q4]; exact .raw _)⟩
       have hsl:=A.fr.slot d
       rw [q2] at hsl
       have hyb:yielded ops a.tmps j=some b:=by
        generalize hv:a.tmps.getD d undef=u at hsl
        cases hsl
        unfold yielded
        unfold dstOf at q1
        rw [q1]
        simp only [Option.bind_some]
        rw [Array.getD_eq_getD_getElem?] at hv
        cases hget:a.tmps[d]? with
        | none=>rw [hget] at hv; simp [undef] at hv
        | some v'=>rw [hget] at hv; simp at hv; subst hv; rfl
       by_cases e:b=want
       · rw [if_pos (by simp [Region.wanted,hg,hyb,e])]
         exact run (q3 e)
       · rw [if_neg (by simp [Region.wanted,hg,hyb,e])]
         have hu:=q4 e
         exact ⟨fun _ _=>trivial,next A (by rw [hu]; exact .raw _)⟩
   | true =>
     obtain ⟨n0,n',rfl⟩:∃ n0 n',n=n0::n':=by
      cases n with
      | nil=>have:=hsizec hci; simp at this
      | cons a b=>exact ⟨a,b,rfl⟩
     have hsizec:=hsizec hci
     simp only [List.length_cons] at hsizec
     have hil:i∉l:=fun hm=>by
      have:=(hch i hci).2 hm
      rw [h1] at this; cases this
     have hir:(i,predsX Mx CH ops i,floatX Mx CH ops i)∈readyX (planOf Mx CH ops) l:=readyX_mem.2 ⟨i,rfl,hin,hil,hci,fun j _ hre hcj=>(hch j hcj).1 (reachL hre)⟩
     rw [aXOps_cons] at h
     split at h
     · rename_i hr; rw [hr] at hir; simp at hir
     rename_i i0 is hr
     rw [hr] at hir
     have hl2:=allL_mem h _ hir
     simp only at hl2
     rw [ho] at hl2
     obtain ⟨o',ho'⟩:∃ o',o'=o:=⟨o,rfl⟩
     subst ho'
     simp only at hl2
     have hag:∀ t∈o'.looksAt ops,F t=maskF2 CH ops (fun j=>listed.getD j false) fr0 F t:=by
      intro t ht
      rw [maskF2_out]
      rintro ⟨j,q1,q2,q3,q4⟩
      rcases M.look i o' ho j t q1 q4 ht with ⟨hlt,hre⟩ | ⟨hlt,hre⟩
      · rw [reachL hre] at q3; cases q3
      · have:=M.free j i q1 q2 hci; rw [hre] at this; cases this
     have next:∀ {v:V} {cv:Value} {st':St} {Pr' γ' C' w'},aXOps P ok τ ops Zf (planOf Mx CH ops) Kf n' (i::l) (put F o'.dst v) st'→(∀ (m:Nat) om,ops[m]? = some om→chainC CH ops.size m=false→(listed.setIfInBounds i true).getD m false=false→Yields' P τ ops st' om (frS ops vs fr0 fun j=>decide (j < m)&&!chainC CH ops.size j) (vs m))→Rep Pr' γ' w' v cv→X P ok E w0 mod γ0 Pr0 C0 nt ρ Pr' γ' C' (maskF2 CH ops (fun j=>listed.getD j false) fr0 F) st' a w'→wpAnyIn (fen ρ) 0 P .any ops Q fuel (listed.setIfInBounds i true) (a.put o'.dst cv) w':=by
      intro v cv st' Pr' γ' C' w' hk' hgr hr A'
      have A2:=A'.put o'.dst (fun t ht=>hd i t (by rw [hdst]; exact ht)) hr
      have e:put (maskF2 CH ops (fun j=>listed.getD j false) fr0 F) o'.dst v=maskF2 CH ops (fun j=>(listed.setIfInBounds i true).getD j false) fr0 (put F o'.dst v):=by
       funext t
       by_cases hit:dstOf ops i=some t
       · rw [← hdst,hit]
         simp only [put,upd_same]
         rw [maskF2_out]
         · simp [upd]
         · rintro ⟨m,q1,q2,q3,q4⟩
           rw [M.uniq m i t q1 hin q4 hit,hci] at q2; cases q2
       · have e1:∀ G:Nat→V,put G o'.dst v t=G t:=fun G=>by
          rw [← hdst]
          cases hq:dstOf ops i with
          | none=>rfl
          | some d =>
            have:t≠d:=by rintro rfl; exact hit hq
            simp [put,upd_ne _ _ this]
         rw [e1]
         by_cases hm:∃ j,j < ops.size∧chainC CH ops.size j=false∧listed.getD j false=false∧dstOf ops j=some t
         · obtain ⟨j,q1,q2,q3,q4⟩:=hm
           have hne:i≠j:=by rintro rfl; exact hit q4
           rw [maskF2_in ⟨j,q1,q2,q3,q4⟩,maskF2_in ⟨j,q1,q2,by rw [getD_set_ne false hne]; exact q3,q4⟩]
         · rw [maskF2_out hm,maskF2_out (fun ⟨j,q1,q2,q3,q4⟩=>hm ⟨j,q1,q2,by
            have hne:i≠j:=by rintro rfl; exact hit q4
            rw [getD_set_ne false hne] at q3; exact q3,q4⟩),e1]
      rw [e] at A2
      refine ih (listed.setIfInBounds i true) (by simpa using hs) hsize hclose (by omega) (fun j hcj=>?_) (fun t ht=>?_) hgr hk' A2
      · by_cases e:i=j
        · subst e; simp [hseti]
        · rw [getD_set_ne false e,hch j hcj]
          simp [Ne.symm e]
      · have hit:dstOf ops i≠some t:=ht i hin hci hseti
        have e1:put F o'.dst v t=F t:=by
         rw [← hdst]
         cases hq:dstOf ops i with
         | none=>rfl
         | some d =>
           have:t≠d:=by rintro rfl; exact hit hq
           simp [put,upd_ne _ _ this]
        rw [e1]
        exact hF t fun j hj hcj hLj=>ht j hj hcj (getD_set_true hLj)
     have lift:∀ {v:V} {st':St},(allocOp o'.op=true→Grow stc st')→(∀ m∈floatX Mx CH ops i,∀ om,ops[m]? = some om→quietOp om.op=true→∃ t,om.dst=some t∧(om.guard=none→QDet P τ st' om (put F o'.dst v) ((put F o'.dst v) t)) ∧
       ∀ j want,om.guard=some (j,want)→∃ d b,dstOf ops j=some d∧(put F o'.dst v) d=.bool b∧(b=want→QDet P τ st' om (put F o'.dst v) ((put F o'.dst v) t))) →
       ∀ (m:Nat) om,ops[m]? = some om→chainC CH ops.size m=false→(listed.setIfInBounds i true).getD m false=false→Yields' P τ ops st' om (frS ops vs fr0 fun j=>decide (j < m)&&!chainC CH ops.size j) (vs m):=by
      intro v st' hgr hfl m om hm hcm hLm
      have hmn:m < ops.size:=(Array.getElem?_eq_some_iff.1 hm).1
      have hLm0:listed.getD m false=false:=by
       cases hl:listed.getD m false with
       | false=>rfl
       | true=>rw [getD_set_true hl] at hLm; cases hLm
      have hYm:=hY m om hm hcm hLm0
      cases hp:plainOp om.op with
      | true=>exact hYm.imp fun h=>h.plain hp
      | false =>
        have hre:relB Mx ops.size i m=false:=by
         cases hr:relB Mx ops.size i m with
         | false=>rfl
         | true=>rw [reachL hr] at hLm0; cases hLm0
        cases hla:(lookOp om.op&&allocOp o'.op) with
        | true =>
          simp only [Bool.and_eq_true] at hla
          exact hYm.imp fun h=>h.grow (hgr hla.2) hla.1
        | false =>
          have hfa:floatsAt Mx CH ops i m=true:=by
           unfold floatsAt
           rw [hm,ho]
           simp only [hp,hla,hre,hcm]
           rfl
          obtain ⟨t,ht,g1,g2⟩:=hfl m (List.mem_filter.2 ⟨List.mem_range.2 hmn,hfa⟩) om hm (M.quiet m om hm hcm)
          have hfo:floatOk ops m=true:=by
           rcases M.ahead m om hm hcm hp i o' ho hci with h | h | h
           · exact h
           · rw [hre] at h; cases h
           · rw [h.1,h.2] at hla; cases hla
          unfold floatOk at hfo
          rw [hm] at hfo
          simp only [Bool.and_eq_true,List.all_eq_true,List.mem_range,Bool.or_eq_true,decide_eq_true_eq,Bool.not_eq_true'] at hfo
          have hdm:dstOf ops m=some t:=by simp [dstOf,hm,ht]
          have hF':∀ (x:Nat),dstOf ops i≠some x→put F o'.dst v x=F x:=by
           intro x hx
           rw [← hdst]
           cases hq:dstOf ops i with
           | none=>rfl
           | some d =>
             have:x≠d:=by rintro rfl; exact hx hq
             simp [put,upd_ne _ _ this]
          have hti:dstOf ops i≠some t:=fun e=>by
           have:=M.uniq i m t hin hmn e hdm; subst this
           rw [hci] at hcm; cases hcm
          have hval:put F o'.dst v t=vs m:=by
           rw [hF' t hti,hF t (fun j hj hcj _ hjt=>by rw [M.uniq j m t hj hmn hjt hdm,hcm] at hcj; cases hcj),hF1v m t hmn hcm hdm]
          have hops:∀ x∈om.looksAt ops,put F o'.dst v x=(frS ops vs fr0 fun j=>decide (j < m)&&!chainC CH ops.size j) x:=by
           intro x hx
           have hbelow:∀ j,j < ops.size→dstOf ops j=some x→j < m:=fun j hj hjx=>by
            rcases hfo.2 x hx j hj with h | h
            · exact h
            · unfold dstOf at hjx; rw [hjx] at h; simp at h
           have hnc:∀ j,j < ops.size→dstOf ops j=some x→chainC CH ops.size j=false:=fun j hj hjx=>by
            rcases M.look m om hm j x hj hjx hx with ⟨_,hre'⟩ | ⟨hlt,_⟩
            · cases hc:chainC CH ops.size j with
              | false=>rfl
              | true=>have:=M.free m j hmn hcm hc; rw [hre'] at this; cases this
            · have:=hbelow j hj hjx; omega
           have hix:dstOf ops i≠some x:=fun e=>by have:=hnc i hin e; rw [hci] at this; cases this
           rw [hF' x hix,hF x (fun j hj hcj _ hjx=>by rw [hnc j hj hjx] at hcj; cases hcj)]
           by_cases hex:∃ j,j < ops.size∧dstOf ops j=some x
           · obtain ⟨j,hj,hjx⟩:=hex
             rw [hF1v j x hj (hnc j hj hjx) hjx,frS_hit M.uniq hj (by simp [hbelow j hj hjx,hnc j hj hjx]) hjx]
           · rw [hF1 x (fun j hj _ hjx=>hex ⟨j,hj,hjx⟩),frS_miss (fun j hj _ hjx=>hex ⟨j,hj,hjx⟩)]
          rw [hval] at g1 g2
          unfold Yields' at hYm ⊢
          cases hg:om.guard with
          | none=>exact (g1 hg).congr (looks_ev hops)
          | some q =>
            obtain ⟨j,want⟩:=q
            rw [hg] at hYm
            obtain ⟨d,q1,hYm⟩:=hYm
            obtain ⟨d',b',r1,r2,r3⟩:=g2 j want hg
            rw [q1] at r1
            cases r1
            have hdl:put F o'.dst v d=(frS ops vs fr0 fun j=>decide (j < m)&&!chainC CH ops.size j) d:=hops d (by
             unfold Oper.looksAt
             rw [hg]
             refine List.mem_append_right _ ?_
             unfold dstOf at q1
             simp [q1])
            rcases hYm with ⟨b,q2,q3,q4⟩ | ⟨xs,q2,q4⟩
            · rw [hdl,q2] at r2
              cases r2
              exact ⟨d,q1,.inl ⟨_,q2,fun e=>(r3 e).congr (looks_ev hops),q4⟩⟩
            · rw [hdl,q2] at r2
              cases r2
     have go:aOp P ok τ o' F stc (fun v st'=>aFloat P τ ops (floatX Mx CH ops i) (put F o'.dst v) st' (aXOps P ok τ ops Zf (planOf Mx CH ops) Kf n' (i::l) (put F o'.dst v) st')) Zf→o'.wpIn (fen ρ) 0 P a w (wpAnyIn (fen ρ) 0 P .any ops Q fuel (listed.setIfInBounds i true)) Q:=fun h=>by
      have h:=aOp_congr (looks_ev hag) h
      cases hal:allocOp o'.op with
      | true=>exact aOp_sound hτ A (aOp_grow hal h) (fun v cv st' Pr' γ' C' w' hk hr A'=>by
         obtain ⟨k1,k2⟩:=aFloat_spec _ hk.1
         exact next k1 (lift (fun _=>hk.2) k2) hr A') (fun v cv st' Pr' γ' C' w' h hr A'=>hZ a w' _ st' Pr' γ' C' v cv h hr A')
      | false=>exact aOp_sound hτ A h (fun v cv st' Pr' γ' C' w' hk hr A'=>by
         obtain ⟨k1,k2⟩:=aFloat_spec _ hk
         exact next k1 (lift (fun e=>by rw [hal] at e; cases e) k2) hr A') (fun v cv st' Pr' γ' C' w' h hr A'=>hZ a w' _ st' Pr' γ' C' v cv h hr A')
     simp only [force_eq,forceSt_eq] at hl2
     cases hg:o'.guard with
     | none =>
       rw [hg] at hl2
       rw [if_pos (by simp [Region.wanted,hg])]
       exact go hl2
     | some q =>
       obtain ⟨j,want⟩:=q
       rw [hg] at hl2
       simp only at hl2
       split at hl2
       · rename_i d hdj
         split at hl2
         · rename_i b hb
           have hsl:=A.fr.slot d
           have hdl:F d=maskF2 CH ops (fun j=>listed.getD j false) fr0 F d:=hag d (by
            unfold Oper.looksAt
            rw [hg]
            refine List.mem_append_right _ ?_
            simp [hdj])
           rw [← hdl,hb] at hsl
           have hyb:yielded ops a.tmps j=some b:=by
            generalize hv:a.tmps.getD d undef=u at hsl
            cases hsl
            unfold yielded
            rw [hdj]
            simp only [Option.bind_some]
            rw [Array.getD_eq_getD_getElem?] at hv
            cases hget:a.tmps[d]? with
            | none=>rw [hget] at hv; simp [undef] at hv
            | some v'=>rw [hget] at hv; simp at hv; subst hv; rfl
           cases b <;> cases want <;> simp only [BC,negB,if_true,if_false,Bool.false_eq_true] at hl2
           · rw [if_pos (by simp [Region.wanted,hg,hyb])]
             exact go hl2
           · rw [if_neg (by simp [Region.wanted,hg,hyb])]
             exact ⟨fun _ _=>trivial,next hl2 (fun m om hm hcm hLm=>hY m om hm hcm (by
               cases hl:listed.getD m false with
               | false=>rfl
               | true=>rw [getD_set_true hl] at hLm; cases hLm)) (.raw _) A⟩
           · rw [if_neg (by simp [Region.wanted,hg,hyb])]
             exact ⟨fun _ _=>trivial,next hl2 (fun m om hm hcm hLm=>hY m om hm hcm (by
               cases hl:listed.getD m false with
               | false=>rfl
               | true=>rw [getD_set_true hl] at hLm; cases hLm)) (.raw _) A⟩
           · rw [if_pos (by simp [Region.wanted,hg,hyb])]
             exact go hl2
         · exact hl2.elim
       · exact hl2.elim
end
end Go.Cod
namespace Go.Cod
open Go
variable [Lam]
omit [Lam] in
theorem renL_eq (sel:List Nat) (cs:List V):renV.go sel cs=cs.map (renV sel):=by
 induction cs with
 | nil=>rfl
 | cons x xs ih=>simp [renV.go,ih]
omit [Lam] in
theorem renV_leaf (sel:List Nat) (x:V) (h:x.leaf=true):(renV sel x).leaf=true:=by
 cases x with
 | own k=>simp only [renV]; split <;> rfl
 | ptr k i j=>simp only [renV]; split <;> rfl
 | win k _ _ _=>simp only [renV]; split <;> rfl
 | cptr k _=>simp only [renV]; split <;> rfl
 | map k=>simp only [renV]; split <;> rfl
 | yld k=>simp only [renV]; split <;> rfl
 | agg cs=>simp [V.leaf] at h
 | tup cs=>simp [V.leaf] at h
 | raw v=>exact h
 | _=>rfl
omit [Lam] in
theorem idxOf_get {sel:List Nat} {k i:Nat} (h:sel.idxOf? k=some i):sel[i]? = some k:=by
 rw [List.idxOf?,List.findIdx?_eq_some_iff_getElem] at h
 obtain ⟨h1,h2,_⟩:=h
 rw [List.getElem?_eq_getElem h1]
 simpa using h2
omit [Lam] in
theorem renV_rep {Pr γ w} {sel:List Nat} {γ':List G} (hγ:∀ i k:Nat,sel[i]? = some k→γ'[i]? = γ[k]?) {x:V} {u:Value} (h:Rep Pr γ w x u):Rep Pr γ' w (renV sel x) u:=by
 induction h with
 | bool b=>exact .bool b
 | int k n=>exact .int k n
 | str s=>exact .str s
 | agg hl _ ih =>
   simp only [renV,renL_eq]
   refine .agg (by simpa using hl) fun i x u a b=>?_
   rw [List.getElem?_map,Option.map_eq_some_iff] at a
   obtain ⟨y,hy,rfl⟩:=a
   exact ih i y u hy b
 | tup hl _ ih =>
   simp only [renV,renL_eq]
   refine .tup (by simpa using hl) fun i x u a b=>?_
   rw [List.getElem?_map,Option.map_eq_some_iff] at a
   obtain ⟨y,hy,rfl⟩:=a
   exact ih i y u hy b
 | nils a=>exact .nils a
 | sl0 a cap=>exact .sl0 a cap
 | sl u hcl hn hc hlf hm hr _ =>
   exact .sl u hcl hn hc hlf hm fun i e j x a b=>(hr i e j x a b).names (n:=0) (fun k hk=>absurd hk (Nat.not_lt_zero _)) (V.cleanL_mem (V.cleanLL_mem hcl e (List.mem_of_getElem? a)) x (List.mem_of_getElem? b))
 | own h =>
   simp only [renV]
   split
   · rename_i i hi
     exact .own (by rw [hγ _ _ (idxOf_get hi)]; exact h)
   · exact .any rfl
 | ptr h =>
   simp only [renV]
   split
   · rename_i i hi
     exact .ptr (by rw [hγ _ _ (idxOf_get hi)]; exact h)
   · exact .any rfl
 | win h =>
   simp only [renV]
   split
   · rename_i i hi
     exact .win (by rw [hγ _ _ (idxOf_get hi)]; exact h)
   · exact .any rfl
 | cptr h =>
   simp only [renV]
   split
   · rename_i i hi
     exact .cptr (by rw [hγ _ _ (idxOf_get hi)]; exact h)
   · exact .any rfl
 | rptr u hlf hm _ ih =>
   simp only [renV,renL_eq]
   refine .rptr u (fun x hx=>?_) (fun j x a=>?_) fun j x a=>?_
   · obtain ⟨y,hy,rfl⟩:=List.mem_map.1 hx
     exact renV_leaf sel y (hlf y hy)
   · rw [List.getElem?_map,Option.map_eq_some_iff] at a
     obtain ⟨y,hy,rfl⟩:=a
     exact hm j y hy
   · rw [List.getElem?_map,Option.map_eq_some_iff] at a
     obtain ⟨y,hy,rfl⟩:=a
     exact ih j y hy
 | fn hl _ ih =>
   simp only [renV,renL_eq]
   refine .fn (by simpa using hl) fun i x u a b=>?_
   rw [List.getElem?_map,Option.map_eq_some_iff] at a
   obtain ⟨y,hy,rfl⟩:=a
   exact ih i y u hy b
 | raw v=>exact .raw v
 | any h=>exact .any h
 | map h =>
   simp only [renV]
   split
   · rename_i i hi
     exact .map (by rw [hγ _ _ (idxOf_get hi)]; exact h)
   · exact .any rfl
 | yld h =>
   simp only [renV]
   split
   · rename_i i hi
     exact .yld (by rw [hγ _ _ (idxOf_get hi)]; exact h)
   · exact .any rfl
 | iface _ ih=>exact .iface ih
 | meth _ ih=>exact .meth ih
 | bnd _ ih=>exact .bnd ih
 | dref b n c=>exact .dref b n c
 | dptr b n c d=>exact .dptr b n c d
omit [Lam] in
theorem renO_flags (sel:List Nat) (o:O):(renO sel o).live=o.live∧(renO sel o).excl=o.excl∧(renO sel o).box=o.box∧(renO sel o).wid=o.wid∧(renO sel o).es.length=o.es.length∧(renO sel o).kind=o.kind:=by
 unfold renO
 cases h:o.box <;> simp
omit [Lam] in
theorem ObjOk.ren {Pr γ w o g} {sel:List Nat} {γ':List G} (hγ:∀ i k:Nat,sel[i]? = some k→γ'[i]? = γ[k]?) (h:ObjOk Pr γ w o g):ObjOk Pr γ' w (renO sel o) g:=by
 obtain ⟨f1,f2,f3,f4,f5,f6⟩:=renO_flags sel o
 obtain ⟨cur,f,h1,h2,h3⟩:=h.row
 have key:∀ (i:Nat) e,(renO sel o).es[i]? = some e→∃ e0,o.es[i]? = some e0∧e.length=e0.length∧(∀ x∈e0,x.leaf=true)∧(∀ x∈e,x.leaf=true)∧(∀ (j:Nat) x,e[j]? = some x→∃ u,cur[i*g.sz+j]? = some u∧Rep Pr γ' w x u):=by
  intro i e he
  cases hb:o.box with
  | true =>
    simp only [renO,hb,List.getElem?_map,Option.map_eq_some_iff] at he
    obtain ⟨e0,he0,rfl⟩:=he
    have hl:=h.lf e0 (List.mem_of_getElem? he0)
    refine ⟨e0,he0,by simp [renL_eq],hl,fun x hx=>?_,fun j x hx=>?_⟩
    · rw [renL_eq] at hx
      obtain ⟨y,hy,rfl⟩:=List.mem_map.1 hx
      exact renV_leaf sel y (hl y hy)
    · rw [renL_eq,List.getElem?_map,Option.map_eq_some_iff] at hx
      obtain ⟨y,hy,rfl⟩:=hx
      obtain ⟨u,a,b⟩:=h3 i e0 j y he0 hy
      exact ⟨u,a,renV_rep hγ b⟩
  | false =>
    simp only [renO,hb] at he
    have hl:=h.lf e (List.mem_of_getElem? he)
    refine ⟨e,he,rfl,hl,hl,fun j x hx=>?_⟩
    obtain ⟨u,a,b⟩:=h3 i e j x he hx
    exact ⟨u,a,b.names (n:=0) (fun k hk=>absurd hk (Nat.not_lt_zero _)) (V.cleanL_mem (V.cleanLL_mem (h.cl hb) e (List.mem_of_getElem? he)) x (List.mem_of_getElem? hx))⟩
 refine ⟨by rw [f5]; exact h.len,by rw [f4]; exact h.wid,h.le,h.max,fun e he=>?_,fun e he x hx=>?_,⟨cur,f,h1,h2,fun i e j x a b=>?_⟩,h.spare,fun he=>h.excl (by rw [← f2]; exact he),fun hb=>?_,f6.trans h.kd⟩
 · obtain ⟨i,hi⟩:=List.getElem?_of_mem he
   obtain ⟨e0,a1,a2,_⟩:=key i e hi
   rw [a2]; exact h.sz e0 (List.mem_of_getElem? a1)
 · obtain ⟨i,hi⟩:=List.getElem?_of_mem he
   obtain ⟨e0,a1,a2,_,a3,_⟩:=key i e hi
   exact a3 x hx
 · obtain ⟨e0,a1,a2,_,_,a4⟩:=key i e a
   exact a4 j x b
 · rw [f3] at hb
   have:(renO sel o).es=o.es:=by simp [renO,hb]
   rw [this]; exact h.cl hb
theorem X.compact' {P ok} {E:Env P ok} {w0 mod γ0 Pr0 C0 nt ρ Pr γ C fr st a w} (A:X P ok E w0 mod γ0 Pr0 C0 nt ρ Pr γ C fr st a w) {sel:List Nat} (h:selOk γ0.length sel st=true):∃ γ',(∀ x u,Rep Pr γ w x u→Rep Pr γ' w (renV sel x) u)∧X P ok E w0 mod γ0 Pr0 C0 nt ρ Pr γ' C (cmpF sel fr) (cmpSt sel st) a w:=by
 simp only [selOk,Bool.and_eq_true,decide_eq_true_eq,List.all_eq_true,List.mem_range,beq_iff_eq] at h
 obtain ⟨⟨hnd,hlt⟩,hpre⟩:=h
 let γ':List G:=sel.map fun k=>(γ[k]?).getD ⟨0,0,0,0,0⟩
 have hγ:∀ i k:Nat,sel[i]? = some k→γ'[i]? = γ[k]? := by
  intro i k hk
  have hkl:k < γ.length:=by rw [A.st.len]; exact hlt k (List.mem_of_getElem? hk)
  simp only [γ',List.getElem?_map,hk,Option.map_some]
  simp [hkl]
 have get:∀ {i:Nat} {o:O} {g:G},(cmpSt sel st)[i]? = some o→γ'[i]? = some g→∃ k o0,sel[i]? = some k∧st[k]? = some o0∧γ[k]? = some g∧o=renO sel o0∧o.live=o0.live∧o.kind=o0.kind∧o.own=o0.own:=by
  intro i o g ho hg
  simp only [cmpSt,List.getElem?_map,Option.map_eq_some_iff] at ho
  obtain ⟨k,hk,rfl⟩:=ho
  have hkl:=hlt k (List.mem_of_getElem? hk)
  obtain ⟨f1,f2,f3,f4,f5,f6⟩:=renO_flags sel (st.getD k noO)
  have e:st.getD k noO=st[k]:=by simp [List.getD,hkl]
  exact ⟨k,st.getD k noO,hk,by rw [e]; simp [hkl],by rw [← hγ i k hk]; exact hg,rfl,f1,f6,by simp only [O.own]; rw [f1,f6]⟩
 have inj:∀ i j k:Nat,sel[i]? = some k→sel[j]? = some k→i=j:=by
  intro i j k hi hj
  exact (List.getElem?_inj (List.getElem?_eq_some_iff.1 hi).1 hnd).1 (hi.trans hj.symm)
 have hgg:∀ {i:Nat} {o:O},(cmpSt sel st)[i]? = some o→∃ g,γ'[i]? = some g:=by
  intro i o ho
  have:i < (cmpSt sel st).length:=(List.getElem?_eq_some_iff.1 ho).1
  have h2:i < γ'.length:=by simpa [γ',cmpSt] using this
  exact ⟨γ'[i],by simp [h2]⟩
 have D:=A.ext
 have B:=A.base
 refine ⟨γ',fun x u hx=>renV_rep hγ hx,⟨fun k o g ho hg hl=>?_,⟨D.clow,fun k o g ho hg hl=>?_,D.prC,fun k o g ho hg hl=>?_,fun k k' o o' g g' ho ho' hg hg' hl hl' hb=>?_,fun k o g ho hg hl=>?_,fun k o g ho hg hl=>?_,fun k k' o o' ho ho' hl hl'=>?_,D.marks,D.round,?_⟩,
  ⟨A.fr.size,fun t=>renV_rep hγ (A.fr.slot t)⟩,⟨by simp [γ',cmpSt],fun k o g ho hg hl=>?_,fun k k' o o' g g' ho ho' hg hg' hl hl' hb=>?_,A.st.low,A.st.laid⟩,⟨B.os,B.tape,B.output,B.size,B.old,B.sub,B.new,fun k g hg=>?_,B.cell,B.csub,B.cnew⟩⟩⟩
 · obtain ⟨m,o0,h1,h2,h3,rfl,h5,h6,h7⟩:=get ho hg
   exact A.mine m o0 g h2 h3 (h5.symm.trans hl)
 · obtain ⟨m,o0,h1,h2,h3,rfl,h5,h6,h7⟩:=get ho hg
   exact D.apart m o0 g h2 h3 (h7.symm.trans hl)
 · obtain ⟨m,o0,h1,h2,h3,rfl,h5,h6,h7⟩:=get ho hg
   have M:=D.maps m o0 g h2 h3 (h6.symm.trans hl)
   have e:renO sel o0=o0:=by
    unfold renO; rw [M.bx]
    have:=M.bx
    cases o0; simp_all
   rw [e]
   exact (M.mapO (f:=fun i=>i)).2
 · obtain ⟨m,o0,h1,h2,h3,rfl,h5,h6,h7⟩:=get ho hg
   obtain ⟨m',o0',h1',h2',h3',rfl,h5',h6',h7'⟩:=get ho' hg'
   have:=D.mone m m' o0 o0' g g' h2 h2' h3 h3' (h6.symm.trans hl) (h6'.symm.trans hl') hb
   subst this
   exact inj k k' m h1 h1'
 · obtain ⟨m,o0,h1,h2,h3,rfl,h5,h6,h7⟩:=get ho hg
   exact D.mmine m o0 g h2 h3 (h6.symm.trans hl)
 · obtain ⟨m,o0,h1,h2,h3,rfl,h5,h6,h7⟩:=get ho hg
   obtain ⟨y1,y2,y3⟩:=D.yld m o0 g h2 h3 (h6.symm.trans hl)
   have e:renO sel o0=o0:=by
    unfold renO; rw [y2]
    cases o0; simp_all
   rw [e]
   exact ⟨y1,y2,y3⟩
 · obtain ⟨g,hg⟩:=hgg ho
   obtain ⟨g',hg'⟩:=hgg ho'
   obtain ⟨m,o0,h1,h2,h3,rfl,h5,h6,h7⟩:=get ho hg
   obtain ⟨m',o0',h1',h2',h3',rfl,h5',h6',h7'⟩:=get ho' hg'
   have:=D.yone m m' o0 o0' h2 h2' (h6.symm.trans hl) (h6'.symm.trans hl')
   subst this
   exact inj k k' m h1 h1'
 · have Q:=D.pools
   have pget:∀ {i:Nat} {o:O},(cmpSt sel st)[i]? = some o→o.kind=.pool→∃ k,sel[i]? = some k∧st[k]? = some o:=by
    intro i o ho hp
    obtain ⟨g,hg⟩:=hgg ho
    obtain ⟨m,o0,h1,h2,h3,rfl,h5,h6,h7⟩:=get ho hg
    have hb:=Q.bx m o0 h2 (h6.symm.trans hp)
    have e:renO sel o0=o0:=by
     unfold renO; rw [hb]
     cases o0; simp_all
    rw [e]
    exact ⟨m,h1,h2⟩
   refine Q.move (fun i=>sel.getD i 0) (fun i o ho hp=>?_) (fun i i' o o' ho ho' hp hp' he=>?_) (fun _ _=>rfl) (fun _ _ h=>h) (fun _ _ _=>rfl) (fun b n h=>Q.unp h) (fun b h=>(Q.at h).1) (fun b h=>(Q.at h).2) (fun k o g ho hg hl hlab=>?_)
   · obtain ⟨k,h1,h2⟩:=pget ho hp
     rw [List.getD,h1]; exact h2
   · obtain ⟨k,h1,h2⟩:=pget ho hp
     obtain ⟨k',h1',h2'⟩:=pget ho' hp'
     rw [List.getD,h1,List.getD,h1'] at he
     simp only [Option.getD_some] at he
     subst he
     exact inj i i' k h1 h1'
   · obtain ⟨m,o0,h1,h2,h3,rfl,h5,h6,h7⟩:=get ho hg
     exact Q.notLive hlab ⟨m,o0,g,h2,h3,h5.symm.trans hl,rfl⟩
 · obtain ⟨m,o0,h1,h2,h3,rfl,h5,h6,h7⟩:=get ho hg
   exact (A.st.obj m o0 g h2 h3 (h5.symm.trans hl)).ren hγ
 · obtain ⟨m,o0,h1,h2,h3,rfl,h5,h6,h7⟩:=get ho hg
   obtain ⟨m',o0',h1',h2',h3',rfl,h5',h6',h7'⟩:=get ho' hg'
   have:=A.st.one m m' o0 o0' g g' h2 h2' h3 h3' (h5.symm.trans hl) (h5'.symm.trans hl') hb
   subst this
   exact inj k k' m h1 h1'
 · have hkl:k < γ0.length:=(List.getElem?_eq_some_iff.1 hg).1
   rw [hγ k k (hpre k hkl)]
   exact B.names k g hg
theorem X.compact {P ok} {E:Env P ok} {w0 mod γ0 Pr0 C0 nt ρ Pr γ C fr st a w} (A:X P ok E w0 mod γ0 Pr0 C0 nt ρ Pr γ C fr st a w) {sel:List Nat} (h:selOk γ0.length sel st=true):∃ γ',X P ok E w0 mod γ0 Pr0 C0 nt ρ Pr γ' C (cmpF sel fr) (cmpSt sel st) a w :=
 let ⟨γ',_,h⟩:=A.compact' h; ⟨γ',h⟩
end Go.Cod
namespace Go.Cod
open Go
variable [Lam]
variable {P:Program} {ok:OkY} {E:Env P ok} {w0:World} {mod:Nat→Prop} {γ0 γs:List G} {Pr0:Nat→Nat→Prop} {C0:Nat→Prop} {nt:Nat} {ρ:Option Nat}
 {Pr Pr':Nat→Nat→Prop} {γ γ' γc:List G} {C C':Nat→Prop} {fr fr':Nat→V} {st st':St} {a a':Act} {w w':World}
theorem X.still (H:X P ok E w0 mod γ0 Pr0 C0 nt ρ Pr γ C fr st a w) (hos:w'.os=w.os) (htape:w'.tape=w.tape) (hout:w'.output=w.output) (hsz:w.heap.size≤w'.heap.size)
  (hcell:∀ b n,Pr b n→w'.cell? ⟨b,n,none⟩=w.cell? ⟨b,n,none⟩) (hown:∀ (k b:Nat),Owns st γ k b→w'.heap[b]? = w.heap[b]?)
  (hC:∀ b,C b→w'.heap[b]? = w.heap[b]?) (hmk:∀ r,mark r∈a.defers→w'.heap[r]? = w.heap[r]?) (hrd:∀ l,ρ=some l→∃ L,w'.heap[l]? = some (.loop L))
  (hold:∀ b,b < w0.heap.size→¬ mod b→¬ C0 b→w'.heap[b]? = w.heap[b]?):X P ok E w0 mod γ0 Pr0 C0 nt ρ Pr γ C fr st a w':=by
 have K:Keep Pr Pr γ γ w w':=⟨fun _ _ h=>h,hcell,fun _ _ h=>h⟩
 have D:=H.ext
 have B:=H.base
 refine ⟨H.mine,⟨fun b h=>Nat.lt_of_lt_of_le (D.clow b h) hsz,D.apart,D.prC,fun k o g h1 h2 h3=>(D.maps k o g h1 h2 h3).keep K (hown k _ (own_owns h1 h2 (own_iff.2 (.inr h3)))),D.mone,D.mmine,fun k o g h1 h2 h3=>?_,D.yone,?_,fun l hl=>?_,D.pools.move (fun k=>k) (fun _ _ h _=>h) (fun _ _ _ _ _ _ _ _ h=>h) (fun b h=>by obtain ⟨k,hk⟩:=h.owns (γ:=γ); exact hown k b hk) (fun _ _ h=>h) hcell (fun b n h=>D.pools.unp h) (fun b h=>(D.pools.at h).1) (fun b h=>(D.pools.at h).2) (fun k o g h1 h2 h3 hl=>D.pools.notLive hl ⟨k,o,g,h1,h2,h3,rfl⟩)⟩,
  H.fr.keep K,⟨H.st.len,fun k o g h1 h2 h3=>(H.st.obj k o g h1 h2 h3).same K (hown k _ (own_owns h1 h2 (own_iff.2 (.inl h3)))) (fun _ h=>h),H.st.one,fun b n h=>Nat.lt_of_lt_of_le (H.st.low b n h) hsz,H.st.laid.keep K⟩,
  ⟨hos.trans B.os,htape.trans B.tape,hout.trans B.output,Nat.le_trans B.size hsz,fun b h1 h2 h3=>(hold b h1 h2 h3).trans (B.old b h1 h2 h3),B.sub,B.new,B.names,fun b n h=>(hcell b n (B.sub b n h)).trans (B.cell b n h),B.csub,B.cnew⟩⟩
 · obtain ⟨y1,y2,y3⟩:=D.yld k o g h1 h2 h3
   exact ⟨y1,y2,E.stable y3 ⟨hos,htape,hout,hsz,hC,hcell⟩⟩
 · obtain ⟨rs,m1,m2,m3⟩:=D.marks
   refine ⟨rs,m1,m2,fun r hr=>?_⟩
   obtain ⟨m4,m5,m6⟩:=m3 r hr
   exact ⟨by rw [hmk r (by rw [m1]; exact List.mem_map_of_mem hr)]; exact m4,m5,m6⟩
 · obtain ⟨L,h1⟩:=hrd l hl
   obtain ⟨h0,_,_,h2⟩:=D.round l hl
   exact ⟨h0,L,h1,h2⟩
theorem X.round (H:X P ok E w0 mod γs Pr0 C0 nt ρ Pr γ C fr st a w) {Pr2:Nat→Nat→Prop} (hsub:∀ b n,Pr b n→Pr2 b n)
  (hx:∀ b n,Pr2 b n→Pr b n∨(b < w.heap.size∧¬ C b∧∀ k,¬ Owns st γ k b)) {l:Nat} {L:Loop} (hl:w.heap[l]? = some (.loop L)) (hlc:¬ C l)
  (F:FrOk Pr2 γ w fr' a' nt) (hd:a'.defers=[]):X P ok E w (modOf st γ) γs Pr2 C nt (some l) Pr2 γ C fr' st a' w:=by
 have K:Keep Pr Pr2 γ γ w w:=⟨hsub,fun _ _ _=>rfl,fun _ _ h=>h⟩
 have D:=H.ext
 refine ⟨fun k o g h1 h2 h3=>.inr ⟨k,own_owns h1 h2 (own_iff.2 (.inl h3))⟩,⟨D.clow,D.apart,fun b n h=>?_,fun k o g h1 h2 h3=>(D.maps k o g h1 h2 h3).keep K rfl,D.mone,fun k o g h1 h2 h3=>.inr ⟨k,own_owns h1 h2 (own_iff.2 (.inr h3))⟩,fun k o g h1 h2 h3=>?_,D.yone,⟨[],by simp [hd],by simp,by simp⟩,fun l' hl'=>?_,?_⟩,
  F,⟨H.st.len,fun k o g h1 h2 h3=>(H.st.obj k o g h1 h2 h3).same K rfl (fun n h=>?_),H.st.one,fun b n h=>?_,H.st.laid.keep K⟩,
  ⟨rfl,rfl,rfl,Nat.le_refl _,fun _ _ _ _=>rfl,fun _ _ h=>h,fun _ _ h=>.inl h,H.base.names,fun _ _ _=>rfl,fun _ h=>h,fun _ h=>.inl h⟩⟩
 · rcases hx b n h with h | ⟨_,h,_⟩
   · exact D.prC b n h
   · exact .inr h
 · obtain ⟨y1,y2,y3⟩:=D.yld k o g h1 h2 h3
   exact ⟨y1,y2,E.mono y3 hsub⟩
 · cases hl'; exact ⟨hd,L,hl,hlc⟩
 · refine D.pools.move (fun k=>k) (fun _ _ h _=>h) (fun _ _ _ _ _ _ _ _ h=>h) (fun b h=>rfl) hsub (fun _ _ _=>rfl) (fun b n h hp=>?_) (fun b h=>(D.pools.at h).1) (fun b h=>.inr h.owns) (fun k o g h1 h2 h3 hl=>D.pools.notLive hl ⟨k,o,g,h1,h2,h3,rfl⟩)
   rcases hx b n hp with hp | ⟨_,_,hp⟩
   · exact D.pools.unp h hp
   · obtain ⟨k,hk⟩:=h.owns (γ:=γ); exact hp k hk
 · rcases hx _ n h with h | ⟨_,_,h⟩
   · exact h
   · exact absurd (own_owns h1 h2 (own_iff.2 (.inl h3))) (h k)
 · rcases hx b n h with h | ⟨h,_⟩
   · exact H.st.low b n h
   · exact h
theorem X.putLoop (H:X P ok E w0 mod γ0 Pr0 C0 nt ρ Pr γ C fr st a w) {l:Nat} {L:Loop} (hl:w.heap[l]? = some (.loop L)) (hlc:¬ C l) (hm:mod l∨w0.heap.size≤l) (L':Loop):X P ok E w0 mod γ0 Pr0 C0 nt ρ Pr γ C fr st a (w.putObj l (.loop L')):=by
 have hlt:=(Array.getElem?_eq_some_iff.1 hl).1
 have hnew:(w.putObj l (.loop L')).heap[l]? = some (.loop L'):=World.putObj_heap_same hlt
 have hold:∀ b,b≠l→(w.putObj l (.loop L')).heap[b]? = w.heap[b]? := fun b hb=>World.putObj_heap_other hb
 refine H.still rfl rfl rfl (by simp) (fun b n _=>?_) (fun k b ho=>hold _ fun e=>?_) (fun b h=>hold b fun e=>hlc (e ▸ h)) (fun r hr=>hold r fun e=>?_) (fun l' hl'=>?_) (fun b h1 h2 h3=>hold b fun e=>?_)
 · by_cases e:b=l
   · subst e; simp [World.cell?,hnew,hl]
   · exact cell_of_block (hold b e) n
 · subst e
   rcases H.owns_obj ho with ⟨cur,ty,f,h⟩ | ⟨es,c,h⟩ <;> exact absurd (hl.symm.trans h) (by simp)
 · obtain ⟨rs,m1,m2,m3⟩:=H.ext.marks
   rw [m1] at hr
   obtain ⟨r',hr',he⟩:=List.mem_map.1 hr
   have:r'=r:=by simpa [mark] using he
   subst this
   have m4:=(m3 r' hr').1
   rw [e,hl] at m4; exact absurd m4 (by simp)
 · by_cases e:l'=l
   · subst e; exact ⟨L',hnew⟩
   · obtain ⟨_,L0,h1,_⟩:=H.ext.round l' hl'
     exact ⟨L0,by rw [hold l' e]; exact h1⟩
 · subst e
   rcases hm with hm | hm
   · exact h2 hm
   · omega
theorem X.rejoin (H:X P ok E w0 mod γs Pr0 C0 nt ρ Pr γ C fr st a w) {Pr2 PrR:Nat→Nat→Prop} {γR:List G} {CR:Nat→Prop} {frR:Nat→V} {stR:St} {aR:Act} {l:Nat} (hsub:∀ b n,Pr b n→Pr2 b n) (hnew:∀ b n,Pr2 b n→Pr b n∨w0.heap.size≤b∨mod b)
  (R:X P ok E w (modOf st γ) γs Pr2 C nt (some l) PrR γR CR frR stR aR w') (F:FrOk PrR γR w' fr a nt):X P ok E w0 mod γs Pr0 C0 nt ρ PrR γR CR fr stR a w':=by
 have D:=H.ext
 have B:=H.base
 have DR:=R.ext
 have BR:=R.base
 have up:∀ b,(w.heap.size≤b∨modOf st γ b)→w0.heap.size≤b∨mod b:=by
  intro b h
  rcases h with h | ⟨k,ho⟩
  · exact .inl (Nat.le_trans B.size h)
  · exact H.owns_mine ho
 have kinds:∀ {r:Nat} {ob:Obj},w.heap[r]? = some ob→(∀ cur ty f,ob≠.cells cur ty f)→(∀ es c,ob≠.map es c)→¬ modOf st γ r:=by
  rintro r ob h1 h2 h3 ⟨k,ho⟩
  rcases H.owns_obj ho with ⟨cur,ty,f,h⟩ | ⟨es,c,h⟩
  · exact h2 _ _ _ (Option.some.inj (h1.symm.trans h))
  · exact h3 _ _ (Option.some.inj (h1.symm.trans h))
 refine ⟨fun k o g h1 h2 h3=>up _ (R.mine k o g h1 h2 h3),⟨DR.clow,DR.apart,DR.prC,DR.maps,DR.mone,fun k o g h1 h2 h3=>up _ (DR.mmine k o g h1 h2 h3),DR.yld,DR.yone,?_,fun l' hl'=>?_,DR.pools.move (fun k=>k) (fun _ _ h _=>h) (fun _ _ _ _ _ _ _ _ h=>h) (fun _ _=>rfl) (fun _ _ h=>h) (fun _ _ _=>rfl) (fun _ _ h=>DR.pools.unp h) (fun _ h=>(DR.pools.at h).1) (fun b h=>up b (DR.pools.at h).2) (fun k o g h1 h2 h3 hl=>DR.pools.notLive hl ⟨k,o,g,h1,h2,h3,rfl⟩)⟩,F,R.st,
  ⟨BR.os.trans B.os,BR.tape.trans B.tape,BR.output.trans B.output,Nat.le_trans B.size BR.size,fun b h1 h2 h3=>?_,fun b n h=>BR.sub b n (hsub b n (B.sub b n h)),fun b n h=>?_,BR.names,fun b n h=>(BR.cell b n (hsub b n (B.sub b n h))).trans (B.cell b n h),fun b h=>BR.csub b (B.csub b h),fun b h=>?_⟩⟩
 · obtain ⟨rs,m1,m2,m3⟩:=D.marks
   refine ⟨rs,m1,m2,fun r hr=>?_⟩
   obtain ⟨m4,m5,m6⟩:=m3 r hr
   have hlt:=(Array.getElem?_eq_some_iff.1 m4).1
   refine ⟨by rw [BR.old r hlt (kinds m4 (by simp) (by simp)) m5]; exact m4,fun hc=>?_,m6⟩
   rcases BR.cnew r hc with h | h
   · exact m5 h
   · omega
 · obtain ⟨l0,L,l1,l2⟩:=D.round l' hl'
   have hlt:=(Array.getElem?_eq_some_iff.1 l1).1
   refine ⟨l0,L,by rw [BR.old l' hlt (kinds l1 (by simp) (by simp)) l2]; exact l1,fun hc=>?_⟩
   rcases BR.cnew l' hc with h | h
   · exact l2 h
   · omega
 · rw [BR.old b (Nat.lt_of_lt_of_le h1 B.size) (fun h=>?_) (fun hc=>?_)]
   · exact B.old b h1 h2 h3
   · rcases up b (.inr h) with h | h
     · omega
     · exact h2 h
   · rcases B.cnew b hc with h | h
     · exact h3 h
     · omega
 · rcases BR.new b n h with h | h | h
   · rcases hnew b n h with h | h
     · exact B.new b n h
     · exact .inr h
   · exact .inr (.inl (Nat.le_trans B.size h))
   · exact .inr (up b (.inr h))
 · rcases BR.cnew b h with h | h
   · exact B.cnew b h
   · exact .inr (Nat.le_trans B.size h)
end Go.Cod
namespace Go.Cod
open Go
variable [Lam]
inductive ExOk (Pr:Nat→Nat→Prop) (γ:List G) (w:World):Ex→Exit→Prop
 | normal:ExOk Pr γ w .normal .normal
 | exit (id:Nat):ExOk Pr γ w (.exit id) (.exit id)
 | ret:ExOk Pr γ w .ret .ret
 | pan {v:V} {cv:Value} (h:Rep Pr γ w v cv):ExOk Pr γ w (.pan v) (.panic [{ v:=cv,recovered:=false }])
def Sound (P:Program) (ok:OkY) (E:Env P ok) (τ:Tau) (nt:Nat) (c:Code):Prop :=
 ∀ (w0:World) (mod:Nat→Prop) (γ0:List G) (Pr0:Nat→Nat→Prop) (C0:Nat→Prop) (ρ:Option Nat) (Qa:Ex→(Nat→V)→St→Prop) (Q:Exit→Act→World→Prop),
   (∀ e x a w fr st Pr γ C,Qa e fr st→X P ok E w0 mod γ0 Pr0 C0 nt ρ Pr γ C fr st a w→ExOk Pr γ w e x→Q x a w) →
   ∀ (fr:Nat→V) (st:St) (Pr:Nat→Nat→Prop) (γ:List G) (C:Nat→Prop) (a:Act) (w:World),X P ok E w0 mod γ0 Pr0 C0 nt ρ Pr γ C fr st a w→awp P ok τ γ0.length c Qa fr st→c.wpIn (fen ρ) 0 P Q a w
omit [Lam] in
theorem setPs_ok {Pr γ w nt}:∀ (ps:List Tmp) (vs:List V) (us:List Value) {fr:Nat→V} {a:Act},FrOk Pr γ w fr a nt→(∀ p∈ps,p < nt)→RepL Pr γ w vs us →
  FrOk Pr γ w (setPs ps vs fr) { a with tmps:=(ps.zip us).foldl (fun t (q:Tmp × Value)=>t.setIfInBounds q.1 q.2) a.tmps } nt
 | [],_,_,fr,a,F,_,_=>by simpa [setPs] using F
 | _::_,[],us,fr,a,F,_,h=>by
   cases us with
   | nil=>simpa [setPs] using F
   | cons=>simp [RepL] at h
 | p::ps,v::vs,us,fr,a,F,hp,h=>by
   cases us with
   | nil=>simp [RepL] at h
   | cons u us =>
     have F1:=F.put (some p) (fun x hx=>by cases hx; exact hp _ (by simp)) (h.2 0 v u rfl rfl)
     have:=setPs_ok ps vs us F1 (fun q hq=>hp q (by simp [hq])) ⟨by simpa using h.1,fun i x y a b=>h.2 (i+1) x y (by simpa using a) (by simpa using b)⟩
     simpa [setPs,Cod.put,Act.put] using this
def JumpOf:Ex→Code→Prop
 | .ret,.ret=>True
 | .exit id,.exit id'=>id=id'
 | _,_=>False
variable {P:Program} {ok:OkY} {E:Env P ok} {w0:World} {mod:Nat→Prop} {γ0 γs:List G} {Pr0:Nat→Nat→Prop} {C0:Nat→Prop} {nt:Nat} {ρ:Option Nat}
 {Pr Pr':Nat→Nat→Prop} {γ γ' γc:List G} {C C':Nat→Prop} {fr fr':Nat→V} {st st':St} {a a':Act} {w w':World}
structure RInv (P:Program) (ok:OkY) (E:Env P ok) (w0:World) (mod:Nat→Prop) (Pr0:Nat→Nat→Prop) (C0:Nat→Prop) (nt:Nat) (ρ:Option Nat) (Pr1:Nat→Nat→Prop) (γ:List G) (fr:Nat→V) (a:Act) (W:World) (l:Nat) (Lr:Loop) (M:Nat→Prop)
  (I:List (List V)→St→Prop) (J:Ex→St→Prop) (log:List (List V)) (b:Bool) (Cc:Nat→Prop) (Prr:Nat→Nat→Prop) (Wc:World):Prop where
 low:∀ x,Cc x→x < Wc.heap.size∧¬ M x
 here:Cc l
 size:W.heap.size≤Wc.heap.size
 all:∀ x,x < W.heap.size→¬ M x→Cc x
 ex:∃ stb Prb γb Cb p,X P ok E w0 mod γ Pr0 C0 nt ρ Prb γb Cb fr stb a Wc∧Keep Pr1 Prb γ γb W Wc∧(∀ (k b:Nat),Owns stb γb k b→Cc b)∧(∀ x,Cb x→Cc x) ∧
  (∀ x n,Prb x n→Prr x n∨Cc x)∧¬ Cb l∧Wc.heap[l]? = some (.loop { Lr with state:=if b then .ready else .done,pending:=p })∧(b=true→p=none∧I log stb)∧(b=false→∃ e c,p=some c∧JumpOf e c∧J e stb)
theorem RInv.stable {Pr1 W l Lr M I J log b Cc Prr Wc W'} (hM:∀ x,M x→w0.heap.size≤x∨mod x) (hW:w0.heap.size≤W.heap.size) (hmk:∀ r,mark r∈a.defers→r < W.heap.size∧¬ M r) (hrd:∀ r,ρ=some r→r < W.heap.size∧¬ M r)
  (h:RInv P ok E w0 mod Pr0 C0 nt ρ Pr1 γ fr a W l Lr M I J log b Cc Prr Wc) (F:Fr Cc Prr Wc W'):RInv P ok E w0 mod Pr0 C0 nt ρ Pr1 γ fr a W l Lr M I J log b Cc Prr W':=by
 obtain ⟨stb,Prb,γb,Cb,p,h1,h2,h3,h4,h5,h6,h7,h8⟩:=h.ex
 have hcell:∀ x n,Prb x n→W'.cell? ⟨x,n,none⟩=Wc.cell? ⟨x,n,none⟩:=by
  intro x n hx
  rcases h5 x n hx with hx | hx
  · exact F.cell x n hx
  · exact cell_of_block (F.blk x hx) n
 refine ⟨fun x hx=>⟨Nat.lt_of_lt_of_le (h.low x hx).1 F.size,(h.low x hx).2⟩,h.here,Nat.le_trans h.size F.size,h.all,stb,Prb,γb,Cb,p,?_,h2.trans ⟨fun _ _ h=>h,hcell,fun _ _ h=>h⟩,h3,h4,h5,h6,by rw [F.blk l h.here]; exact h7,h8⟩
 refine h1.still F.os F.tape F.output F.size hcell (fun k b ho=>F.blk _ (h3 k b ho)) (fun x hx=>F.blk x (h4 x hx)) (fun r hr=>F.blk r (h.all r (hmk r hr).1 (hmk r hr).2)) (fun r hr=>?_) (fun x a1 a2 a3=>F.blk x (h.all x (Nat.lt_of_lt_of_le a1 hW) fun hm=>?_))
 · obtain ⟨_,L,b1,_⟩:=h1.ext.round r hr
   exact ⟨L,by rw [F.blk r (h.all r (hrd r hr).1 (hrd r hr).2)]; exact b1⟩
 · rcases hM x hm with hm | hm
   · omega
   · exact a2 hm
theorem RInv.call {τ:Tau} {assign body:Code} (hA:Sound P ok E τ nt assign) (hB:Sound P ok E τ nt body) {Pr1 W l Lr M I J} {okb:OkY} {log:List (List V)} {Cc:Nat→Prop} {Prr:Nat→Nat→Prop} {Wc:World} {vs:List V} {cargs:List Value}
  (hM:∀ x,M x→w0.heap.size≤x∨mod x) (hMl:∀ x,M x→x < W.heap.size) (hW:w0.heap.size≤W.heap.size) (hl0:w0.heap.size≤l)
  (hLa:Lr.assign=assign) (hLb:Lr.body=body) (hLt:Lr.tmps=a.tmps) (hps:∀ p∈Lr.params.toList,p < nt) (F0:FrOk Pr1 γ W fr a nt)
  {Qb:Ex→(Nat→V)→St→Prop} (hb1:∀ fr' st',Qb .normal fr' st'→∃ sel,cmp γ.length sel fr' st' fun _ st'=>I (log++[vs]) st') (hb2:∀ v fr' st',Qb (.pan v) fr' st'→False) (hb3:∀ id fr' st',Qb (.exit id) fr' st'→J (.exit id) st') (hb4:∀ fr' st',Qb .ret fr' st'→J .ret st')
  (hbody:∀ stb,I log stb→okb log vs→vs.length=Lr.params.size∧awp P ok τ γ.length assign (AThen (awp P ok τ γ.length body Qb) fun _ _ _=>False) (setPs Lr.params.toList vs fr) stb)
  (h:RInv P ok E w0 mod Pr0 C0 nt ρ Pr1 γ fr a W l Lr M I J log true Cc Prr Wc) (hk:∀ x n,Prr x n→Pr1 x n∨¬ Cc x) (hlow:∀ x n,Prr x n→x < Wc.heap.size) (hr:RepL Prr [] Wc vs cargs) (hok:okb log vs) :
  YieldAt Fence.wide 0 P l cargs.toArray Wc fun e w'=>∃ b C',e=.returned (.bool b)∧RInv P ok E w0 mod Pr0 C0 nt ρ Pr1 γ fr a W l Lr M I J (log++[vs]) b C' Prr w'∧YFr Cc C' Prr Wc w':=by
 obtain ⟨stb,Prb,γb,Cb,p,XB,KB,hown,hCb,hPrb,hCl,hrec,hI,_⟩:=h.ex
 obtain ⟨rfl,hI'⟩:=hI rfl
 obtain ⟨hlen,hwp⟩:=hbody stb hI' hok
 simp only [if_true] at hrec
 have hlen':cargs.toArray.size=Lr.params.size:=by rw [List.size_toArray,← hr.1,hlen]
 refine ⟨_,_,_,_,run_yield hrec hlen',roundIn_of_wpIn trivial ?_⟩
 rw [hLa,hLb,hLt]
 let PrU:Nat→Nat→Prop:=fun x n=>Prb x n∨Prr x n
 have hforeign:∀ x n,Prr x n→Prb x n∨¬ Cc x:=fun x n hx=>by
  rcases hk x n hx with hx | hx
  · exact .inl (KB.sub x n hx)
  · exact .inr hx
 have KU:Keep Prb PrU γb γb Wc Wc:=⟨fun _ _ h=>.inl h,fun _ _ _=>rfl,fun _ _ h=>h⟩
 have hvs:RepL PrU γb Wc vs cargs:=⟨hr.1,fun i x u p q=>((hr.2 i x u p q).names (n:=0) (fun k hk=>absurd hk (Nat.not_lt_zero _)) (hr.2 i x u p q).clean0).keep ⟨fun _ _ h=>.inr h,fun _ _ _=>rfl,fun _ _ h=>h⟩⟩
 have F1:FrOk PrU γb Wc (setPs Lr.params.toList vs fr) { tmps:=(Lr.params.zip cargs.toArray).foldl (fun tmps (t,a)=>tmps.setIfInBounds t a) a.tmps,defers:=[] } nt:=by
  have:=setPs_ok Lr.params.toList vs cargs (XB.fr.keep KU) hps hvs
  have e:(Lr.params.zip cargs.toArray).foldl (fun tmps (t,a)=>tmps.setIfInBounds t a) a.tmps=(Lr.params.toList.zip cargs).foldl (fun t (q:Tmp × Value)=>t.setIfInBounds q.1 q.2) a.tmps:=by
   rw [← Array.foldl_toList,Array.toList_zip]
  rw [e]
  exact ⟨this.size,this.slot⟩
 have R0:=XB.round (l:=l) (Pr2:=PrU) (fun _ _ h=>.inl h) (fun x n hx=>by
  rcases hx with hx | hx
  · exact .inl hx
  · rcases hforeign x n hx with hf | hf
    · exact .inl hf
    · exact .inr ⟨hlow x n hx,fun hc=>hf (hCb x hc),fun k ho=>hf (hown k _ ho)⟩) hrec hCl F1 rfl
 have hnewU:∀ x n,PrU x n→Prb x n∨w0.heap.size≤x∨mod x:=by
  intro x n hx
  rcases hx with hx | hx
  · exact .inl hx
  · rcases hforeign x n hx with hf | hf
    · exact .inl hf
    · rcases Nat.lt_or_ge x W.heap.size with hlt | hge
      · have:M x:=Classical.byContradiction fun hm=>hf (h.all x hlt hm)
        exact .inr (hM x this)
      · exact .inr (.inl (Nat.le_trans hW hge))
 refine hA Wc (modOf stb γb) γ PrU Cb (some l) _ _ (fun e x a1 w1 fr1 st1 P1 γ1 C1 hQ R1 hx=>?_) _ _ _ _ _ _ _ R0 hwp
 cases e with
 | exit id=>exact hQ.elim
 | ret=>exact hQ.elim
 | pan v=>exact hQ.elim
 | normal =>
 cases hx
 have hlt:=(Array.getElem?_eq_some_iff.1 hrec).1
 have kind0:∀ {st:St} {γ:List G} {w:World} {w0 mod γ0 Pr0 C0 ρ Pr C fr a L},X P ok E w0 mod γ0 Pr0 C0 nt ρ Pr γ C fr st a w→w.heap[l]? = some (.loop L)→¬ modOf st γ l:=by
  rintro st γ w w0 mod γ0 Pr0 C0 ρ Pr C fr a L HX hh ⟨k,ho⟩
  rcases HX.owns_obj ho with ⟨cur,ty,f,h⟩ | ⟨es,c,h⟩ <;> exact absurd (hh.symm.trans h) (by simp)
 have hrec1:w1.heap[l]? = some (.loop { Lr with state:=.ready,pending:=none }):=by
  rw [R1.base.old l hlt (kind0 XB hrec) hCl]; exact hrec
 have hC1:¬ C1 l:=fun hc=>by
  rcases R1.base.cnew l hc with h | h
  · exact hCl h
  · omega
 have KW1:Keep Pr1 P1 γ γ1 W w1:=⟨fun x n hx=>R1.base.sub x n (.inl (KB.sub x n hx)),fun x n hx=>(R1.base.cell x n (.inl (KB.sub x n hx))).trans (KB.cell x n hx),R1.base.names⟩
 have XB1:=XB.rejoin (fun _ _ h=>.inl h) hnewU R1 (F0.keep KW1)
 have XB2:=XB1.putLoop hrec1 hC1 (.inr hl0) { Lr with state:=.busy,pending:=none }
 have hrec2:(w1.putObj l (.loop { Lr with state:=.busy,pending:=none })).heap[l]? = some (.loop { Lr with state:=.busy,pending:=none }):=World.putObj_heap_same (Array.getElem?_eq_some_iff.1 hrec1).1
 refine ⟨w1.putObj l (.loop { Lr with state:=.busy,pending:=none }),run_beginRound hrec1 rfl,?_⟩
 generalize hw2:w1.putObj l (.loop { Lr with state:=.busy,pending:=none })=w2 at XB2 hrec2 ⊢
 have hcell2:∀ b n,w2.cell? ⟨b,n,none⟩=w1.cell? ⟨b,n,none⟩:=by
  intro b n
  by_cases e:b=l
  · subst e; simp [World.cell?,hrec2,hrec1]
  · rw [← hw2]; exact cell_of_block (World.putObj_heap_other e) n
 have hold2:∀ b,b≠l→w2.heap[b]? = w1.heap[b]? := fun b hb=>by rw [← hw2]; exact World.putObj_heap_other hb
 have hsz2:w2.heap.size=w1.heap.size:=by rw [← hw2]; simp
 have K12:Keep P1 P1 γ1 γ1 w1 w2:=⟨fun _ _ h=>h,fun b n _=>hcell2 b n,fun _ _ h=>h⟩
 have hd1:a1.defers=[]:=(R1.ext.round l rfl).1
 have R2:=XB2.round (l:=l) (Pr2:=P1) (fun _ _ h=>h) (fun _ _ h=>.inl h) hrec2 hC1 (R1.fr.keep K12) hd1
 have hlt2:=(Array.getElem?_eq_some_iff.1 hrec2).1
 have hs01:Wc.heap.size≤w1.heap.size:=R1.base.size
 have hos2:w2.os=w1.os∧w2.tape=w1.tape∧w2.output=w1.output:=by rw [← hw2]; exact ⟨rfl,rfl,rfl⟩
 have own1:∀ {k b:Nat},Owns st1 γ1 k b→Cc b∨Wc.heap.size≤b:=by
  intro k b ho
  rcases R1.owns_mine ho with h1 | ⟨k',ho'⟩
  · exact .inr h1
  · exact .inl (hown k' _ ho')
 have finish:∀ (jump:Option Code) (P3:Nat→Nat→Prop) (C3:Nat→Prop) (γ4:List G) (st4:St) (fr4:Nat→V) (a3:Act) (w3:World),X P ok E w2 (modOf st1 γ1) γ P1 C1 nt (some l) P3 γ4 C3 fr4 st4 a3 w3 →
   (jump=none→I (log++[vs]) st4)→(∀ c,jump=some c→∃ e,JumpOf e c∧J e st4) →
   ∃ v w',(Instr.endRound l jump).run P w3=.ok v w'∧∃ b C',Ending.returned v=.returned (.bool b)∧RInv P ok E w0 mod Pr0 C0 nt ρ Pr1 γ fr a W l Lr M I J (log++[vs]) b C' Prr w'∧YFr Cc C' Prr Wc w':=by
  intro jump P3 C3 γ4 st4 fr4 a3 w3 R hj1 hj2
  have hrec3:w3.heap[l]? = some (.loop { Lr with state:=.busy,pending:=none }):=by
   rw [R.base.old l hlt2 (kind0 XB2 hrec2) hC1]; exact hrec2
  have K3:Keep Pr1 P3 γ γ4 W w3:=⟨fun x n hx=>R.base.sub x n (KW1.sub x n hx),fun x n hx=>((R.base.cell x n (KW1.sub x n hx)).trans (hcell2 x n)).trans (KW1.cell x n hx),R.base.names⟩
  have XB3:=XB2.rejoin (fun _ _ h=>h) (fun _ _ h=>.inl h) R (F0.keep K3)
  have hC3:¬ C3 l:=fun hc=>by
   rcases R.base.cnew l hc with h | h
   · exact hC1 h
   · omega
  have XB4:=XB3.putLoop hrec3 hC3 (.inr hl0) { Lr with state:=if jump.isNone then .ready else .done,pending:=jump }
  have hlt3:=(Array.getElem?_eq_some_iff.1 hrec3).1
  have hrec4:(w3.putObj l (.loop { Lr with state:=if jump.isNone then .ready else .done,pending:=jump })).heap[l]? = some (.loop { Lr with state:=if jump.isNone then .ready else .done,pending:=jump }):=World.putObj_heap_same hlt3
  refine ⟨_,_,run_endRound jump hrec3,jump.isNone,fun x=>Cc x∨(Wc.heap.size≤x∧x < w3.heap.size),rfl,?_,?_⟩
  · have hcell4:∀ b n,(w3.putObj l (.loop { Lr with state:=if jump.isNone then .ready else .done,pending:=jump })).cell? ⟨b,n,none⟩=w3.cell? ⟨b,n,none⟩:=by
     intro b n
     by_cases e:b=l
     · rw [e]; simp only [World.cell?,hrec4,hrec3]
     · exact cell_of_block (World.putObj_heap_other e) n
    refine ⟨fun x hx=>?_,.inl h.here,?_,fun x a1 a2=>.inl (h.all x a1 a2),st4,P3,γ4,C3,jump,XB4,K3.trans ⟨fun _ _ h=>h,fun b n _=>hcell4 b n,fun _ _ h=>h⟩,fun k b ho=>?_,fun x hx=>?_,fun x n hx=>?_,hC3,hrec4,fun hb=>?_,fun hb=>?_⟩
    · have hsz:Wc.heap.size≤w3.heap.size:=by have:=R.base.size; omega
      rcases hx with hx | ⟨hx1,hx2⟩
      · exact ⟨by simp only [World.putObj_size]; have:=(h.low x hx).1; omega,(h.low x hx).2⟩
      · exact ⟨by simpa using hx2,fun hm=>by have:=hMl x hm; have:=h.size; omega⟩
    · simp only [World.putObj_size]; have:=R.base.size; have:=h.size; omega
    · rcases R.owns_mine ho with h1 | ⟨k',ho'⟩
      · exact .inr ⟨by omega,R.owns_lt ho⟩
      · rcases own1 ho' with h1 | h1
        · exact .inl h1
        · exact .inr ⟨h1,by have:=R1.owns_lt ho'; have:=R.base.size; omega⟩
    · have hlt:=R.ext.clow x hx
      rcases R.base.cnew x hx with h1 | h1
      · rcases R1.base.cnew x h1 with h2 | h2
        · exact .inl (hCb x h2)
        · exact .inr ⟨h2,hlt⟩
      · exact .inr ⟨by omega,hlt⟩
    · have hlt:=R.st.low x n hx
      rcases R.base.new x n hx with h1 | h1 | ⟨k',ho'⟩
      · rcases R1.base.new x n h1 with h2 | h2 | ⟨k',ho'⟩
        · rcases h2 with h2 | h2
          · rcases hPrb x n h2 with h3 | h3
            · exact .inl h3
            · exact .inr (.inl h3)
          · exact .inl h2
        · exact .inr (.inr ⟨h2,hlt⟩)
        · exact .inr (.inl (hown k' _ ho'))
      · exact .inr (.inr ⟨by omega,hlt⟩)
      · rcases own1 ho' with h1 | h1
        · exact .inr (.inl h1)
        · exact .inr (.inr ⟨h1,hlt⟩)
    · have hn:jump=none:=by simpa using hb
      exact ⟨hn,hj1 hn⟩
    · cases hjm:jump with
      | none=>rw [hjm] at hb; cases hb
      | some c=>obtain ⟨e,q1,q2⟩:=hj2 c hjm; exact ⟨e,c,rfl,q1,q2⟩
  · have B3:=R.base
    have B1:=R1.base
    refine ⟨B3.os.trans (hos2.1.trans B1.os),B3.tape.trans (hos2.2.1.trans B1.tape),B3.output.trans (hos2.2.2.trans B1.output),by simp only [World.putObj_size]; have:=B3.size; omega,fun x hx=>.inl hx,fun x hx=>?_,fun x h1 h2=>?_,fun x n hx=>?_⟩
    · rcases hx with hx | hx
      · exact .inl hx
      · exact .inr hx.1
    · have hne:x≠l:=fun e=>h2 (e ▸ h.here)
      rw [World.putObj_heap_other hne,B3.old x (by omega) (fun hm=>?_) (fun hc=>?_),hold2 x hne,B1.old x h1 (fun hm=>?_) (fun hc=>h2 (hCb x hc))]
      · obtain ⟨k,ho⟩:=hm
        exact h2 (hown k _ ho)
      · obtain ⟨k,ho⟩:=hm
        rcases own1 ho with h3 | h3
        · exact h2 h3
        · omega
      · rcases B1.cnew x hc with h3 | h3
        · exact h2 (hCb x h3)
        · omega
    · have hcell4:(w3.putObj l (.loop { Lr with state:=if jump.isNone then .ready else .done,pending:=jump })).cell? ⟨x,n,none⟩=w3.cell? ⟨x,n,none⟩:=by
       by_cases e:x=l
       · rw [e]; simp only [World.cell?,hrec4,hrec3]
       · exact cell_of_block (World.putObj_heap_other e) n
      have hP1:P1 x n:=B1.sub x n (.inr hx)
      rw [hcell4,B3.cell x n hP1,hcell2,B1.cell x n (.inr hx)]
 refine hB w2 (modOf st1 γ1) γ P1 C1 (some l) _ _ (fun e x a3 w3 fr3 st3 P3 γ3 C3 hQ3 R3 hx3=>?_) _ _ _ _ _ _ _ R2 hQ
 cases hx3 with
 | pan hv=>exact (hb2 _ _ _ hQ3).elim
 | normal =>
   obtain ⟨sel,hsel⟩:=hb1 _ _ hQ3
   have hcmp:∃ γ4 fr4 st4,X P ok E w2 (modOf st1 γ1) γ P1 C1 nt (some l) P3 γ4 C3 fr4 st4 a3 w3∧I (log++[vs]) st4:=by
    cases sel with
    | none=>exact ⟨γ3,fr3,st3,R3,hsel⟩
    | some sel =>
      obtain ⟨q1,q2⟩:=Chk_iff.1 hsel
      obtain ⟨γ4,R4⟩:=R3.compact q1
      exact ⟨γ4,_,_,R4,q2⟩
   obtain ⟨γ4,fr4,st4,R4,hI4⟩:=hcmp
   exact finish none P3 C3 γ4 st4 fr4 a3 w3 R4 (fun _=>hI4) (fun c hc=>by cases hc)
 | exit id=>exact finish (some (.exit id)) P3 C3 γ3 st3 fr3 a3 w3 R3 (fun hc=>by cases hc) (fun c hc=>by cases hc; exact ⟨.exit id,rfl,hb3 _ _ _ hQ3⟩)
 | ret=>exact finish (some .ret) P3 C3 γ3 st3 fr3 a3 w3 R3 (fun hc=>by cases hc) (fun c hc=>by cases hc; exact ⟨.ret,trivial,hb4 _ _ hQ3⟩)
end Go.Cod
namespace Go.Cod
open Go
variable [Lam]
variable {P:Program} {ok:OkY} {E:Env P ok} {w0:World} {mod:Nat→Prop} {γ0 γs:List G} {Pr0:Nat→Nat→Prop} {C0:Nat→Prop} {nt:Nat} {ρ:Option Nat}
 {Pr Pr':Nat→Nat→Prop} {γ γ' γc:List G} {C C':Nat→Prop} {fr fr':Nat→V} {st st':St} {a a':Act} {w w':World}
theorem X.names (H:X P ok E w0 mod γ0 Pr0 C0 nt ρ Pr γ C fr st a w) {γ1:List G} (h:∀ (k:Nat) g,γ1[k]? = some g→γ[k]? = some g):X P ok E w0 mod γ1 Pr0 C0 nt ρ Pr γ C fr st a w :=
 ⟨H.mine,H.ext,H.fr,H.st,⟨H.base.os,H.base.tape,H.base.output,H.base.size,H.base.old,H.base.sub,H.base.new,h,H.base.cell,H.base.csub,H.base.cnew⟩⟩
theorem X.deaden (H:X P ok E w0 mod γ0 Pr0 C0 nt ρ Pr γ C fr st a w) {σ:List Nat} {stb:St} (hl:stb.length=st.length) (h1:∀ j,j∉σ→stb[j]? = st[j]?) (h2:∀ (j:Nat) (o:O),j∈σ→stb[j]? = some o→o.live=false∧o.kind=.cell) :
  X P ok E w0 mod γ0 Pr0 C0 nt ρ Pr γ C fr stb a w:=by
 have key:∀ {j:Nat} {o:O},stb[j]? = some o→(o.own=true∨o.kind=.yld∨o.kind=.pool)→st[j]? = some o:=by
  intro j o hj ho
  by_cases hm:j∈σ
  · obtain ⟨a1,a2⟩:=h2 j o hm hj
    rcases ho with ho | ho
    · rcases own_iff.1 ho with h | h
      · rw [a1] at h; cases h
      · rw [a2] at h; cases h
    · rw [a2] at ho; rcases ho with ho | ho <;> cases ho
  · rw [← h1 j hm]; exact hj
 have D:=H.ext
 exact ⟨fun k o g a1 a2 a3=>H.mine k o g (key a1 (.inl (own_iff.2 (.inl a3)))) a2 a3,
  ⟨D.clow,fun k o g a1 a2 a3=>D.apart k o g (key a1 (.inl a3)) a2 a3,D.prC,fun k o g a1 a2 a3=>D.maps k o g (key a1 (.inl (own_iff.2 (.inr a3)))) a2 a3,
    fun k k' o o' g g' a1 a2 a3 a4 a5 a6 a7=>D.mone k k' o o' g g' (key a1 (.inl (own_iff.2 (.inr a5)))) (key a2 (.inl (own_iff.2 (.inr a6)))) a3 a4 a5 a6 a7,fun k o g a1 a2 a3=>D.mmine k o g (key a1 (.inl (own_iff.2 (.inr a3)))) a2 a3,
    fun k o g a1 a2 a3=>D.yld k o g (key a1 (.inr (.inl a3))) a2 a3,fun k k' o o' a1 a2 a3 a4=>D.yone k k' o o' (key a1 (.inr (.inl a3))) (key a2 (.inr (.inl a4))) a3 a4,D.marks,D.round,D.pools.move (fun k=>k) (fun k o h hp=>key h (.inr (.inr hp))) (fun _ _ _ _ _ _ _ _ h=>h) (fun _ _=>rfl) (fun _ _ h=>h) (fun _ _ _=>rfl) (fun _ _ h=>D.pools.unp h) (fun _ h=>(D.pools.at h).1) (fun b h=>(D.pools.at h).2) (fun k o g a1 a2 a3 hl=>D.pools.notLive hl ⟨k,o,g,key a1 (.inl (own_iff.2 (.inl a3))),a2,a3,rfl⟩)⟩,
  H.fr,⟨by rw [hl]; exact H.st.len,fun k o g a1 a2 a3=>H.st.obj k o g (key a1 (.inl (own_iff.2 (.inl a3)))) a2 a3,
   fun k k' o o' g g' a1 a2 a3 a4 a5 a6 a7=>H.st.one k k' o o' g g' (key a1 (.inl (own_iff.2 (.inl a5)))) (key a2 (.inl (own_iff.2 (.inl a6)))) a3 a4 a5 a6 a7,H.st.low,H.st.laid⟩,H.base⟩
theorem X.again (XB:X P ok E w0 mod γs Pr0 C0 nt ρ Pr γ C fr st a w) {σ:List Nat} {stF:St} {Pr':Nat→Nat→Prop} {γx:List G} {Cx:Nat→Prop} (hlen:stF.length=st.length) (hst:∀ j,j∉σ→stF[j]? = st[j]?)
  (hb:∀ k∈σ,∃ (o:O) (g:G),stF[k]? = some o∧γ[k]? = some g∧o.own=true∧(o.live=true→ObjOk Pr' γx w o g)∧(o.kind=.map→MapOk Pr' γx w o g)∧V.clean.cleanLL 0 o.es=true∧¬ Cx g.blk∧(w0.heap.size≤g.blk∨mod g.blk)∧o.kind≠.yld)
  (hone:∀ (k k':Nat) g g',k∈σ→k'∈σ→γ[k]? = some g→γ[k']? = some g'→g.blk=g'.blk→k=k')
  (hC:∀ b,C b→Cx b) (hown:∀ (k b:Nat),Owns st γ k b→Cx b) (h1:∀ b n,Pr b n→Pr' b n∨Cx b) (h2:∀ b n,Pr' b n→Pr b n∨¬ Cx b) (hlow:∀ b n,Pr' b n→b < w.heap.size)
  (hnew:∀ b n,Pr' b n→Pr b n∨w0.heap.size≤b∨mod b):X P ok E w0 mod γs Pr0 C0 nt ρ (fun b n=>Pr b n∨Pr' b n) γ C fr stF a w:=by
 have K:Keep Pr (fun b n=>Pr b n∨Pr' b n) γ γ w w:=⟨fun _ _ h=>.inl h,fun _ _ _=>rfl,fun _ _ h=>h⟩
 have get:∀ {j:Nat} {o:O} {g:G},stF[j]? = some o→γ[j]? = some g→(j∉σ∧st[j]? = some o)∨(j∈σ∧o.own=true∧(o.live=true→ObjOk Pr' γx w o g)∧(o.kind=.map→MapOk Pr' γx w o g)∧V.clean.cleanLL 0 o.es=true∧¬ Cx g.blk∧(w0.heap.size≤g.blk∨mod g.blk)∧o.kind≠.yld):=by
  intro j o g hj hg
  by_cases hm:j∈σ
  · obtain ⟨o',g',q1,q2,q3⟩:=hb j hm
    rw [hj] at q1; cases q1
    rw [hg] at q2; cases q2
    exact .inr ⟨hm,q3⟩
  · exact .inl ⟨hm,by rw [← hst j hm]; exact hj⟩
 have mixed:∀ {j k:Nat} {o p:O} {g q:G},st[j]? = some o→γ[j]? = some g→o.own=true→¬ Cx q.blk→g.blk≠q.blk:=fun a1 a2 a3 a4 e=>a4 (e ▸ hown _ _ (own_owns a1 a2 a3))
 have D:=XB.ext
 have B:=XB.base
 have reObj:∀ {o:O} {g:G},ObjOk Pr' γx w o g→V.clean.cleanLL 0 o.es=true→¬ Cx g.blk→ObjOk (fun b n=>Pr b n∨Pr' b n) γ w o g:=by
  intro o g h hcl hcx
  obtain ⟨cur,f,r1,r2,r3⟩:=h.row
  have hp:∀ n,Pr g.blk n∨Pr' g.blk n→Pr' g.blk n:=by
   intro n hn
   rcases hn with hn | hn
   · rcases h1 _ n hn with h | h
     · exact h
     · exact absurd h hcx
   · exact hn
  refine ⟨h.len,h.wid,h.le,h.max,h.sz,h.lf,⟨cur,f,r1,r2,fun i e j x p q=>?_⟩,fun n hn hx=>h.spare n hn (hp n hx),fun he n hx=>h.excl he n (hp n hx),fun _=>hcl,h.kd⟩
  obtain ⟨u,hu,hr⟩:=r3 i e j x p q
  refine ⟨u,hu,(hr.names (n:=0) (fun k hk=>absurd hk (Nat.not_lt_zero _)) ?_).keep ⟨fun _ _ h=>.inr h,fun _ _ _=>rfl,fun _ _ h=>h⟩⟩
  exact cleanL_iff.1 (cleanLL_iff.1 hcl e (List.mem_of_getElem? p)) x (List.mem_of_getElem? q)
 have reMap:∀ {o:O} {g:G},MapOk Pr' γx w o g→MapOk (fun b n=>Pr b n∨Pr' b n) γ w o g:=by
  intro o g h
  exact ((h.mapO (γ':=γ) (f:=fun i=>i)).2).keep ⟨fun _ _ h=>.inr h,fun _ _ _=>rfl,fun _ _ h=>h⟩ rfl
 refine ⟨fun k o g a1 a2 a3=>?_,⟨D.clow,fun k o g a1 a2 a3=>?_,fun b n h=>?_,fun k o g a1 a2 a3=>?_,fun k k' o o' g g' a1 a2 a3 a4 a5 a6 a7=>?_,fun k o g a1 a2 a3=>?_,fun k o g a1 a2 a3=>?_,fun k k' o o' a1 a2 a3 a4=>?_,D.marks,D.round,?_⟩,XB.fr.keep K,
  ⟨by rw [hlen]; exact XB.st.len,fun k o g a1 a2 a3=>?_,fun k k' o o' g g' a1 a2 a3 a4 a5 a6 a7=>?_,fun b n h=>?_,XB.st.laid.keep K⟩,
  ⟨B.os,B.tape,B.output,B.size,B.old,fun b n h=>.inl (B.sub b n h),fun b n h=>?_,B.names,B.cell,B.csub,B.cnew⟩⟩
 · rcases get a1 a2 with ⟨_,h⟩ | ⟨_,_,_,_,_,_,h,_⟩
   · exact XB.mine k o g h a2 a3
   · exact h
 · rcases get a1 a2 with ⟨_,h⟩ | ⟨_,_,_,_,_,h,_,_⟩
   · exact D.apart k o g h a2 a3
   · exact fun hc=>h (hC _ hc)
 · rcases h with h | h
   · exact D.prC b n h
   · rcases h2 b n h with h | h
     · exact D.prC b n h
     · exact .inr fun hc=>h (hC b hc)
 · rcases get a1 a2 with ⟨_,h⟩ | ⟨_,_,_,h,_⟩
   · exact (D.maps k o g h a2 a3).keep K rfl
   · exact reMap (h a3)
 · rcases get a1 a3 with ⟨_,h⟩ | ⟨m1,_,_,_,_,q1,_⟩ <;> rcases get a2 a4 with ⟨_,h'⟩ | ⟨m2,_,_,_,_,q2,_⟩
   · exact D.mone k k' o o' g g' h h' a3 a4 a5 a6 a7
   · exact absurd a7 (mixed (k:=k) (p:=o) h a3 (own_iff.2 (.inr a5)) q2)
   · exact absurd a7.symm (mixed (k:=k) (p:=o) h' a4 (own_iff.2 (.inr a6)) q1)
   · exact hone k k' g g' m1 m2 a3 a4 a7
 · rcases get a1 a2 with ⟨_,h⟩ | ⟨_,_,_,_,_,_,h,_⟩
   · exact D.mmine k o g h a2 a3
   · exact h
 · rcases get a1 a2 with ⟨_,h⟩ | ⟨_,_,_,_,_,_,_,h⟩
   · obtain ⟨y1,y2,y3⟩:=D.yld k o g h a2 a3
     exact ⟨y1,y2,E.mono y3 fun _ _ h=>.inl h⟩
   · exact absurd a3 h
 · have key:∀ {j:Nat} {o:O},stF[j]? = some o→o.kind=.yld→st[j]? = some o:=by
    intro j o hj hk
    by_cases hm:j∈σ
    · obtain ⟨o',g',q1,_,_,_,_,_,_,_,q⟩:=hb j hm
      rw [hj] at q1; cases q1
      exact absurd hk q
    · rw [← hst j hm]; exact hj
   exact D.yone k k' o o' (key a1 a3) (key a2 a4) a3 a4
 · have Q:=D.pools
   have lx:∀ {b:Nat},Lab st b→Cx b:=fun h=>by obtain ⟨k,hk⟩:=h.owns (γ:=γ); exact hown k _ hk
   refine Q.move (fun k=>k) (fun j o hj hp=>?_) (fun _ _ _ _ _ _ _ _ h=>h) (fun _ _=>rfl) (fun _ _ h=>.inl h) (fun _ _ _=>rfl) (fun b n h hp=>?_) (fun _ h=>(Q.at h).1) (fun b h=>(Q.at h).2) (fun k o g a1 a2 a3 hl=>?_)
   · by_cases hm:j∈σ
     · obtain ⟨o',g',q1,_,q3,q4,_⟩:=hb j hm
       rw [hj] at q1; cases q1
       rcases own_iff.1 q3 with q | q
       · have:=(q4 q).kd; rw [hp] at this; cases this
       · rw [hp] at q; cases q
     · rw [← hst j hm]; exact hj
   · rcases hp with hp | hp
     · exact Q.unp h hp
     · rcases h2 b n hp with h3 | h3
       · exact Q.unp h h3
       · exact h3 (lx h)
   · rcases get a1 a2 with ⟨_,h⟩ | ⟨_,_,_,_,_,h,_,_⟩
     · exact Q.notLive hl ⟨k,o,g,h,a2,a3,rfl⟩
     · exact h (lx hl)
 · rcases get a1 a2 with ⟨_,h⟩ | ⟨_,_,h,_,q1,q2,_,_⟩
   · refine (XB.st.obj k o g h a2 a3).same K rfl fun n hn=>?_
     rcases hn with hn | hn
     · exact hn
     · rcases h2 _ n hn with h3 | h3
       · exact h3
       · exact absurd (hown k _ (own_owns h a2 (own_iff.2 (.inl a3)))) h3
   · exact reObj (h a3) q1 q2
 · rcases get a1 a3 with ⟨_,h⟩ | ⟨m1,_,_,_,_,q1,_⟩ <;> rcases get a2 a4 with ⟨_,h'⟩ | ⟨m2,_,_,_,_,q2,_⟩
   · exact XB.st.one k k' o o' g g' h h' a3 a4 a5 a6 a7
   · exact absurd a7 (mixed (k:=k) (p:=o) h a3 (own_iff.2 (.inl a5)) q2)
   · exact absurd a7.symm (mixed (k:=k) (p:=o) h' a4 (own_iff.2 (.inl a6)) q1)
   · exact hone k k' g g' m1 m2 a3 a4 a7
 · rcases h with h | h
   · exact XB.st.low b n h
   · exact hlow b n h
 · rcases h with h | h
   · exact B.new b n h
   · rcases hnew b n h with h | h
     · exact B.new b n h
     · exact .inr h
omit [Lam] in
theorem ObjOk.shrC {Pr Pr' γ w st} {γ':List G} {σ:List Nat} {kn:Bool} (K:Keep Pr Pr' γ γ w w) {o:O} {g:G} (h:ObjOk Pr γ w o g) (hsp:∀ m,g.len*g.sz≤m→¬ Pr' g.blk m) (hex:o.excl=true→∀ m,¬ Pr' g.blk m)
  (hl:∀ k∈ownsO o,σ.contains k=false→Lent Pr Pr' γ w st k) (hu:V.clean.cleanLL 0 (shrO σ kn st o).es=true):ObjOk Pr' γ' w (shrO σ kn st o) g:=by
 obtain ⟨cur,fz,h1,h2,h3⟩:=h.row
 cases hb:o.box with
 | false =>
   have e:shrO σ kn st o=o:=by simp [shrO,hb]
   rw [e]
   refine ⟨h.len,h.wid,h.le,h.max,h.sz,h.lf,⟨cur,fz,h1,h2,fun i e j x a b=>?_⟩,hsp,hex,h.cl,h.kd⟩
   obtain ⟨u,hu,hr⟩:=h3 i e j x a b
   exact ⟨u,hu,(hr.keep K).names (n:=0) (fun k hk=>absurd hk (Nat.not_lt_zero _)) (V.cleanL_mem (V.cleanLL_mem (h.cl hb) e (List.mem_of_getElem? a)) x (List.mem_of_getElem? b))⟩
 | true =>
   have e:shrO σ kn st o={ o with es:=shrRows σ kn st o.es }:=by simp [shrO,hb]
   rw [e] at hu ⊢
   have row:∀ {i:Nat} {r:List V},(shrRows σ kn st o.es)[i]? = some r→∃ e0,o.es[i]? = some e0∧r=e0.map (shr σ kn st):=by
    intro i r hr
    rw [shrRows_eq,List.getElem?_map,Option.map_eq_some_iff] at hr
    obtain ⟨e0,h5,rfl⟩:=hr
    exact ⟨e0,h5,by rw [shrL_eq]⟩
   refine ⟨by simp [shrRows_eq,h.len],h.wid,h.le,h.max,fun r hr=>?_,fun r hr x hx=>?_,⟨cur,fz,h1,h2,fun i e j x a b=>?_⟩,hsp,hex,(fun hb'=>by simp only at hb'; rw [hb] at hb'; cases hb'),h.kd⟩
   · obtain ⟨i,hi⟩:=List.getElem?_of_mem hr
     obtain ⟨e0,h4,rfl⟩:=row hi
     simp; exact h.sz e0 (List.mem_of_getElem? h4)
   · obtain ⟨i,hi⟩:=List.getElem?_of_mem hr
     obtain ⟨e0,h4,rfl⟩:=row hi
     obtain ⟨z,hz,rfl⟩:=List.mem_map.1 hx
     rw [shr_leaf]; exact h.lf e0 (List.mem_of_getElem? h4) z hz
   · have hx:=cleanL_iff.1 (cleanLL_iff.1 hu e (List.mem_of_getElem? a)) x (List.mem_of_getElem? b)
     obtain ⟨e0,h4,rfl⟩:=row a
     rw [List.getElem?_map,Option.map_eq_some_iff] at b
     obtain ⟨z,hz,rfl⟩:=b
     obtain ⟨u,hu2,hr⟩:=h3 i e0 j z h4 hz
     have hs:=shr_rep (σ:=σ) (kn:=kn) (st:=st) K z u (fun k hk hc=>hl k (by
      unfold ownsO; rw [hb]
      exact mem_ownsRows (List.mem_of_getElem? h4) (owns_mem (List.mem_of_getElem? hz) k hk)) hc) hr
     exact ⟨u,hu2,hs.names (n:=0) (fun k hk=>absurd hk (Nat.not_lt_zero _)) hx⟩
end Go.Cod
namespace Go.Cod
open Go
variable [Lam]
omit [Lam] in
theorem away_len:∀ (l:List Nat) (st:St),(away st l).length=st.length
 | [],_=>rfl
 | k::ks,st=>by rw [away,away_len ks]; simp
omit [Lam] in
theorem away_out:∀ (l:List Nat) (st:St) {j:Nat},j∉l→(away st l)[j]? = st[j]?
 | [],_,_,_=>rfl
 | k::ks,st,j,h=>by
   simp only [List.mem_cons,not_or] at h
   rw [away,away_out ks _ h.2,List.getElem?_set,if_neg (Ne.symm h.1)]
omit [Lam] in
theorem away_keep:∀ (l:List Nat) (st:St) {j:Nat} {o:O},(∀ o,st[j]? = some o→o.live=false∧o.kind=.cell)→(away st l)[j]? = some o→o.live=false∧o.kind=.cell
 | [],_,_,_,h,ho=>h _ ho
 | k::ks,st,j,o,h,ho=>by
   rw [away] at ho
   refine away_keep ks _ (fun o' ho'=>?_) ho
   rw [List.getElem?_set] at ho'
   split at ho'
   · split at ho'
     · cases ho'; exact ⟨rfl,rfl⟩
     · cases ho'
   · exact h _ ho'
omit [Lam] in
theorem away_in:∀ (l:List Nat) (st:St) {j:Nat} {o:O},j∈l→(away st l)[j]? = some o→o.live=false∧o.kind=.cell
 | k::ks,st,j,o,h,ho=>by
   rw [away] at ho
   rcases List.mem_cons.1 h with rfl | h
   · refine away_keep ks _ (fun o' ho'=>?_) ho
     rw [List.getElem?_set,if_pos rfl] at ho'
     split at ho'
     · cases ho'; exact ⟨rfl,rfl⟩
     · cases ho'
   · exact away_in ks _ h ho
omit [Lam] in
theorem shrAll_len (σ:List Nat) (kn:Bool) (st:St):∀ (l:List Nat) (st1:St),(shrAll σ kn st st1 l).length=st1.length
 | [],_=>rfl
 | k::ks,st1=>by rw [shrAll,shrAll_len σ kn st ks]; simp
omit [Lam] in
theorem shrAll_out (σ:List Nat) (kn:Bool) (st:St):∀ (l:List Nat) (st1:St) {j:Nat},j∉l→(shrAll σ kn st st1 l)[j]? = st1[j]?
 | [],_,_,_=>rfl
 | k::ks,st1,j,h=>by
   simp only [List.mem_cons,not_or] at h
   rw [shrAll,shrAll_out σ kn st ks _ h.2,List.getElem?_set,if_neg (Ne.symm h.1)]
omit [Lam] in
theorem shrAll_in (σ:List Nat) (kn:Bool) (st:St):∀ (l:List Nat) (st1:St) {j:Nat},j∈l→j < st1.length→(shrAll σ kn st st1 l)[j]? = some (shrO σ kn st (getO st j))
 | k::ks,st1,j,h,hl=>by
   rw [shrAll]
   by_cases hm:j∈ks
   · exact shrAll_in σ kn st ks _ hm (by simpa using hl)
   · rcases List.mem_cons.1 h with rfl | h
     · rw [shrAll_out σ kn st ks _ hm,List.getElem?_set,if_pos rfl,if_pos hl]
     · exact absurd h hm
omit [Lam] in
theorem again_len (st0:St):∀ (l:List Nat) (st:St),(again st0 st l).length=st.length
 | [],_=>rfl
 | k::ks,st=>by rw [again,again_len st0 ks]; simp
omit [Lam] in
theorem again_out (st0:St):∀ (l:List Nat) (st:St) {j:Nat},j∉l→(again st0 st l)[j]? = st[j]?
 | [],_,_,_=>rfl
 | k::ks,st,j,h=>by
   simp only [List.mem_cons,not_or] at h
   rw [again,again_out st0 ks _ h.2,List.getElem?_set,if_neg (Ne.symm h.1)]
omit [Lam] in
theorem again_in (st0:St):∀ (l:List Nat) (st:St) {j:Nat},j∈l→j < st.length→(again st0 st l)[j]? = some (getO st0 j)
 | k::ks,st,j,h,hl=>by
   rw [again]
   by_cases hm:j∈ks
   · exact again_in st0 ks _ hm (by simpa using hl)
   · rcases List.mem_cons.1 h with rfl | h
     · rw [again_out st0 ks _ hm,List.getElem?_set,if_pos rfl,if_pos hl]
     · exact absurd h hm
omit [Lam] in
theorem run_enterLoop_inner {P:Program} {w:World} (fn:FuncId) (tmps:Array Value) (ps:Array Tmp) (assign body:Code) {l0:Nat} {L:Loop} (h:w.heap[l0]? = some (.loop L)) :
  (Instr.enterLoop fn tmps ps assign body (some l0)).run P w=.ok (w.heap.size,[]) (w.alloc (.loop { state:=.ready,pending:=none,fn,tmps,params:=ps,assign,body,defers:=L.defers })):=by
 unfold Instr.enterLoop
 simp only [Sem.run_bind,run_getLoop h,run_newObj_alloc,Result.andThen,Sem.run_pure]
variable {P:Program} {ok:OkY} {E:Env P ok} {w0:World} {mod:Nat→Prop} {γ0 γs:List G} {Pr0:Nat→Nat→Prop} {C0:Nat→Prop} {nt:Nat} {ρ:Option Nat}
 {Pr Pr':Nat→Nat→Prop} {γ γ' γc:List G} {C C':Nat→Prop} {fr fr':Nat→V} {st st':St} {a a':Act} {w w':World}
theorem X.enter (H:X P ok E w0 mod γ0 Pr0 C0 nt ρ Pr γ C fr st a w) (fn:FuncId) (ps:Array Tmp) (assign body:Code) :
  ∃ (l:Nat) (mk:List Deferred) (Lr:Loop) (W:World),(Instr.enterLoop fn a.tmps ps assign body ρ).run P w=.ok (l,mk) W∧W.heap[l]? = some (.loop Lr)∧Lr.state=.ready∧Lr.pending=none∧Lr.assign=assign∧Lr.body=body∧Lr.tmps=a.tmps∧Lr.params=ps ∧
    w.heap.size≤l∧l < W.heap.size∧Keep Pr Pr γ γ w W∧(∀ b,b < w.heap.size→W.heap[b]? = w.heap[b]?)∧X P ok E w0 mod γ0 Pr0 C0 nt ρ Pr γ C fr st { a with defers:=mk++a.defers } W:=by
 cases ρ with
 | none =>
   obtain ⟨K1,H1⟩:=H.garbage (grew_alloc w (.deferred (some [])))
   obtain ⟨K2,H2⟩:=H1.garbage (grew_alloc _ (.loop { state:=.ready,pending:=none,fn,tmps:=a.tmps,params:=ps,assign,body,defers:=w.heap.size }))
   refine ⟨_,_,_,_,run_enterLoop_outer fn a.tmps ps assign body,by have:=World.alloc_heap_new (w.alloc (.deferred (some []))) (.loop { state:=.ready,pending:=none,fn,tmps:=a.tmps,params:=ps,assign,body,defers:=w.heap.size }); simpa using this,rfl,rfl,rfl,rfl,rfl,rfl,by omega,by simp,K1.trans K2,fun b hb=>by rw [(grew_alloc _ _).old _ (by simp; omega),(grew_alloc _ _).old _ hb],?_⟩
   have hD:((w.alloc (.deferred (some []))).alloc (.loop { state:=.ready,pending:=none,fn,tmps:=a.tmps,params:=ps,assign,body,defers:=w.heap.size })).heap[w.heap.size]? = some (.deferred (some [])):=by
    rw [(grew_alloc _ _).old _ (by simp)]
    exact World.alloc_heap_new w _
   have D:=H2.ext
   refine ⟨H2.mine,⟨D.clow,D.apart,D.prC,D.maps,D.mone,D.mmine,D.yld,D.yone,?_,fun l hl=>(by cases hl),D.pools⟩,⟨H2.fr.size,H2.fr.slot⟩,H2.st,H2.base⟩
   obtain ⟨rs,m1,m2,m3⟩:=H.ext.marks
   obtain ⟨rs',n1,n2,n3⟩:=D.marks
   refine ⟨w.heap.size::rs,by simp [m1,mark],?_,fun r hr=>?_⟩
   · rw [List.nodup_cons]
     refine ⟨fun hm=>?_,m2⟩
     have:=(Array.getElem?_eq_some_iff.1 (m3 _ hm).1).1
     omega
   · rcases List.mem_cons.1 hr with rfl | hr
     · exact ⟨hD,fun hc=>by have:=H.ext.clow _ hc; omega,H.base.size⟩
     · have e:rs'=rs:=by
        have:rs'.map mark=rs.map mark:=n1.symm.trans m1
        exact List.map_inj_right (by intro x y h; simpa [mark] using h) |>.1 this
       subst e
       exact n3 r hr
 | some l0 =>
   obtain ⟨q0,L0,q1,q2⟩:=H.ext.round l0 rfl
   obtain ⟨K1,H1⟩:=H.garbage (grew_alloc w (.loop { state:=.ready,pending:=none,fn,tmps:=a.tmps,params:=ps,assign,body,defers:=L0.defers }))
   exact ⟨_,_,_,_,run_enterLoop_inner fn a.tmps ps assign body q1,World.alloc_heap_new _ _,rfl,rfl,rfl,rfl,rfl,rfl,Nat.le_refl _,by simp,K1,fun b hb=>(grew_alloc _ _).old _ hb,by simpa using H1⟩
end Go.Cod
namespace Go.Cod
open Go
variable [Lam]
variable {P:Program} {ok:OkY} {E:Env P ok} {w0:World} {mod:Nat→Prop} {γ0 γs:List G} {Pr0:Nat→Nat→Prop} {C0:Nat→Prop} {nt:Nat} {ρ:Option Nat}
 {Pr Pr':Nat→Nat→Prop} {γ γ' γc:List G} {C C':Nat→Prop} {fr fr':Nat→V} {st st':St} {a a':Act} {w w':World}
theorem range_sound {τ:Tau} {assign body:Code} (hA:Sound P ok E τ nt assign) (hB:Sound P ok E τ nt body) {f:Operand} {ps:Array Tmp} {g:FuncId} {cap:List V} (hps:∀ p∈ps.toList,p < nt)
  (H:X P ok E w0 mod γ0 Pr0 C0 nt ρ Pr γ C fr st a w) (hf:ev fr f=.fn g cap) {Qa:Ex→(Nat→V)→St→Prop}
  (h:ARange P g cap ps.size (fun Q vs st'=>awp P ok τ st.length assign (AThen (awp P ok τ st.length body Q) fun _ _ _=>False) (setPs ps.toList vs fr) st') Qa fr st) {Q:Exit→Act→World→Prop}
  (hQ:∀ e x a w fr st Pr γ C,Qa e fr st→X P ok E w0 mod γ0 Pr0 C0 nt ρ Pr γ C fr st a w→ExOk Pr γ w e x→Q x a w) :
  (Code.rangeFunc f ps assign body).wpIn (fen ρ) 0 P Q a w:=by
 obtain ⟨σ,kn,okb,I,h⟩:=h
 obtain ⟨hc,hI0,hbody,hfull⟩:=Chk_iff.1 h
 simp only [Bool.and_eq_true,decide_eq_true_eq,List.all_eq_true] at hc
 obtain ⟨⟨⟨hn,hlt⟩,hua⟩,hpl⟩:=hc
 have hpl:=plainO_mem hpl
 obtain ⟨Pr1,K1,H1,R⟩:=H.lend (lentN σ st cap)
 have hγlen:=H.st.len
 have hN:∀ k∈lentN σ st cap,k∉σ:=by
  intro k hk
  have:=(List.mem_filter.1 hk).2
  simpa using this
 have hL:∀ k∈owns.go cap++lentO σ st σ,σ.contains k=false→Lent Pr Pr1 γ w st k:=fun k hk hc es cv h1 h2=>R k (List.mem_filter.2 ⟨hk,by rw [hc]; rfl⟩) es cv h1 h2
 generalize hst1:lend st (lentN σ st cap)=st1 at *
 have hlen1:st1.length=st.length:=by rw [← hst1]; exact lend_len _ _
 have hfun:=H.fr.ev f
 rw [hf] at hfun
 generalize hav:a.eval f=av at hfun
 cases hfun with
 | fn hul hur =>
 rename_i us
 have hcapR:RepL Pr γ w cap us:=⟨hul,hur⟩
 have hand1:∀ k,k∈σ→∃ g,st1[k]? = some (getO st k)∧st[k]? = some (getO st k)∧γ[k]? = some g∧(getO st k).own=true∧V.clean.cleanLL 0 (shrO σ kn st (getO st k)).es=true∧(getO st k).kind≠.yld:=by
  intro k hk
  have ho:=getO_eq (hlt k hk)
  obtain ⟨g,hg⟩:=H.st.at ho
  obtain ⟨i,hi⟩:=List.getElem?_of_mem hk
  obtain ⟨q1,q2⟩:=hpl (shrO σ kn st (getO st k)) (by
   have:(handC σ kn st σ)[i]? = some (shrO σ kn st (getO st k)):=by rw [handC_get,hi]; rfl
   exact List.mem_of_getElem? this)
  have hown:(getO st k).own=true:=(shrO_flags σ kn st (getO st k)).2.2.2.2.2.2.symm.trans q1
  refine ⟨g,by rw [← hst1,lend_ne _ (fun h=>hN k h hk)]; exact ho,ho,hg,hown,q2,fun hy=>?_⟩
  rcases own_iff.1 hown with hl | hm
  · rw [live_kind H.st ho hl] at hy; cases hy
  · rw [hm] at hy; cases hy
 let M:Nat→Prop:=fun x=>∃ (k:Nat) (g:G),k∈σ∧γ[k]? = some g∧g.blk=x
 refine wpIn_rangeFunc (fun fn _=>?_)
 obtain ⟨l,mk,Lr,W,hent,hrec,hLs,hLpd,hLa,hLb,hLt,hLp,hl1,hl2,KW,hWold,XW⟩:=H1.enter fn ps assign body
 generalize ha1:({ a with defers:=mk++a.defers }:Act)=a1 at XW
 have hLt1:Lr.tmps=a1.tmps:=by rw [hLt,← ha1]
 have hMown:∀ x,M x→∃ (k:Nat) (g:G),k∈σ∧st1[k]? = some (getO st k)∧γ[k]? = some g∧(getO st k).own=true∧g.blk=x:=by
  rintro x ⟨k,g,hk,hg,rfl⟩
  obtain ⟨g',q1,_,q3,q4,_⟩:=hand1 k hk
  rw [hg] at q3; cases q3
  exact ⟨k,g,hk,q1,hg,q4,rfl⟩
 have hMmine:∀ x,M x→w0.heap.size≤x∨mod x:=by
  intro x hx
  obtain ⟨k,g,_,q1,q2,q3,rfl⟩:=hMown x hx
  exact H1.own_mine q1 q2 q3
 have hMlt:∀ x,M x→x < W.heap.size:=by
  intro x hx
  obtain ⟨k,g,_,q1,q2,q3,rfl⟩:=hMown x hx
  exact XW.own_lt q1 q2 q3
 have hMobj:∀ x,M x→(∃ cur ty fz,W.heap[x]? = some (.cells cur ty fz))∨∃ es c,W.heap[x]? = some (.map es c):=by
  intro x hx
  obtain ⟨k,g,_,q1,q2,q3,rfl⟩:=hMown x hx
  rcases own_iff.1 q3 with q3 | q3
  · obtain ⟨cur,fz,a5,_⟩:=(XW.st.obj k _ g q1 q2 q3).row
    exact .inl ⟨cur,_,fz,a5.1⟩
  · obtain ⟨ents,clock,b1,_⟩:=(XW.ext.maps k _ g q1 q2 q3).ex
    exact .inr ⟨ents,clock,b1⟩
 have notM:∀ {x:Nat} {ob:Obj},W.heap[x]? = some ob→(∀ cur ty fz,ob≠.cells cur ty fz)→(∀ es c,ob≠.map es c)→¬ M x:=by
  intro x ob h1 h2 h3 hm
  rcases hMobj x hm with ⟨cur,ty,fz,h4⟩ | ⟨es,c,h4⟩
  · rw [h1] at h4; exact h2 _ _ _ (Option.some.inj h4)
  · rw [h1] at h4; exact h3 _ _ (Option.some.inj h4)
 have hMl:¬ M l:=notM hrec (by simp) (by simp)
 have hCl:¬ C l:=fun hc=>by have:=H.ext.clow l hc; omega
 have hw0W:w0.heap.size≤W.heap.size:=XW.base.size
 have hw0l:w0.heap.size≤l:=Nat.le_trans H.base.size hl1
 have hmk:∀ r,mark r∈a1.defers→r < W.heap.size∧¬ M r:=by
  intro r hr
  obtain ⟨rs,m1,m2,m3⟩:=XW.ext.marks
  rw [m1] at hr
  obtain ⟨r',hr',he⟩:=List.mem_map.1 hr
  have:r'=r:=by simpa [mark] using he
  subst this
  have m4:=(m3 r' hr').1
  exact ⟨(Array.getElem?_eq_some_iff.1 m4).1,notM m4 (by simp) (by simp)⟩
 have hrd:∀ r,ρ=some r→r < W.heap.size∧¬ M r:=by
  intro r hr
  obtain ⟨_,L0,m4,_⟩:=XW.ext.round r hr
  exact ⟨(Array.getElem?_eq_some_iff.1 m4).1,notM m4 (by simp) (by simp)⟩
 have XWn:X P ok E w0 mod γ Pr0 C0 nt ρ Pr1 γ C fr st1 a1 W:=XW.names (fun _ _ h=>h)
 let stS:St:=shrAll σ kn st st1 σ
 let J:Ex→St→Prop:=fun e s=>Qa e fr (again stS s σ)
 let E':Env P okb:={
  l:=l
  keep:=Pr1
  Inv:=RInv P ok E w0 mod Pr0 C0 nt ρ Pr1 γ fr a1 W l Lr M I J
  low:=fun h x hx=>(h.low x hx).1
  here:=fun h=>h.here
  stable:=fun h F=>h.stable hMmine hw0W hmk hrd F
  mono:=fun h hsub=>⟨h.low,h.here,h.size,h.all,by
   obtain ⟨stb,Prb,γb,Cb,p,h1,h2,h3,h4,h5,h6⟩:=h.ex
   exact ⟨stb,Prb,γb,Cb,p,h1,h2,h3,h4,fun x n hx=>(h5 x n hx).imp (hsub x n) id,h6⟩⟩
  call:=fun {log Cc Prr Wc vs cargs} h hk hlow hr hok=>RInv.call (τ:=τ) hA hB (okb:=okb) hMmine hMlt hw0W hw0l hLa hLb hLt1 (by rw [hLp]; exact hps) XW.fr (Qb:=ARnd st.length σ stS fr (I (log++[vs])) Qa)
   (fun fr' st' hq=>by rw [hγlen]; exact hq) (fun _ _ _ hq=>hq) (fun _ _ _ hq=>hq) (fun _ _ hq=>hq) (fun stb hi ho=>by rw [hγlen,hLp]; exact hbody log vs stb hi ho) h hk hlow hr hok }
 let γy:List G:=⟨l,0,0,0,0⟩::namesOf σ γ
 have hcn:∀ i k:Nat,σ[i]? = some k→(namesOf σ γ)[i]? = γ[k]? := by
  intro i k hk
  have hkl:k < γ.length:=by rw [hγlen]; exact hlt k (List.mem_of_getElem? hk)
  simp [namesOf,hk,hkl]
 have hC'0:∀ (k:Nat) (o:O) q,k∉σ→st1[k]? = some o→γ[k]? = some q→o.own=true→q.blk < W.heap.size∧¬ M q.blk:=by
  intro k o q hk q1 q2 q3
  refine ⟨XW.own_lt q1 q2 q3,fun hm=>?_⟩
  obtain ⟨k',g',hk',b1,b2,b3,b4⟩:=hMown _ hm
  exact hk (H1.own_one q1 b1 q2 b2 q3 b3 b4.symm ▸ hk')
 have hI':E'.Inv [] true (fun x=>x < W.heap.size∧¬ M x) Pr1 W:=by
  refine ⟨fun x hx=>hx,⟨hl2,hMl⟩,Nat.le_refl _,fun x a1 a2=>⟨a1,a2⟩,away stS σ,Pr1,γ,C,none,?_,Keep.refl _ _ _,fun k b ho=>?_,fun x hx=>⟨XW.ext.clow x hx,fun hm=>?_⟩,fun x n hx=>.inl hx,hCl,?_,fun _=>⟨rfl,hI0⟩,fun hb=>by cases hb⟩
  · refine XWn.deaden (σ:=σ) (by rw [away_len,shrAll_len]) (fun j hj=>?_) (fun j o hj ho=>away_in σ _ hj ho)
    rw [away_out σ _ hj,shrAll_out _ _ _ σ _ hj]
  · obtain ⟨o,b1,⟨q,b2,b3,rfl⟩ | ⟨b2,e,b3,rfl⟩⟩:=ho
    · by_cases hm:k∈σ
      · obtain ⟨c1,c2⟩:=away_in σ _ hm b1
        rcases own_iff.1 b3 with b3 | b3
        · rw [c1] at b3; cases b3
        · rw [c2] at b3; cases b3
      · rw [away_out σ _ hm,shrAll_out _ _ _ σ _ hm] at b1
        exact hC'0 k o q hm b1 b2 b3
    · by_cases hm:k∈σ
      · obtain ⟨c1,c2⟩:=away_in σ _ hm b1
        rw [c2] at b2; cases b2
      · rw [away_out σ _ hm,shrAll_out _ _ _ σ _ hm] at b1
        refine ⟨XW.ext.pools.lt ⟨k,o,e,b1,b2,b3,rfl⟩,fun hm'=>?_⟩
        obtain ⟨k',g',_,q1,q2,q3,q4⟩:=hMown _ hm'
        exact XW.pool_own q1 q2 q3 b1 b2 b3 q4
  · obtain ⟨k,g',_,q1,q2,q3,rfl⟩:=hMown x hm
    exact XW.ext.apart k _ g' q1 q2 q3 hx
  · rw [hrec]; congr 2; cases Lr; simp_all
 have hget:∀ (i:Nat) (o:O) q,(handC σ kn st σ)[i]? = some o→(namesOf σ γ)[i]? = some q→∃ k,σ[i]? = some k∧k∈σ∧o=shrO σ kn st (getO st k)∧st1[k]? = some (getO st k)∧st[k]? = some (getO st k)∧γ[k]? = some q∧(getO st k).own=true∧V.clean.cleanLL 0 o.es=true∧o.own=true∧o.kind≠.yld∧o.live=(getO st k).live∧o.kind=(getO st k).kind:=by
  intro i o q h1 h2
  rw [handC_get,Option.map_eq_some_iff] at h1
  obtain ⟨k,hk,rfl⟩:=h1
  have hkm:=List.mem_of_getElem? hk
  obtain ⟨g',q1,q1',q2,q3,q4,q5⟩:=hand1 k hkm
  obtain ⟨b1,b2,b3,b4,b5,b6,b7⟩:=shrO_flags σ kn st (getO st k)
  exact ⟨k,hk,hkm,rfl,q1,q1',by rw [← hcn i k hk]; exact h2,q3,q4,b7.trans q3,by rw [b5]; exact q5,b1,b5⟩
 have hobj:∀ (i:Nat) (o:O) q,(handC σ kn st σ)[i]? = some o→(namesOf σ γ)[i]? = some q→o.live=true→ObjOk Pr1 γy W o q:=by
  intro i o q h1 h2 hl
  obtain ⟨k,k1,k2,rfl,k3,k3',k4,k5,k6,k7,k8,k9,k10⟩:=hget i o q h1 h2
  have M1:=H1.st.obj k _ q k3 k4 (k9.symm.trans hl)
  have:=(H.st.obj k _ q k3' k4 (k9.symm.trans hl)).shrC (σ:=σ) (kn:=kn) (st:=st) (γ':=γy) K1 M1.spare M1.excl (fun j hj hc=>hL j (List.mem_append_right _ (mem_ownsO k2 hj)) hc) k6
  refine this.same ⟨fun _ _ h=>h,KW.cell,fun _ _ h=>h⟩ ?_ (fun _ h=>h)
  exact hWold _ (H1.st.obj k _ q k3 k4 (k9.symm.trans hl)).lt
 have hmap:∀ (i:Nat) (o:O) q,(handC σ kn st σ)[i]? = some o→(namesOf σ γ)[i]? = some q→o.kind=.map→MapOk Pr1 γy W o q:=by
  intro i o q h1 h2 hk
  obtain ⟨k,k1,k2,rfl,k3,k3',k4,k5,k6,k7,k8,k9,k10⟩:=hget i o q h1 h2
  have M1:=XW.ext.maps k _ q k3 k4 (k10.symm.trans hk)
  have e:shrO σ kn st (getO st k)=getO st k:=by simp [shrO,M1.bx]
  rw [e]
  exact (M1.mapO (γ':=γy) (f:=fun i=>i)).2
 have hinj:∀ (i j:Nat) (o p:O) q r,(handC σ kn st σ)[i]? = some o→(handC σ kn st σ)[j]? = some p→(namesOf σ γ)[i]? = some q→(namesOf σ γ)[j]? = some r→q.blk=r.blk→i=j:=by
  intro i j o p q r h1 h2 h3 h4 he
  obtain ⟨k,k1,k2,_,k3,_,k4,k5,_⟩:=hget i o q h1 h3
  obtain ⟨m,m1,m2,_,m3,_,m4,m5,_⟩:=hget j p r h2 h4
  have e:=H1.own_one k3 m3 k4 m4 k5 m5 he
  subst e
  exact (List.getElem?_inj (List.getElem?_eq_some_iff.1 k1).1 hn).1 (k1.trans m1.symm)
 have hSt:StOk Pr1 γy W (logO [] true::handC σ kn st σ):=by
  refine ⟨by simp [γy,namesOf,handC_len],fun i o q h1 h2 hl=>?_,fun i j o p q r h1 h2 h3 h4 h5 h6 he=>?_,XW.st.low,XW.st.laid⟩
  · cases i with
    | zero=>simp at h1; subst h1; cases hl
    | succ i=>exact hobj i o q (by simpa using h1) (by simpa [γy] using h2) hl
  · cases i with
    | zero=>simp at h1; subst h1; cases h5
    | succ i =>
      cases j with
      | zero=>simp at h2; subst h2; cases h6
      | succ j=>rw [hinj i j o p q r (by simpa using h1) (by simpa using h2) (by simpa [γy] using h3) (by simpa [γy] using h4) he]
 have hnp:∀ (i:Nat) (o:O),(logO [] true::handC σ kn st σ)[i]? = some o→o.kind≠.pool:=by
  intro i o h1 h3
  cases i with
  | zero=>simp at h1; subst h1; cases h3
  | succ i =>
    have h1':(handC σ kn st σ)[i]? = some o:=by simpa using h1
    have hi:i < (namesOf σ γ).length:=by
     have:=(List.getElem?_eq_some_iff.1 h1').1
     rw [handC_len] at this; simpa [namesOf] using this
    obtain ⟨k,_,_,_,_,k3,_,k5,_,_,_,_,k10⟩:=hget i o (namesOf σ γ)[i] h1' (by simp [hi])
    rw [h3] at k10
    rcases own_iff.1 k5 with h | h
    · have:=live_kind H.st k3 h; rw [← k10] at this; cases this
    · rw [← k10] at h; cases h
 have hmodM:∀ x,modOf (logO [] true::handC σ kn st σ) γy x↔M x:=by
  intro x
  constructor
  · rintro ⟨i,o,h1,⟨q,h2,h3,h4⟩ | ⟨h2,e,h3,h4⟩⟩
    · cases i with
      | zero=>simp at h1; subst h1; cases h3
      | succ i =>
        obtain ⟨k,k1,k2,_,k3,_,k4,_⟩:=hget i o q (by simpa using h1) (by simpa [γy] using h2)
        exact ⟨k,q,k2,k4,h4⟩
    · exact absurd h2 (hnp i o h1)
  · rintro ⟨k,q,hk,hg,rfl⟩
    obtain ⟨i,hi⟩:=List.getElem?_of_mem hk
    obtain ⟨g',q1,_,q3,q4,q5,_⟩:=hand1 k hk
    refine ⟨i+1,shrO σ kn st (getO st k),?_,.inl ⟨q,?_,?_,rfl⟩⟩
    · simp [handC_get,hi]
    · simp only [γy,List.getElem?_cons_succ]; rw [hcn i k hi]; exact hg
    · rw [(shrO_flags σ kn st (getO st k)).2.2.2.2.2.2]; exact q4
 have hExt:Ext P okb E' W (modOf (logO [] true::handC σ kn st σ) γy) (fun x=>x < W.heap.size∧¬ M x) none Pr1 γy (logO [] true::handC σ kn st σ) [] W:=by
  refine ⟨fun b h=>h.1,fun i o q h1 h2 h3 hc=>?_,fun b n h=>.inl h,fun i o q h1 h2 h3=>?_,fun i j o p q r h1 h2 h3 h4 h5 h6 he=>?_,fun i o q h1 h2 h3=>.inr ⟨i,own_owns h1 h2 (own_iff.2 (.inr h3))⟩,fun i o q h1 h2 h3=>?_,fun i j o p h1 h2 h3 h4=>?_,⟨[],rfl,by simp,by simp⟩,fun l h=>(by cases h),Pools.none hnp⟩
  · exact hc.2 ((hmodM _).1 ⟨i,own_owns h1 h2 h3⟩)
  · cases i with
    | zero=>simp at h1; subst h1; cases h3
    | succ i=>exact hmap i o q (by simpa using h1) (by simpa [γy] using h2) h3
  · cases i with
    | zero=>simp at h1; subst h1; cases h5
    | succ i =>
      cases j with
      | zero=>simp at h2; subst h2; cases h6
      | succ j=>rw [hinj i j o p q r (by simpa using h1) (by simpa using h2) (by simpa [γy] using h3) (by simpa [γy] using h4) he]
  · cases i with
    | zero=>simp at h1; simp [γy] at h2; subst h1; subst h2; exact ⟨rfl,rfl,hI'⟩
    | succ i =>
      obtain ⟨k,_,_,_,_,_,_,_,_,_,k8,_⟩:=hget i o q (by simpa using h1) (by simpa [γy] using h2)
      exact absurd h3 k8
  · have key:∀ {i:Nat} {o:O},(logO [] true::handC σ kn st σ)[i]? = some o→o.kind=.yld→i=0:=by
     intro i o h1 h3
     cases i with
     | zero=>rfl
     | succ i =>
       exfalso
       have h1':(handC σ kn st σ)[i]? = some o:=by simpa using h1
       have hi:i < (namesOf σ γ).length:=by
        have:=(List.getElem?_eq_some_iff.1 h1').1
        rw [handC_len] at this; simpa [namesOf] using this
       obtain ⟨k,_,_,_,_,_,_,_,_,_,k8,_⟩:=hget i o (namesOf σ γ)[i] h1' (by simp [hi])
       exact k8 h3
    rw [key h1 h3,key h2 h4]
 have hargs:RepL Pr1 γy W (.yld 0::V.mapN.go (idx1 σ) (shr.go σ kn st cap)) (.func (.yield l) #[] #[]::us):=by
  refine RepL.cons (.yld (g:=⟨l,0,0,0,0⟩) rfl) ?_
  have h1:=(shrL_rep (σ:=σ) (kn:=kn) K1 cap us (fun k hk hc=>hL k (List.mem_append_left _ hk) hc) hcapR).mapNu (f:=idx1 σ) (n:=σ.length+1) (γ':=γy) (fun k q h1 h2=>by
   have h1':idx σ k < σ.length:=by simp only [idx1] at h1; omega
   simp only [γy,idx1,List.getElem?_cons_succ]
   rw [hcn _ k (idx_lt' h1')]; exact h2) hua
  exact h1.keep ⟨fun _ _ h=>h,KW.cell,fun _ _ h=>h⟩
 have hcalls:=hfull.2 E' (fun x=>x < W.heap.size∧¬ M x) Pr1 γy W _ hargs hSt hExt
 refine ⟨l,mk,W,{ target:=.fn (.func g) us.toArray,args:=#[.func (.yield l) #[] #[]] },W,g,(.func (.yield l) #[] #[]::us).toArray,W,hent,?_,fun _ _=>trivial,?_,(fun h=>by cases h),callsIn_fen.2 (hcalls.mono fun e w' hh=>?_)⟩
 · simp only [resolve,hav,Deferred.ofValue,Sem.run_pure]
   have e:#[]++Array.map a.eval #[.const (.func (.yield l) #[] #[])]=#[Value.func (.yield l) #[] #[]]:=by
    apply Array.ext'
    simp only [Array.empty_append,List.map_toArray,List.map_cons,List.map_nil]
    rfl
   rw [e]
 · have:=run_callFunc hfull.1 (.func (.yield l) #[] #[]::us).toArray W
   simp only [invoke]
   rw [← this]; congr 2; apply Array.ext'; simp
 obtain ⟨o,st',γ',Pr',C'',hrep,⟨r,log,b,rfl,rfl,hfin⟩,hst',hmine',hext',B'⟩:=hh
 cases hrep with
 | ret hv =>
 have hγ'0:γ'[0]? = some ⟨l,0,0,0,0⟩:=B'.names 0 _ rfl
 have hγ'1:∀ (i:Nat) q,(namesOf σ γ)[i]? = some q→γ'[i+1]? = some q:=fun i q hq=>B'.names (i+1) q (by simpa [γy] using hq)
 obtain ⟨_,_,hI2⟩:=hext'.yld 0 (logO log b) _ rfl hγ'0 rfl
 obtain ⟨stb,Prb,γb,Cb,p,XB,KB,hown,hCb,hPrb,hCl2,hrec2,hb1,hb2⟩:=hI2.ex
 have nameb:∀ k∈σ,∃ q,γ[k]? = some q∧γb[k]? = some q:=by
  intro k hk
  obtain ⟨q,_,_,q2,_⟩:=hand1 k hk
  exact ⟨q,q2,XB.base.names k q q2⟩
 have hCM:∀ x,C'' x→¬ M x:=fun x hx=>(hI2.low x hx).2
 have hlenb:st.length≤stb.length:=by
  rw [← XB.st.len,← hγlen]
  rcases Nat.lt_or_ge γb.length γ.length with h | h
  · have:=XB.base.names γb.length γ[γb.length] (by simp [h])
    simp at this
  · exact h
 have hPr1:∀ x n,Pr' x n→Prb x n∨¬ C'' x:=by
  intro x n hx
  rcases hext'.prC x n hx with h | h
  · exact .inl (KB.sub x n h)
  · exact .inr h
 have XA:=XB.again (σ:=σ) (stF:=again stS stb σ) (Pr':=Pr') (γx:=γ') (Cx:=C'') (again_len _ _ _) (fun j hj=>again_out _ _ _ hj) (fun k hk=>by
   obtain ⟨q,h1,h2⟩:=nameb k hk
   obtain ⟨i,hi⟩:=List.getElem?_of_mem hk
   have hS:stS[k]? = some (shrO σ kn st (getO st k)):=shrAll_in σ kn st σ st1 hk (by rw [hlen1]; exact hlt k hk)
   have hgo:getO stS k=shrO σ kn st (getO st k):=by unfold getO; rw [hS]; rfl
   have hF:(again stS stb σ)[k]? = some (shrO σ kn st (getO st k)):=by rw [again_in _ _ _ hk (Nat.lt_of_lt_of_le (hlt k hk) hlenb),hgo]
   have hh:(handC σ kn st σ)[i]? = some (shrO σ kn st (getO st k)):=by rw [handC_get,hi]; rfl
   have hq:(namesOf σ γ)[i]? = some q:=by rw [hcn i k hi]; exact h1
   obtain ⟨k',_,_,_,_,_,_,_,c1,c2,c3,_⟩:=hget i _ q hh hq
   refine ⟨_,q,hF,h2,c2,fun hl=>hst'.obj (i+1) _ q (by simpa using hh) (hγ'1 i q hq) hl,fun hm=>hext'.maps (i+1) _ q (by simpa using hh) (hγ'1 i q hq) hm,c1,fun hc=>hCM _ hc ⟨k,q,hk,h1,rfl⟩,hMmine _ ⟨k,q,hk,h1,rfl⟩,c3⟩)
  (fun k k' q q' hk hk' h1 h2 he=>by
    obtain ⟨r1,e1,e2⟩:=nameb k hk
    obtain ⟨r2,e3,e4⟩:=nameb k' hk'
    rw [h1] at e2; cases e2
    rw [h2] at e4; cases e4
    obtain ⟨_,q1,_,q2,q3,_⟩:=hand1 k hk
    obtain ⟨_,q1',_,q2',q3',_⟩:=hand1 k' hk'
    exact H1.own_one q1 q1' e1 e3 q3 q3' he)
  hCb hown hPrb hPr1 hst'.low (fun x n hx=>by
   rcases B'.new x n hx with h | h | h
   · exact .inl (KB.sub x n h)
   · exact .inr (.inl (Nat.le_trans hw0W h))
   · exact .inr (hMmine x ((hmodM x).1 h)))
 have hstate:({ Lr with state:=if b then .ready else .done,pending:=p }:Loop).state≠.busy:=by
  cases b <;> simp
 have XC:=XA.putLoop hrec2 hCl2 (.inr hw0l) { Lr with state:=.exhausted,pending:=p }
 have XD:=XC.names (γ1:=γ0) (fun k q hk=>XB.base.names k q (H.base.names k q hk))
 refine ⟨p,_,run_endLoop hrec2 hstate,?_⟩
 cases b with
 | true =>
   obtain ⟨rfl,hi⟩:=hb1 rfl
   simp only
   rw [ha1]
   exact hQ .normal .normal _ _ _ _ _ _ _ (hfin rfl stb hi) XD .normal
 | false =>
   obtain ⟨e,c,rfl,hj,hJ⟩:=hb2 rfl
   simp only
   rw [ha1]
   cases e with
   | ret =>
     cases c <;> simp only [JumpOf] at hj
     exact wpIn_ret (hQ .ret .ret _ _ _ _ _ _ _ hJ XD .ret)
   | exit id =>
     cases c <;> simp only [JumpOf] at hj
     subst hj
     exact wpIn_exit (hQ (.exit id) (.exit id) _ _ _ _ _ _ _ hJ XD (.exit id))
   | normal=>cases c <;> simp only [JumpOf] at hj
   | pan v=>cases c <;> simp only [JumpOf] at hj
end Go.Cod
