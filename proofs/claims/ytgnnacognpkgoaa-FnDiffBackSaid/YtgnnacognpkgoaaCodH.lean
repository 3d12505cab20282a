import Derived.WalkKit
import Derived.ProofKit
import Derived.Test.YtgnnacognpkgoaaCodG
namespace Go.Cod
open Go Go.Proofs Go.ChangeShapes Go.WideShapes Go.ChangeAt Go.RowKit
set_option maxRecDepth 10000
theorem ownK:ownKnob Try.prog.godebug=none:=by kernel_rfl
def byteOf:List V→UInt8
 | [.int _ i]=>UInt8.ofNat i.toNat
 | _=>0
theorem argBytes {H:Type} {enc:TypeId × Value→H} {W:World}:ReadsA enc Try.prog W 22 fun x=>∃ bs:List UInt8,x=.sl (brows bs):=by
 intro base v d p hv h
 obtain ⟨x,⟨es,hx,_,hr⟩,hrep⟩:=readsA_slice (S:=fun vs=>∃ es,vs=[.sl es]∧es.length≤maxLen∧∀ r∈es,(∃ i,r=[.int .u8 i]∧IntKind.u8.min≤i∧i≤IntKind.u8.max)∧r.length=Try.prog.cellsOf 5∧(∀ v∈r,v.leaf=true)∧V.clean.cleanL 0 r=true)
  Try.underlying22 (fun n=>reads_slice Try.underlying22 (by decide +kernel) fun m _=>reads_int Try.underlying5) base v d p hv h
 cases hx
 refine ⟨_,⟨es.map byteOf,?_⟩,hrep⟩
 congr 1
 rw [brows,List.map_map]
 refine (List.map_id es).symm.trans (List.map_congr_left fun r hr'=>?_)
 obtain ⟨⟨i,rfl,h1,h2⟩,_⟩:=hr r hr'
 have h1:0≤i:=h1
 have h2:i≤255:=h2
 simp only [id_eq,Function.comp,byteOf,cellB]
 congr 2
 simp only [UInt8.toNat_ofNat']
 omega
end Go.Cod
namespace Go.Cod
open Go Go.Proofs
set_option linter.all false
set_option maxRecDepth 10000
theorem force_hdV (h:Option (Nat × Nat)) (n:Nat) (K:V→Prop):force (hdV h n) K=K (hdV h n):=by rcases h with _ | ⟨b,c⟩ <;> rfl
theorem st_same {st:St} {k:Nat} {p:O} (h:st[k]? = some p):st.set k p=st:=by
 refine List.ext_getElem? fun j=>?_
 rw [List.getElem?_set]
 split
 · rename_i e
   subst e
   split
   · rw [h]
   · rename_i h2
     exact absurd (List.getElem?_eq_some_iff.1 h).1 h2
 · rfl
theorem semAllU {o:Oper} {sl x:Operand} {t u e:TypeId} {ti:TI} (ho:o.op=.call { callee:=.builtin .append,args:=#[sl,x],argTypes:=#[t,u] }) (hk:kindOf (tauOf tauL) t=some (.slice e)) (hti:tauOf tauL e=some ti) (hu:notInt (kindOf (tauOf tauL) u)=true)
  (hz:ti.zero.cells.length=ti.size) (hsz:ti.size=8) (hby:ti.bytes=104) {vs:List V} {k:Nat} {h g:Option (Nat × Nat)} {L M:List Stp} {es:List (List V)} {st:St} {K:V→St→Prop} (hvs:vs=[hdV h L.length,hdV g M.length]) (hpe:st[k]? = some (poolO es)) (hin:SlIn es h L) (hg:SlIn es g M)
  (hl:L.length+M.length≤1000000)
  (hK:∀ es' h',SlIn es' h' (L++M)→(∀ k N,SlIn es k N→Apart h k→SlIn es' k N∧Apart h' k)→K (hdV h' (L++M).length) (st.set k (poolO es'))):SemOp Try.prog o vs st K:=by
 refine semAll ho hk hti hu hz hsz hby hvs hpe hin hg hl (fun e1 e2=>?_) (fun b c e1=>?_) fun b c hf=>?_
 · subst e1 e2
   have hL:L=[]:=hin
   subst hL
   have:=hK es none rfl fun k N hN _=>⟨hN,fun _ _ _ _ h=>by cases h⟩
   rwa [st_same hpe] at this
 · subst e1
   have:=hK (putEnt b (nrows (L++M)) es) (some (b,c)) (putEnt_mem hin) fun k N hN ha=>⟨hN.put ha _,ha⟩
   rwa [List.length_append] at this
 · have:=hK (es++[ent b c 8 (nrows (L++M))]) (some (b,c)) (List.mem_append_right _ (by simp)) fun k N hN _=>⟨hN.more _,hN.fresh hf⟩
   rwa [List.length_append] at this
set_option maxHeartbeats 16000000 in
theorem specDiffSteps_yes (a b:T) (ha:a.Small) (hb:b.Small) (h1:okT a=true) (h2:okT b=true) (h3:a.id=b.id):Full Try.prog noY 9 [.agg a.cells,.agg b.cells] [] fun o st'=>∃ (h:Option (Nat × Nat)) (es:List (List V)),SlIn es h (specT a b)∧o=.ret (.tup [hdV h (specT a b).length,.bool true])∧st'=[poolO es]:=by
 have f1:=specTreeOk_pure a ha (by have:=okT_size h1; rw [T.ids_size]; omega)
 have f2:=specTreeOk_pure b hb (by have:=okT_size h2; rw [T.ids_size]; omega)
 rw [h1] at f1
 rw [h2] at f2
 have na:=((okT_iff' a).1 h1).2.1
 have nb:=((okT_iff' b).1 h2).2.1
 have za:=okT_size h1
 have zb:=okT_size h2
 have l1:=cutsL_len b a na nb
 have l2:=sets_len a b
 have l3:=sput_len a b
 have hD0:D3 [] none none none [] [] []:=⟨rfl,rfl,rfl,(fun _ _ _ _ h=>by cases h),(fun _ _ _ _ h=>by cases h),fun _ _ _ _ h=>by cases h⟩
 have hn:=Full.start (st0:=[dbox .nils .nils .nils]) (node_full b a h3 ha hb na nb [] none none none [] [] [] hD0 (by rw [List.length_nil]; omega) (by rw [List.length_nil]; omega) (by rw [List.length_nil]; omega))
 have hs:specT a b=cutsL a b++(setsL a b++sputT a b):=rfl
 unfold NodeR at hn
 simp only [List.nil_append] at hn
 rw [hs]
 clear hs hD0
 generalize cutsL a b=c at *
 generalize setsL a b=s at *
 generalize sputT a b=p at *
 obtain ⟨ai,ak,ax,aks⟩:=a
 obtain ⟨bi,bk,bx,bks⟩:=b
 obtain rfl:ai=bi:=h3
 refine full_of_draw good Try.func9 rfl (by kernel_rfl) (by decide) fun X hX=>?_
 conv=>whnf
 refine .inl (f1.mono ?_)
 rintro r rfl
 conv=>whnf
 refine .inl (f2.mono ?_)
 rintro r rfl
 conv=>whnf
 rw [eqB_t rfl]
 conv=>whnf
 refine ⟨[2],true,?_⟩
 conv=>whnf
 refine hn.mono ?_
 rintro o st' ⟨rfl,es,g1,g2,g3,hD,rfl⟩
 clear hn f1 f2
 conv=>whnf
 refine draw_with hX [(6,.ptr 2 0 0)] ⟨rfl,trivial⟩ fun C hC fr=>?_
 simp only [hdV_mapN]
 show drawR _ _ _ _ _ [⟨[[.int .i64 ai,.str ak,.str ax,.sl (T.rows aks)]],4,true,true,true,.cell⟩,⟨[[.int .i64 ai,.str bk,.str bx,.sl (T.rows bks)]],4,true,true,true,.cell⟩,dbox (hdV g1 c.length) (hdV g2 s.length) (hdV g3 p.length),poolO es] _ _
 have hJ:∀ fr es' h,SlIn es' h (c++(s++p))→Holds fr [(4,hdV h (c++(s++p)).length),(5,.bool true)] →
   C fr [⟨[[.int .i64 ai,.str ak,.str ax,.sl (T.rows aks)]],4,true,true,true,.cell⟩,⟨[[.int .i64 ai,.str bk,.str bx,.sl (T.rows bks)]],4,true,true,true,.cell⟩,dbox (hdV g1 c.length) (hdV g2 s.length) (hdV g3 p.length),poolO es']:=by
  intro fr es' h hS hh
  obtain ⟨fr,rfl⟩:=hh.split
  refine hC _ _ ?_
  clear hC hh
  rcases h with _ | ⟨b0,c0⟩
  all_goals
   conv=>whnf
   refine ⟨[3],true,?_⟩
   conv=>whnf
   exact ⟨_,es',hS,rfl,rfl⟩
 clear hC
 obtain ⟨i1,i2,i3,d12,d13,d23⟩:=hD
 conv=>whnf
 rw [force_hdV]
 conv=>whnf
 rw [force_hdV]
 conv=>whnf
 rw [force_hdV]
 conv=>whnf
 refine semAllU (k:=3) (h:=none) (g:=g1) (L:=[]) (M:=c) (es:=es) rfl rfl rfl rfl rfl rfl rfl rfl rfl rfl i1 (by rw [List.length_nil]; omega) fun es1 k1 s1 p1=>?_
 obtain ⟨q2,r2⟩:=p1 _ _ i2 (fun _ _ _ _ h=>by cases h)
 obtain ⟨q3,r3⟩:=p1 _ _ i3 (fun _ _ _ _ h=>by cases h)
 rw [List.nil_append] at s1 ⊢
 clear p1
 rcases k1 with _ | ⟨b1,c1⟩
 · conv=>whnf
   repeat (refine And.intro (by (conv=>whnf); rfl) ?_; conv=>whnf)
   refine semAllU (k:=3) (h:=none) (g:=g2) (L:=c) (M:=s) (es:=es1) rfl rfl rfl rfl rfl rfl rfl rfl rfl s1 q2 (by omega) fun es2 k2 s2 p2=>?_
   obtain ⟨v3,_⟩:=p2 _ _ q3 r3
   clear p2
   rcases k2 with _ | ⟨b2,c2⟩
   · conv=>whnf
     repeat (refine And.intro (by (conv=>whnf); rfl) ?_; conv=>whnf)
     refine semAllU (k:=3) (h:=none) (g:=g3) (L:=c++s) (M:=p) (es:=es2) rfl rfl rfl rfl rfl rfl rfl rfl rfl s2 v3 (by rw [List.length_append]; omega) fun es3 k3 s3 _=>?_
     rw [List.append_assoc] at s3 ⊢
     rcases k3 with _ | ⟨b3,c3⟩
     all_goals
      conv=>whnf
      exact hJ _ _ _ s3 ⟨rfl,rfl,trivial⟩
   · conv=>whnf
     repeat (refine And.intro (by (conv=>whnf); rfl) ?_; conv=>whnf)
     refine semAllU (k:=3) (h:=some (b2,c2)) (g:=g3) (L:=c++s) (M:=p) (es:=es2) rfl rfl rfl rfl rfl rfl rfl rfl rfl s2 v3 (by rw [List.length_append]; omega) fun es3 k3 s3 _=>?_
     rw [List.append_assoc] at s3 ⊢
     rcases k3 with _ | ⟨b3,c3⟩
     all_goals
      conv=>whnf
      exact hJ _ _ _ s3 ⟨rfl,rfl,trivial⟩
 · conv=>whnf
   repeat (refine And.intro (by (conv=>whnf); rfl) ?_; conv=>whnf)
   refine semAllU (k:=3) (h:=some (b1,c1)) (g:=g2) (L:=c) (M:=s) (es:=es1) rfl rfl rfl rfl rfl rfl rfl rfl rfl s1 q2 (by omega) fun es2 k2 s2 p2=>?_
   obtain ⟨v3,_⟩:=p2 _ _ q3 r3
   clear p2
   rcases k2 with _ | ⟨b2,c2⟩
   · conv=>whnf
     repeat (refine And.intro (by (conv=>whnf); rfl) ?_; conv=>whnf)
     refine semAllU (k:=3) (h:=none) (g:=g3) (L:=c++s) (M:=p) (es:=es2) rfl rfl rfl rfl rfl rfl rfl rfl rfl s2 v3 (by rw [List.length_append]; omega) fun es3 k3 s3 _=>?_
     rw [List.append_assoc] at s3 ⊢
     rcases k3 with _ | ⟨b3,c3⟩
     all_goals
      conv=>whnf
      exact hJ _ _ _ s3 ⟨rfl,rfl,trivial⟩
   · conv=>whnf
     repeat (refine And.intro (by (conv=>whnf); rfl) ?_; conv=>whnf)
     refine semAllU (k:=3) (h:=some (b2,c2)) (g:=g3) (L:=c++s) (M:=p) (es:=es2) rfl rfl rfl rfl rfl rfl rfl rfl rfl s2 v3 (by rw [List.length_append]; omega) fun es3 k3 s3 _=>?_
     rw [List.append_assoc] at s3 ⊢
     rcases k3 with _ | ⟨b3,c3⟩
     all_goals
      conv=>whnf
      exact hJ _ _ _ s3 ⟨rfl,rfl,trivial⟩
end Go.Cod
namespace Go.Cod
open Go Go.Proofs
set_option linter.all false
set_option maxRecDepth 10000
theorem stp_soft {s:Stp} (h:s.kind≠1→s.node=TZ):V.softL s.cellsN=s.cells:=by
 obtain ⟨k,x,n,t,tx⟩:=s
 unfold Stp.cellsN Stp.cells
 by_cases hk:k=1
 · rw [if_pos hk]
   have:=softT t
   simp only [V.soft,V.agg.injEq] at this
   obtain ⟨ti,tk,tt,tks⟩:=t
   simp only [T.cells,V.softL,V.soft] at this
   simp only [T.cells,V.softL,V.soft,List.append_assoc,List.cons_append,List.nil_append]
   simp only [List.cons.injEq] at this
   rw [this.2.2.2.1]
 · obtain rfl:=h hk
   rw [if_neg hk]; rfl
theorem soft_nrows:∀ ls:List Stp,(∀ s∈ls,s.kind≠1→s.node=TZ)→V.softLL (nrows ls)=prows ls
 | [],_=>rfl
 | s::ls,h=>by
   have h1:=stp_soft (h s List.mem_cons_self)
   have h2:=soft_nrows ls fun s hs=>h s (List.mem_cons_of_mem _ hs)
   show V.softL s.cellsN::V.softLL (nrows ls)=_
   rw [h1,h2]; rfl
theorem diff_Z {a b:T}:∀ s∈diffT a b,s.kind≠1→s.node=TZ:=by
 intro s hs h1
 unfold diffT at hs
 rcases List.mem_append.1 hs with hs | hs
 · obtain ⟨p,_,hp⟩:=List.mem_flatMap.1 hs
   unfold cutsOf at hp
   obtain ⟨k,hk,rfl⟩:=List.mem_map.1 hp
   rfl
 · rcases List.mem_append.1 hs with hs | hs
   · obtain ⟨p,_,hp⟩:=List.mem_flatMap.1 hs
     unfold wordsOf at hp
     rcases List.mem_append.1 hp with hp | hp
     · split at hp
       · rw [List.mem_singleton] at hp; subst hp; rfl
       · cases hp
     · split at hp
       · rw [List.mem_singleton] at hp; subst hp; rfl
       · cases hp
   · exact absurd (puts_not _ b s hs).1 h1
theorem dsT_Z {a b:T}:∀ s∈(dsT a b).1,s.kind≠1→s.node=TZ:=by
 unfold dsT
 split
 · exact diff_Z
 · intro s hs; cases hs
theorem cellsN_leaf (s:Stp):(∀ x∈s.cellsN,x.leaf=true)∧V.clean.cleanL 0 s.cellsN=true:=by
 obtain ⟨k,x,n,t,tx⟩:=s
 unfold Stp.cellsN
 obtain ⟨ti,tk,tt,tks⟩:=t
 by_cases hk:k=1
 · rw [if_pos hk]
   refine ⟨fun x hx=>?_,rfl⟩
   simp only [T.cells,List.cons_append,List.nil_append,List.mem_cons,List.not_mem_nil,or_false] at hx
   rcases hx with rfl | rfl | rfl | rfl | rfl | rfl | rfl | rfl <;> rfl
 · rw [if_neg hk]
   refine ⟨fun x hx=>?_,rfl⟩
   simp only [List.cons_append,List.nil_append,List.mem_cons,List.not_mem_nil,or_false] at hx
   rcases hx with rfl | rfl | rfl | rfl | rfl | rfl | rfl | rfl <;> rfl
theorem nrows_clean:∀ ls:List Stp,V.clean.cleanLL 0 (nrows ls)=true
 | []=>rfl
 | s::ls=>by
   show (V.clean.cleanL 0 s.cellsN&&V.clean.cleanLL 0 (nrows ls))=true
   rw [(cellsN_leaf s).2,nrows_clean ls]; rfl
theorem specDiffSteps_pure1 (a b:T) (ha:a.Small) (hb:b.Small) (h1:okT a=true) (h2:okT b=true) (h3:a.id=b.id):Pure Try.prog 9 [.agg a.cells,.agg b.cells] (·=.tup [.sl (nrows (diffT a b)),.bool true]):=by
 refine Full.freeze (specDiffSteps_yes a b ha hb h1 h2 h3) ?_
 rintro o st' ⟨h,es,hs,rfl,rfl⟩
 rw [spec_diff ((okT_iff' a).1 h1).2.1 ((okT_iff' b).1 h2).2.1 h3] at *
 refine ⟨_,_,_,rfl,rfl,?_,by rcases h with _ | ⟨_,_⟩ <;> rfl,rfl⟩
 refine .tup rfl fun i x y p q=>?_
 match i,p,q with
 | 1,p,q=>cases p; cases q; exact .same _
 | 0,p,q =>
   cases p; cases q
   rcases h with _ | ⟨b,c⟩
   · have:diffT a _=[]:=hs
     rw [this]; exact .nils
   · have hm:ent b c 8 (nrows (diffT a _))∈es:=hs
     refine .dref hm (by rw [nrows_len]) rfl (nrows_clean _) (fun e he x hx=>?_) (fun i r r' p q=>?_) (fun i r r' j x y p q u v=>?_)
     · obtain ⟨s,_,rfl⟩:=List.mem_map.1 he
       exact (cellsN_leaf s).1 x hx
     · rw [p] at q; cases q; rfl
     · rw [p] at q; cases q; rw [u] at v; cases v; exact .same _
set_option maxHeartbeats 8000000 in
theorem specDiffSteps_no (a b:T) (ha:a.Small) (hb:b.Small) (na:a.ids.length≤1048577) (nb:b.ids.length≤1048577) (h:¬ (okT a=true∧okT b=true∧a.id=b.id)):Pure Try.prog 9 [.agg a.cells,.agg b.cells] (·=.tup [.sl [],.bool false]):=by
 have f1:=specTreeOk_pure a ha na
 have f2:=specTreeOk_pure b hb nb
 obtain ⟨ai,ak,ax,aks⟩:=a
 obtain ⟨bi,bk,bx,bks⟩:=b
 simp only [T.id] at h
 refine pure_of_draw good Try.func9 rfl (by kernel_rfl) (by decide) fun X hX=>?_
 conv=>whnf
 refine .inl (f1.mono ?_)
 rintro r rfl
 cases h1:okT (.mk ai ak ax aks) with
 | false =>
   conv=>whnf
   rfl
 | true =>
   conv=>whnf
   refine .inl (f2.mono ?_)
   rintro r rfl
   cases h2:okT (.mk bi bk bx bks) with
   | false =>
     conv=>whnf
     rfl
   | true =>
     conv=>whnf
     rw [eqB_f (fun e=>h ⟨h1,h2,e⟩)]
     conv=>whnf
     rfl
theorem specDiffSteps_plain (a b:T) (ha:a.Small) (hb:b.Small) (na:a.ids.length≤1048577) (nb:b.ids.length≤1048577):Pure Try.prog 9 [.agg a.cells,.agg b.cells] (·=.tup [.sl (prows (dsT a b).1),.bool (dsT a b).2]):=by
 have key:Pure Try.prog 9 [.agg a.cells,.agg b.cells] (·=.tup [.sl (nrows (dsT a b).1),.bool (dsT a b).2]):=by
  unfold dsT
  by_cases h:okT a=true∧okT b=true∧a.id=b.id
  · rw [if_pos h]; exact specDiffSteps_pure1 a b ha hb h.1 h.2.1 h.2.2
  · rw [if_neg h]; exact specDiffSteps_no a b ha hb na nb h
 refine key.soft ?_
 rintro r rfl
 show V.tup [.sl (V.softLL (nrows (dsT a b).1)),_]=_
 rw [soft_nrows _ dsT_Z]; rfl
theorem implDiffSteps_plain (a b:T) (ha:a.Small) (hb:b.Small):Pure Try.prog 8 [.agg a.cells,.agg b.cells] (·=.tup [.sl (prows (dsT a b).1),.bool (dsT a b).2]):=by
 refine (implDiffSteps_pure a b ha hb).soft ?_
 rintro r rfl
 show V.tup [.sl (V.softLL (nrows (dsT a b).1)),_]=_
 rw [soft_nrows _ dsT_Z]; rfl
end Go.Cod
namespace Go.Cod
open Go Go.Proofs
set_option linter.all false
set_option maxRecDepth 10000
theorem puts_of (kept:Int→Bool):∀ t:T,t.Small→∀ s∈putsT kept t,s.node.Small∧s.node.size≤t.size∧s.text=[]:=by
 intro t
 induction t using T.ind with
 | h id kd tx ks ih =>
   intro ht
   cases ht with
   | mk i1 i2 i3 i4 i5 =>
   rw [putsT]
   have key:∀ (ls:List T) (n:Nat),(∀ k∈ls,k∈ks)→∀ s∈putsL kept id n ls,s.node.Small∧s.node.size≤1+T.sizeL ls∧s.text=[]:=by
    intro ls
    induction ls with
    | nil=>intro n _ s hs; simp [putsL] at hs
    | cons k ls ihl =>
      intro n hk s hs
      rw [putsL,List.mem_append] at hs
      have hkk:=hk k List.mem_cons_self
      simp only [T.sizeL]
      rcases hs with hs | hs
      · cases hkp:kept k.id with
        | true =>
          rw [hkp,if_pos rfl] at hs
          obtain ⟨h1,h2,h3⟩:=ih k hkk (i5 k hkk) s hs
          exact ⟨h1,by omega,h3⟩
        | false =>
          rw [hkp,if_neg (by simp),List.mem_singleton] at hs
          subst hs; exact ⟨i5 k hkk,by show k.size≤_; omega,rfl⟩
      · obtain ⟨h1,h2,h3⟩:=ihl (n+1) (fun k h=>hk k (List.mem_cons_of_mem _ h)) s hs
        exact ⟨h1,by omega,h3⟩
   have:=key ks 0 fun _ h=>h
   simpa only [T.size] using this
theorem pairs_sm {a b:T} (ha:a.Small) (hb:b.Small):∀ p∈pairsT a b,p.1.Small∧p.2.Small:=by
 revert a
 induction b using T.ind with
 | h id kd tx ks ih =>
   intro a ha p hp
   have hb':=hb
   cases hb with
   | mk i1 i2 i3 i4 i5 =>
   rw [pairsT_eq] at hp
   rcases List.mem_cons.1 hp with hp | hp
   · subst hp; exact ⟨ha,hb'⟩
   · obtain ⟨k,k1,k2,k3⟩:=pairsL_mem hp
     obtain ⟨s,s1,s2,s3⟩:=kidW_some (common_l k2)
     rw [s2] at k3
     have hs:s.Small:=by
      cases ha with
      | mk j1 j2 j3 j4 j5=>exact j5 s s1
     exact ih k k1 (i5 k k1) hs p k3
theorem TZ_sm:TZ.Small:=.mk (by decide) (Nat.zero_le _) (Nat.zero_le _) (Nat.zero_le _) (fun t h=>by cases h)
theorem diff_sm {a b:T} (ha:a.Small) (hb:b.Small):∀ s∈diffT a b,s.node.Small∧s.node.size≤b.size∧s.text.length≤1048576:=by
 intro s hs
 have hz:TZ.size≤b.size:=by have:=size_pos b; show 1≤_; omega
 unfold diffT at hs
 rcases List.mem_append.1 hs with hs | hs
 · obtain ⟨p,_,hp⟩:=List.mem_flatMap.1 hs
   unfold cutsOf at hp
   obtain ⟨k,hk,rfl⟩:=List.mem_map.1 hp
   exact ⟨TZ_sm,hz,Nat.zero_le _⟩
 · rcases List.mem_append.1 hs with hs | hs
   · obtain ⟨p,hp1,hp⟩:=List.mem_flatMap.1 hs
     have h2:=(pairs_sm ha hb p hp1).2
     obtain ⟨w,i⟩:=p
     cases h2 with
     | mk j1 j2 j3 j4 j5 =>
     unfold wordsOf at hp
     rcases List.mem_append.1 hp with hp | hp
     · split at hp
       · rw [List.mem_singleton] at hp; subst hp; exact ⟨TZ_sm,hz,j2⟩
       · cases hp
     · split at hp
       · rw [List.mem_singleton] at hp; subst hp; exact ⟨TZ_sm,hz,j3⟩
       · cases hp
   · obtain ⟨h1,h2,h3⟩:=puts_of _ b hb s hs
     exact ⟨h1,h2,by rw [h3]; exact Nat.zero_le _⟩
set_option maxHeartbeats 8000000 in
theorem wcStep_self (s:Stp) (hs:s.node.Small):Pure Try.prog 37 [.agg s.cells,.agg s.cells] (·=.bool true):=by
 have f1:=wcTree_refl s.node hs
 simp only [Stp.cells]
 obtain ⟨kind,sid,at_,⟨ni,nk,nx,nks⟩,text⟩:=s
 show Pure Try.prog _ [.agg [.int .i64 kind,.int .i64 sid,.int .i64 at_,.int .i64 ni,.str nk,.str nx,.sl (T.rows nks),.str text],.agg [.int .i64 kind,.int .i64 sid,.int .i64 at_,.int .i64 ni,.str nk,.str nx,.sl (T.rows nks),.str text]] _
 refine pure_of_awp good Try.func37 rfl (by kernel_rfl) (by decide) ?_
 conv=>whnf
 rw [eqB_refl]
 conv=>whnf
 rw [eqB_refl]
 conv=>whnf
 rw [eqB_refl]
 conv=>whnf
 rw [eqS_refl]
 conv=>whnf
 refine .inl (f1.mono ?_)
 rintro r rfl
 conv=>whnf
set_option maxHeartbeats 4000000 in
theorem wcSteps_self (ls:List Stp) (hs:∀ s∈ls,s.node.Small) (hl:ls.length≤1048576):Pure Try.prog 10 [.sl (prows ls),.sl (prows ls)] (·=.bool true):=by
 have hlen:=prows_len ls
 have hget:=prows_get ls
 generalize prows ls=rows at *
 refine pure_of_awp good Try.func10 rfl (by kernel_rfl) (by decide) ?_
 conv=>whnf
 rw [eqB_refl]
 conv=>whnf
 refine loop_intro (fun n fr st=>∃ i:Nat,n+i=ls.length∧st=[]∧Holds fr [(0,.sl rows),(1,.sl rows),(5,.int .i64 i)]) ls.length
  ⟨0,rfl,rfl,rfl,rfl,rfl,trivial⟩ ?_
 rintro n fr st ⟨i,hi,rfl,hh⟩
 obtain ⟨fr,rfl⟩:=hh.split
 clear hh
 conv=>whnf
 by_cases hlt:i < ls.length
 · rw [hlen,ltB_t (by omega)]
   have hg:=hget i hlt
   have ws:=wcStep_self ls[i] (hs _ (List.getElem_mem _))
   generalize ls[i]=s at *
   obtain ⟨ak,ai,aa,⟨a1,a2,a3,a4⟩,a5⟩:=s
   conv=>whnf
   repeat (first
    | (refine ⟨by omega,rows,_,8,rfl,hg,rfl,rfl,?_⟩
       conv=>whnf)
    | (refine ⟨_,.inl ws,?_⟩
       conv=>whnf))
   refine ⟨n - 1,by omega,i+1,by omega,rfl,rfl,rfl,?_,trivial⟩
   · show V.int .i64 (IntKind.i64.wrap (i+1))=_
     rw [wrap64 (by omega) (by omega)]; simp
 · rw [hlen,ltB_f (by omega)]
   conv=>whnf
end Go.Cod
namespace Go.Cod
open Go Go.Proofs
set_option linter.all false
set_option maxRecDepth 10000
theorem fL_down:∀ (ts:List T) (k:T) (x:Int) (s:T),(T.idsL ts).Nodup→k∈ts→fT k x=some s→fL ts x=some s
 | [],_,_,_,_,h,_=>by cases h
 | t::ts,k,x,s,hn,h,hf=>by
   simp only [T.idsL,List.nodup_append] at hn
   have hxk:x∈k.ids:=by
    obtain ⟨e,h2,_⟩:=fT_spec k x s hf
    rw [← e]; exact h2.subset s.id_mem
   simp only [fL]
   rcases List.mem_cons.1 h with rfl | h
   · rw [hf]
   · have hm:x∈T.idsL ts:=kid_ids (t:=.mk 0 [] [] ts) h _ hxk
     rw [(fT_none t x).2 fun hc=>hn.2.2 x hc x hm rfl]
     exact fL_down ts k x s hn.2.1 h hf
theorem fT_down {t k:T} {x:Int} {s:T} (hn:t.ids.Nodup) (hk:k∈t.kids) (hf:fT k x=some s):fT t x=some s:=by
 obtain ⟨a,b,c,d⟩:=t
 have hk:k∈d:=hk
 have hxk:x∈k.ids:=by
  obtain ⟨e,h2,_⟩:=fT_spec k x s hf
  rw [← e]; exact h2.subset s.id_mem
 have hm:x∈T.idsL d:=kid_ids (t:=.mk 0 [] [] d) hk _ hxk
 simp only [T.ids,List.nodup_cons] at hn
 have hne:¬ a=x:=fun e=>hn.1 (by rw [e]; exact hm)
 simp only [fT,if_neg hne]
 exact fL_down d k x s hn.2 hk hf
mutual
theorem fT_trans:∀ (t:T) (p x:Int) (s k:T),t.ids.Nodup→fT t p=some s→fT s x=some k→fT t x=some k
 | .mk id kind text kids,p,x,s,k,hn,h1,h2=>by
   by_cases e:id=p
   · rw [fT,if_pos e] at h1
     cases h1; exact h2
   · rw [fT,if_neg e] at h1
     have hx:x∈T.idsL kids:=by
      obtain ⟨e1,h3,_⟩:=fT_spec s x k h2
      obtain ⟨_,h4,_⟩:=fL_spec kids p s h1
      rw [← e1]; exact h4.subset (h3.subset k.id_mem)
     simp only [T.ids,List.nodup_cons] at hn
     have hne:¬ id=x:=fun e=>hn.1 (by rw [e]; exact hx)
     rw [fT,if_neg hne]
     exact fL_trans kids p x s k hn.2 h1 h2
theorem fL_trans:∀ (ts:List T) (p x:Int) (s k:T),(T.idsL ts).Nodup→fL ts p=some s→fT s x=some k→fL ts x=some k
 | [],_,_,_,_,_,h,_=>by simp [fL] at h
 | t::ts,p,x,s,k,hn,h1,h2=>by
   simp only [T.idsL,List.nodup_append] at hn
   cases e:fT t p with
   | some s' =>
     simp only [fL,e] at h1
     cases h1
     have:=fT_trans t p x _ k hn.1 e h2
     simp only [fL,this]
   | none =>
     simp only [fL,e] at h1
     have hx:x∈T.idsL ts:=by
      obtain ⟨e1,h3,_⟩:=fT_spec s x k h2
      obtain ⟨_,h4,_⟩:=fL_spec ts p s h1
      rw [← e1]; exact h4.subset (h3.subset k.id_mem)
     have:=(fT_none t x).2 fun hc=>hn.2.2 x hc x hx rfl
     simp only [fL,this]
     exact fL_trans ts p x s k hn.2.1 h1 h2
end
theorem fT_self (t:T):fT t t.id=some t:=by
 obtain ⟨a,b,c,d⟩:=t
 simp only [fT,T.id,if_true]
theorem pairs_find:∀ (b a w i:T),a.ids.Nodup→b.ids.Nodup→(w,i)∈pairsT a b→fT a w.id=some w∧fT b i.id=some i:=by
 intro b
 induction b using T.ind with
 | h id kd tx ks ih =>
   intro a w i ha hb hp
   rw [pairsT_eq] at hp
   rcases List.mem_cons.1 hp with hp | hp
   · cases hp; exact ⟨fT_self _,fT_self _⟩
   · obtain ⟨k,k1,k2,k3⟩:=pairsL_mem hp
     obtain ⟨s,s1,s2,s3⟩:=kidW_some (common_l k2)
     rw [s2] at k3
     obtain ⟨q1,q2⟩:=ih k k1 s w i (kid_nodup (kids_nodup ha).1 s1) (kid_nodup (kids_nodup hb).1 k1) k3
     exact ⟨fT_down ha s1 q1,fT_down hb k1 q2⟩
def Paired (a b:T) (x:Int):Prop:=∃ p∈pairsT a b,p.1.id=x
theorem Paired.kept {a b:T} (oa:okT a=true) (ob:okT b=true) (hab:a.id=b.id) {x:Int} (h:Paired a b x):x∈keptOf (pairsT a b):=by
 obtain ⟨⟨w,i⟩,hp,rfl⟩:=h
 have h1:=(pairs_ids ((okT_iff' a).1 oa).2.1 ((okT_iff' b).1 ob).2.1 hab hp).1
 show w.id∈_
 rw [h1]; exact pair_kept hp
end Go.Cod
namespace Go.Cod
open Go Go.Proofs
set_option linter.all false
set_option maxRecDepth 10000
end Go.Cod
namespace Go.Cod
open Go Go.Proofs
set_option linter.all false
set_option maxRecDepth 10000
mutual
def T.cutS (D:Int→Bool):T→T
 | .mk id kind text kids=>.mk id kind text (T.cutSL D kids)
def T.cutSL (D:Int→Bool):List T→List T
 | []=>[]
 | t::ts=>if D t.id=true then T.cutSL D ts else T.cutS D t::T.cutSL D ts
end
theorem cutS_id (D:Int→Bool) (t:T):(t.cutS D).id=t.id:=by cases t; rfl
theorem cutS_kids (D:Int→Bool) (t:T):(t.cutS D).kids=T.cutSL D t.kids:=by cases t; rfl
theorem cutSL_append (D:Int→Bool) (a b:List T):T.cutSL D (a++b)=T.cutSL D a++T.cutSL D b:=by
 induction a with
 | nil=>rfl
 | cons t a ih =>
   simp only [List.cons_append,T.cutSL]
   split <;> simp [ih]
mutual
theorem cutS_ids (D:Int→Bool):∀ t:T,(t.cutS D).ids.Sublist t.ids
 | .mk id kind text kids=>by
   simp only [T.cutS,T.ids]
   exact (cutSL_ids D kids).cons_cons _
theorem cutSL_ids (D:Int→Bool):∀ ts:List T,(T.idsL (T.cutSL D ts)).Sublist (T.idsL ts)
 | []=>.refl _
 | t::ts=>by
   simp only [T.cutSL,T.idsL]
   split
   · exact (cutSL_ids D ts).trans (List.sublist_append_right _ _)
   · exact (cutS_ids D t).append (cutSL_ids D ts)
end
mutual
theorem cutS_plain (D:Int→Bool):∀ (t:T) (lv:Int),plainT t lv=true→plainT (t.cutS D) lv=true
 | .mk id kind text kids,lv,h=>by
   simp only [T.cutS,plainT,Bool.and_eq_true] at h ⊢
   exact ⟨h.1,cutSL_plain D kids _ h.2⟩
theorem cutSL_plain (D:Int→Bool):∀ (ts:List T) (lv:Int),plainL ts lv=true→plainL (T.cutSL D ts) lv=true
 | [],_,_=>rfl
 | t::ts,lv,h=>by
   simp only [plainL,Bool.and_eq_true] at h
   simp only [T.cutSL]
   split
   · exact cutSL_plain D ts lv h.2
   · simp only [plainL,Bool.and_eq_true]
     exact ⟨cutS_plain D t lv h.1,cutSL_plain D ts lv h.2⟩
end
theorem okT_cutS {t:T} (h:okT t=true) (D:Int→Bool):okT (t.cutS D)=true:=by
 obtain ⟨h1,h2,h3⟩:=(okT_iff' t).1 h
 exact (okT_iff' _).2 ⟨cutS_plain D t 1 h1,(cutS_ids D t).nodup h2,Nat.le_trans (cutS_ids D t).length_le h3⟩
theorem kid_in {ts:List T} {k:T} (h:k∈ts):∀ x∈k.ids,x∈T.idsL ts:=fun x hx=>kid_ids (t:=.mk 0 [] [] ts) h x hx
mutual
theorem cutS_ext (D E:Int→Bool):∀ t:T,(∀ i∈T.idsL t.kids,D i=E i)→t.cutS D=t.cutS E
 | .mk id kind text kids,h=>by
   simp only [T.cutS,cutSL_ext D E kids h]
theorem cutSL_ext (D E:Int→Bool):∀ ts:List T,(∀ i∈T.idsL ts,D i=E i)→T.cutSL D ts=T.cutSL E ts
 | [],_=>rfl
 | t::ts,h=>by
   simp only [T.idsL,List.mem_append] at h
   have h1:=cutS_ext D E t fun i hi=>h i (.inl (by rw [ids_eq]; exact List.mem_cons_of_mem _ hi))
   have h2:=cutSL_ext D E ts fun i hi=>h i (.inr hi)
   simp only [T.cutSL,h t.id (.inl t.id_mem),h1,h2]
end
mutual
theorem cutS_none:∀ t:T,t.cutS (fun _=>false)=t
 | .mk id kind text kids=>by simp only [T.cutS,cutSL_none kids]
theorem cutSL_none:∀ ts:List T,T.cutSL (fun _=>false) ts=ts
 | []=>rfl
 | t::ts=>by simp [T.cutSL,cutS_none t,cutSL_none ts]
end
theorem cutS_no {D:Int→Bool} {t:T} (h:∀ i∈T.idsL t.kids,D i=false):t.cutS D=t:=by
 rw [cutS_ext D (fun _=>false) t h,cutS_none]
theorem cutSL_no {D:Int→Bool} {ts:List T} (h:∀ i∈T.idsL ts,D i=false):T.cutSL D ts=ts:=by
 rw [cutSL_ext D (fun _=>false) ts h,cutSL_none]
mutual
theorem cutS_cut (D:Int→Bool) (x:Int):∀ t:T,(t.cutS D).cut x=t.cutS (fun i=>D i||decide (i=x))
 | .mk id kind text kids=>by simp only [T.cutS,T.cut,cutSL_cut D x kids]
theorem cutSL_cut (D:Int→Bool) (x:Int):∀ ts:List T,T.cutL x (T.cutSL D ts)=T.cutSL (fun i=>D i||decide (i=x)) ts
 | []=>rfl
 | t::ts=>by
   have h1:=cutS_cut D x t
   have h2:=cutSL_cut D x ts
   simp only [T.cutSL]
   by_cases hd:D t.id=true
   · rw [if_pos hd,if_pos (by rw [hd]; rfl),h2]
   · rw [if_neg hd]
     simp only [T.cutL,cutS_id]
     by_cases hx:t.id=x
     · rw [if_pos hx,if_pos (by simp [hx]),h2]
     · rw [if_neg hx,if_neg (by simp [hx,hd]),h1,h2]
end
theorem cutSL_mem {D:Int→Bool} {ts:List T} {k:T} (h:k∈ts) (hd:D k.id=false):k.cutS D∈T.cutSL D ts:=by
 obtain ⟨a,b,rfl⟩:=List.append_of_mem h
 rw [cutSL_append,T.cutSL,if_neg (by rw [hd]; simp)]
 exact List.mem_append_right _ List.mem_cons_self
inductive Rch (D:Int→Bool):T→T→Prop
 | self (t:T):Rch D t t
 | kid {t k w:T} (hk:k∈t.kids) (hd:D k.id=false) (h:Rch D k w):Rch D t w
theorem Rch.mono {D E:Int→Bool} {t w:T} (h:Rch D t w) (hE:∀ i,E i=true→D i=true):Rch E t w:=by
 induction h with
 | self t=>exact .self t
 | kid hk hd _ ih =>
   refine .kid hk ?_ ih
   cases he:E _ with
   | false=>rfl
   | true=>rw [hE _ he] at hd; cases hd
theorem Rch.trans {D:Int→Bool} {t w x:T} (h:Rch D t w) (h2:Rch D w x):Rch D t x:=by
 induction h with
 | self t=>exact h2
 | kid hk hd _ ih=>exact .kid hk hd (ih h2)
theorem Rch.sub {D:Int→Bool} {t w:T} (h:Rch D t w):(∀ i∈T.idsL w.kids,i∈T.idsL t.kids)∧w.ids.Sublist t.ids:=by
 induction h with
 | self t=>exact ⟨fun _ h=>h,.refl _⟩
 | @kid t k w hk hd _ ih =>
   have hs:∀ i∈k.ids,i∈T.idsL t.kids:=kid_ids hk
   refine ⟨fun i hi=>hs i (by rw [ids_eq]; exact List.mem_cons_of_mem _ (ih.1 i hi)),ih.2.trans ?_⟩
   rw [ids_eq t]
   refine List.Sublist.cons _ ?_
   generalize t.kids=ks at hk
   clear hs ih
   induction ks with
   | nil=>cases hk
   | cons s ks ih =>
     simp only [T.idsL]
     rcases List.mem_cons.1 hk with rfl | hk
     · exact List.sublist_append_left _ _
     · exact (ih hk).trans (List.sublist_append_right _ _)
theorem Rch.find {D:Int→Bool} {t w:T} (h:Rch D t w):t.ids.Nodup→fT (t.cutS D) w.id=some (w.cutS D):=by
 induction h with
 | self t =>
   intro _
   have:=fT_self (t.cutS D)
   rwa [cutS_id] at this
 | @kid t k w hk hd _ ih =>
   intro hn
   refine fT_down ((cutS_ids D t).nodup hn) (k:=k.cutS D) ?_ (ih (kid_nodup (kids_nodup hn).1 hk))
   rw [cutS_kids]
   exact cutSL_mem hk hd
theorem Rch.found {D:Int→Bool} {t w:T} (h:Rch D t w) (hn:t.ids.Nodup):fT t w.id=some w:=by
 have:=(h.mono (E:=fun _=>false) (fun _ h=>by cases h)).find hn
 rwa [cutS_none,cutS_none] at this
theorem mapAtL_append (x:Int) (f:T→T) (a b:List T):T.mapAtL x f (a++b)=T.mapAtL x f a++T.mapAtL x f b:=by
 rw [T.mapAtL_eq,T.mapAtL_eq,T.mapAtL_eq,List.map_append]
theorem Rch.mapAt {D E:Int→Bool} {t w:T} {f:T→T} {z:Int} (h:Rch D t w):t.ids.Nodup→z∈T.idsL w.kids→(∀ i,i≠z→D i=E i)→f (w.cutS D)=w.cutS E→(t.cutS D).mapAt w.id f=t.cutS E:=by
 induction h with
 | self t =>
   intro _ _ _ hf
   rw [← hf]
   cases t with
   | mk id kind text kids=>simp only [T.cutS,T.mapAt,T.id,if_true]
 | @kid t k w hk hd h ih =>
   intro hn hz hE hf
   have hr:=ih (kid_nodup (kids_nodup hn).1 hk) hz hE hf
   have hw:w.id∈k.ids:=h.sub.2.subset w.id_mem
   have hzk:=h.sub.1 z hz
   obtain ⟨id,kind,text,kids⟩:=t
   have hk:k∈kids:=hk
   simp only [T.ids,List.nodup_cons] at hn
   have hne:¬ id=w.id:=fun e=>hn.1 (by rw [e]; exact kid_in hk _ hw)
   simp only [T.cutS,T.mapAt,if_neg hne]
   congr 1
   obtain ⟨p,q,rfl⟩:=List.append_of_mem hk
   have hn2:=hn.2
   rw [T.idsL_append] at hn2
   simp only [T.idsL,List.nodup_append,List.mem_append] at hn2
   obtain ⟨_,⟨n1,_,n3⟩,n4⟩:=hn2
   have hzk':z∈k.ids:=by rw [ids_eq]; exact List.mem_cons_of_mem _ hzk
   have hkz:k.id≠z:=fun e=>(kids_nodup n1).2 (by rw [e]; exact hzk)
   have e1:T.cutSL D p=T.cutSL E p:=cutSL_ext D E p fun i hi=>hE i fun e=>n4 i hi z (.inl hzk') e
   have e2:T.cutSL D q=T.cutSL E q:=cutSL_ext D E q fun i hi=>hE i fun e=>n3 z hzk' i hi e.symm
   have hEk:E k.id=false:=by rw [← hE _ hkz,hd]
   rw [cutSL_append,cutSL_append,mapAtL_append]
   simp only [T.cutSL,hd,hEk,Bool.false_eq_true,if_false,T.mapAtL,hr]
   rw [T.mapAtL_none _ _ _ fun hc=>n4 _ ((cutSL_ids D p).subset hc) _ (.inl hw) rfl,T.mapAtL_none _ _ _ fun hc=>n3 _ hw _ ((cutSL_ids D q).subset hc) rfl,e1,e2]
def NK (a b:T) (x:Int):Bool:=!keptB (pairsT a b) x
theorem NK_false {a b:T} {x:Int}:NK a b x=false↔x∈keptOf (pairsT a b):=by
 unfold NK keptB
 simp
theorem pairs_rch {a b:T} (hx:∀ p∈pairsT a b,NK a b p.1.id=false∧NK a b p.2.id=false):∀ (i w w' i':T),(w,i)∈pairsT a b→(w',i')∈pairsT w i→Rch (NK a b) w w'∧Rch (NK a b) i i':=by
 intro i
 induction i using T.ind with
 | h id kd tx ks ih =>
   intro w w' i' hp hq
   rw [pairsT_eq] at hq
   rcases List.mem_cons.1 hq with hq | hq
   · cases hq; exact ⟨.self _,.self _⟩
   · obtain ⟨k,k1,k2,k3⟩:=pairsL_mem hq
     obtain ⟨s,s1,s2,s3⟩:=kidW_some (common_l k2)
     have hsk:(s,k)∈pairsT a b:=by
      refine pairs_trans b a w _ s k hp ?_
      rw [pairsT_eq]
      refine List.mem_cons_of_mem _ (pairsL_of k1 k2 ?_)
      rw [s2]; exact pairs_self s k
     rw [s2] at k3
     obtain ⟨r1,r2⟩:=ih k k1 s w' i' hsk k3
     exact ⟨.kid s1 (hx _ hsk).1 r1,.kid k1 (hx _ hsk).2 r2⟩
theorem pairs_reach {a b:T} (ha:a.ids.Nodup) (hb:b.ids.Nodup) (hab:a.id=b.id) {w i:T} (h:(w,i)∈pairsT a b):Rch (NK a b) a w∧Rch (NK a b) b i:=by
 refine pairs_rch (fun p hp=>?_) b a w i (pairs_self a b) h
 obtain ⟨w,i⟩:=p
 have e:=(pairs_ids ha hb hab hp).1
 have hk:i.id∈keptOf (pairsT a b):=pair_kept hp
 exact ⟨NK_false.2 (by show w.id∈_; rw [e]; exact hk),NK_false.2 hk⟩
end Go.Cod
namespace Go.Cod
open Go Go.Proofs
set_option linter.all false
set_option maxRecDepth 10000
def runS:T→List Stp→Option T
 | x,[]=>some x
 | x,s::ls=>match doT x s with
   | some y=>runS y ls
   | none=>none
theorem runS_append:∀ (l1 l2:List Stp) (x y:T),runS x l1=some y→runS x (l1++l2)=runS y l2
 | [],_,x,y,h=>by cases h; rfl
 | s::l1,l2,x,y,h=>by
   simp only [List.cons_append,runS] at h ⊢
   cases hd:doT x s with
   | none=>rw [hd] at h; cases h
   | some z =>
     rw [hd] at h
     exact runS_append l1 l2 z y h
theorem do_cutStp {t:T} {x:Int} {s:T} (hx:x≠t.id) (hf:fT t x=some s) (ho:okT (t.cut x)=true):doT t (cutStp x)=some (t.cut x):=by
 have hb:bareT (cutStp x)=true:=rfl
 have he:editT t (cutStp x)=some (t.cut x):=by
  unfold editT
  rw [show (cutStp x).id=x from rfl,hf,hb]
  simp only [Bool.true_eq_false,if_false]
  rw [if_neg (show ¬ (cutStp x).kind=1 by show ¬ (2:Int)=1; omega),if_pos (show (cutStp x).kind=2 from rfl),if_neg hx]
 unfold doT
 rw [he]
 simp only [ho,if_true]
def inL (l:List Int) (i:Int):Bool:=decide (i∈l)
theorem cuts_run {a:T} (ok:okT a=true):∀ cs done:List Int,(done++cs).Nodup→(∀ x∈cs,∃ w k,Rch (inL (done++cs)) a w∧k∈w.kids∧k.id=x)→runS (a.cutS (inL done)) (cs.map cutStp)=some (a.cutS (inL (done++cs)))
 | [],done,_,_=>by rw [List.append_nil]; rfl
 | x::cs,done,hn,h=>by
   have na:=((okT_iff' a).1 ok).2.1
   obtain ⟨w,k,h1,h2,h3⟩:=h x List.mem_cons_self
   have hx:inL done x=false:=by
    unfold inL
    rw [List.nodup_append] at hn
    exact decide_eq_false fun hc=>hn.2.2 x hc x List.mem_cons_self rfl
   have hr:Rch (inL done) a w:=h1.mono fun i hi=>by
    unfold inL at hi ⊢
    exact decide_eq_true (List.mem_append_left _ (of_decide_eq_true hi))
   have hrk:Rch (inL done) a k:=hr.trans (.kid h2 (by rw [h3]; exact hx) (.self k))
   have hf:=hrk.find na
   rw [h3] at hf
   have hne:x≠(a.cutS (inL done)).id:=by
    rw [cutS_id]
    intro e
    refine (kids_nodup na).2 (e ▸ hr.sub.1 x ?_)
    rw [← h3]
    exact kid_ids h2 _ k.id_mem
   have hc:=cutS_cut (inL done) x a
   have hD:(fun i=>inL done i||decide (i=x))=inL (done++[x]):=by
    funext i
    unfold inL
    rw [Bool.eq_iff_iff]
    simp
   rw [hD] at hc
   have hd:=do_cutStp hne hf (by rw [hc]; exact okT_cutS ok _)
   rw [List.map_cons,runS,hd,hc]
   have e:done++x::cs=(done++[x])++cs:=by simp
   rw [e] at hn h ⊢
   exact cuts_run ok cs (done++[x]) hn fun y hy=>h y (List.mem_cons_of_mem _ hy)
def cutI (K:Int→Bool) (p:T × T):List Int:=(p.1.kids.filter fun k=>!K k.id).map T.id
theorem cutsOf_eq (K:Int→Bool) (p:T × T):cutsOf K p=(cutI K p).map cutStp:=by
 unfold cutsOf cutI
 rw [List.map_map]; rfl
theorem fm_nodup {F:Int→List Int}:∀ {c:List Int},c.Nodup→(∀ x∈c,(F x).Nodup)→(∀ x∈c,∀ y∈c,x≠y→∀ z∈F x,z∉F y)→(c.flatMap F).Nodup
 | [],_,_,_=>by simp
 | x::c,hc,h1,h2=>by
   obtain ⟨c1,c2⟩:=List.nodup_cons.1 hc
   rw [List.flatMap_cons,List.nodup_append]
   refine ⟨h1 x List.mem_cons_self,fm_nodup c2 (fun y hy=>h1 y (List.mem_cons_of_mem _ hy)) fun y hy z hz=>h2 y (List.mem_cons_of_mem _ hy) z (List.mem_cons_of_mem _ hz),fun z hz y hy e=>?_⟩
   subst e
   obtain ⟨y,y1,y2⟩:=List.mem_flatMap.1 hy
   exact h2 x List.mem_cons_self y (List.mem_cons_of_mem _ y1) (fun e=>c1 (e ▸ y1)) z hz y2
theorem cutI_nodup (K:Int→Bool):∀ i w:T,w.ids.Nodup→i.ids.Nodup→((pairsT w i).flatMap (cutI K)).Nodup∧∀ x∈(pairsT w i).flatMap (cutI K),x∈T.idsL w.kids:=by
 intro i
 induction i using T.ind with
 | h id kd tx ks ih =>
   intro w hwn hin
   obtain ⟨wi,wk,wx,wks⟩:=w
   have nk:=(kids_nodup hin).1
   have nw:=(kids_nodup hwn).1
   simp only [T.kids] at nk nw
   have hsub:=lcs_sub _ (wks.map T.id) (ks.map T.id) (Nat.le_refl _)
   have e:(pairsT (.mk wi wk wx wks) (.mk id kd tx ks)).flatMap (cutI K)=cutI K (.mk wi wk wx wks,.mk id kd tx ks)++(lcs (wks.map T.id) (ks.map T.id)).flatMap fun x=>(pairsT (kidIn wks x) (kidIn ks x)).flatMap (cutI K):=by
    rw [pairsT,List.flatMap_cons,show (T.mk wi wk wx wks).kidIds=wks.map T.id from rfl,pairsL_common _ _ _ (ids_nodup nk) hsub.2,List.flatMap_assoc]
    rfl
   have hk:∀ x∈lcs (wks.map T.id) (ks.map T.id),kidIn wks x∈wks∧(kidIn wks x).id=x∧((pairsT (kidIn wks x) (kidIn ks x)).flatMap (cutI K)).Nodup∧∀ z∈(pairsT (kidIn wks x) (kidIn ks x)).flatMap (cutI K),z∈T.idsL (kidIn wks x).kids:=fun x hx=>by
    obtain ⟨m1,m2⟩:=kidIn_mem (hsub.1.subset hx)
    obtain ⟨r1,r2⟩:=kidIn_mem (hsub.2.subset hx)
    obtain ⟨q1,q2⟩:=ih _ r1 _ (kid_nodup nw m1) (kid_nodup nk r1)
    exact ⟨m1,m2,q1,q2⟩
   have hdown:∀ {k:T} {z:Int},z∈T.idsL k.kids→z∈k.ids:=fun h=>by rw [ids_eq]; exact List.mem_cons_of_mem _ h
   have hfirst:∀ z∈cutI K (.mk wi wk wx wks,.mk id kd tx ks),∃ s∈wks,s.id=z:=fun z hz=>by
    obtain ⟨s,s1,s2⟩:=List.mem_map.1 hz
    exact ⟨s,(List.mem_filter.1 s1).1,s2⟩
   rw [e]
   refine ⟨List.nodup_append.2 ⟨?_,fm_nodup (hsub.1.nodup (ids_nodup nw)) (fun x hx=>(hk x hx).2.2.1) fun x hx y hy hne z hz hz2=>?_,fun z hz y hy e=>?_⟩,fun z hz=>?_⟩
   · exact (List.filter_sublist.map T.id).nodup (ids_nodup nw)
   · obtain ⟨a1,a2,_,a4⟩:=hk x hx
     obtain ⟨b1,b2,_,b4⟩:=hk y hy
     have:=kid_apart nw a1 b1 (hdown (a4 z hz)) (hdown (b4 z hz2))
     exact hne (by rw [← a2,← b2,this])
   · subst e
     obtain ⟨s,s1,s2⟩:=hfirst z hz
     obtain ⟨x,x1,x2⟩:=List.mem_flatMap.1 hy
     obtain ⟨a1,a2,_,a4⟩:=hk x x1
     have hzk:=a4 z x2
     have:=kid_apart nw s1 a1 (s2 ▸ s.id_mem) (hdown hzk)
     rw [← this] at hzk
     exact (kids_nodup (kid_nodup nw s1)).2 (s2 ▸ hzk)
   · rcases List.mem_append.1 hz with hz | hz
     · obtain ⟨s,s1,s2⟩:=hfirst z hz
       exact kid_in s1 z (s2 ▸ s.id_mem)
     · obtain ⟨x,x1,x2⟩:=List.mem_flatMap.1 hz
       obtain ⟨a1,_,_,a4⟩:=hk x x1
       exact kid_in a1 z (hdown (a4 z x2))
theorem cutSL_congr {D E:Int→Bool}:∀ {ts:List T},(∀ s∈ts,D s.id=E s.id∧(D s.id=false→s.cutS D=s.cutS E))→T.cutSL D ts=T.cutSL E ts
 | [],_=>rfl
 | t::ts,h=>by
   obtain ⟨h1,h2⟩:=h t List.mem_cons_self
   have h3:=cutSL_congr fun s hs=>h s (List.mem_cons_of_mem _ hs)
   simp only [T.cutSL,← h1,h3]
   cases hd:D t.id with
   | true=>rfl
   | false=>simp [h2 hd]
theorem kid_pair {a b w i s:T} (ha:a.ids.Nodup) (hb:b.ids.Nodup) (hab:a.id=b.id) (hp:(w,i)∈pairsT a b) (hs:s∈w.kids) (hk:NK a b s.id=false):∃ k∈i.kids,(s,k)∈pairsT a b:=by
 have hc:=((kept_local ha hb hab hp).2 s hs).1 (NK_false.1 hk)
 obtain ⟨k,k1,k2,k3⟩:=kidW_some (common_r hc)
 obtain ⟨_,_,nw⟩:=pairs_ids ha hb hab hp
 refine ⟨k,k1,pairs_trans b a w i s k hp ?_⟩
 rw [pairsT_eq]
 refine List.mem_cons_of_mem _ (pairsL_of k1 (by rw [k3]; exact hc) ?_)
 rw [k3,kidW_mem (kids_nodup nw).1 hs]
 exact pairs_self s k
theorem kid_pair2 {a b w i k:T} (ha:a.ids.Nodup) (hb:b.ids.Nodup) (hab:a.id=b.id) (hp:(w,i)∈pairsT a b) (hs:k∈i.kids) (hk:NK a b k.id=false):∃ s∈w.kids,(s,k)∈pairsT a b:=by
 have hc:=((kept_local ha hb hab hp).1 k hs).1 (NK_false.1 hk)
 obtain ⟨s,k1,k2,k3⟩:=kidW_some (common_l hc)
 refine ⟨s,k1,pairs_trans b a w i s k hp ?_⟩
 rw [pairsT_eq]
 refine List.mem_cons_of_mem _ (pairsL_of hs hc ?_)
 rw [k2]
 exact pairs_self s k
def cutIs (a b:T):List Int:=(pairsT a b).flatMap (cutI (keptB (pairsT a b)))
theorem cutIs_NK {a b:T} {x:Int} (h:x∈cutIs a b):NK a b x=true:=by
 obtain ⟨p,_,h2⟩:=List.mem_flatMap.1 h
 obtain ⟨s,s1,rfl⟩:=List.mem_map.1 h2
 exact (List.mem_filter.1 s1).2
theorem cut_was {a b:T} (ha:a.ids.Nodup) (hb:b.ids.Nodup) (hab:a.id=b.id):∀ i w:T,(w,i)∈pairsT a b→w.cutS (inL (cutIs a b))=w.cutS (NK a b):=by
 intro i
 induction i using T.ind with
 | h id kd tx ks ih =>
   intro w hp
   have key:T.cutSL (inL (cutIs a b)) w.kids=T.cutSL (NK a b) w.kids:=by
    refine cutSL_congr fun s hs=>?_
    cases hk:NK a b s.id with
    | false =>
      refine ⟨decide_eq_false (fun hc=>absurd ((cutIs_NK hc).symm.trans hk) (by simp)),fun _=>?_⟩
      obtain ⟨k,k1,k2⟩:=kid_pair ha hb hab hp hs hk
      exact ih k k1 s k2
    | true =>
      have:inL (cutIs a b) s.id=true:=decide_eq_true (List.mem_flatMap.2 ⟨_,hp,List.mem_map.2 ⟨s,List.mem_filter.2 ⟨hs,hk⟩,rfl⟩⟩)
      exact ⟨this,fun h=>absurd (this.symm.trans h) (by simp)⟩
   obtain ⟨wi,wk,wx,wks⟩:=w
   simp only [T.cutS]
   simp only [T.kids] at key
   rw [key]
theorem phase_cut {a b:T} (oa:okT a=true) (ob:okT b=true) (hab:a.id=b.id):runS a ((pairsT a b).flatMap (cutsOf (keptB (pairsT a b))))=some (a.cutS (NK a b)):=by
 have ha:=((okT_iff' a).1 oa).2.1
 have hb:=((okT_iff' b).1 ob).2.1
 have h0:=cuts_run oa (cutIs a b) [] (cutI_nodup _ b a ha hb).1 fun x hx=>by
  obtain ⟨⟨w,i⟩,p1,p2⟩:=List.mem_flatMap.1 hx
  obtain ⟨s,s1,s2⟩:=List.mem_map.1 p2
  refine ⟨w,s,(pairs_reach ha hb hab p1).1.mono fun i hi=>cutIs_NK (of_decide_eq_true hi),(List.mem_filter.1 s1).1,s2⟩
 rw [List.nil_append,cut_was ha hb hab b a (pairs_self a b),cutS_ext (inL []) (fun _=>false) a (fun _ _=>rfl),cutS_none] at h0
 rw [← h0]
 congr 1
 unfold cutIs
 rw [List.map_flatMap]
 refine congrArg (List.flatMap · _) ?_
 funext p
 exact cutsOf_eq _ p
end Go.Cod
namespace Go.Cod
open Go Go.Proofs
set_option linter.all false
set_option maxRecDepth 10000
mutual
def T.rel (κ τ:Int→List UInt8):T→T
 | .mk id _ _ kids=>.mk id (κ id) (τ id) (T.relL κ τ kids)
def T.relL (κ τ:Int→List UInt8):List T→List T
 | []=>[]
 | t::ts=>T.rel κ τ t::T.relL κ τ ts
end
mutual
theorem rel_ids (κ τ:Int→List UInt8):∀ t:T,(t.rel κ τ).ids=t.ids
 | .mk id kind text kids=>by simp only [T.rel,T.ids,relL_ids κ τ kids]
theorem relL_ids (κ τ:Int→List UInt8):∀ ts:List T,T.idsL (T.relL κ τ ts)=T.idsL ts
 | []=>rfl
 | t::ts=>by simp only [T.relL,T.idsL,rel_ids κ τ t,relL_ids κ τ ts]
end
mutual
theorem rel_ext {κ τ κ' τ':Int→List UInt8}:∀ t:T,(∀ i∈t.ids,κ i=κ' i∧τ i=τ' i)→t.rel κ τ=t.rel κ' τ'
 | .mk id kind text kids,h=>by
   simp only [T.ids,List.mem_cons] at h
   have h1:=h id (.inl rfl)
   simp only [T.rel,h1.1,h1.2,relL_ext kids fun i hi=>h i (.inr hi)]
theorem relL_ext {κ τ κ' τ':Int→List UInt8}:∀ ts:List T,(∀ i∈T.idsL ts,κ i=κ' i∧τ i=τ' i)→T.relL κ τ ts=T.relL κ' τ' ts
 | [],_=>rfl
 | t::ts,h=>by
   simp only [T.idsL,List.mem_append] at h
   simp only [T.relL,rel_ext t fun i hi=>h i (.inl hi),relL_ext ts fun i hi=>h i (.inr hi)]
end
mutual
theorem rel_plain {κ τ:Int→List UInt8}:∀ (t:T) (lv:Int),plainT t lv=true→(∀ i∈t.ids,nameL (κ i)=true∧textL (τ i)=true)→plainT (t.rel κ τ) lv=true
 | .mk id kind text kids,lv,h,hw=>by
   simp only [T.ids,List.mem_cons] at hw
   simp only [T.rel,plainT,Bool.and_eq_true] at h ⊢
   have h1:=hw id (.inl rfl)
   exact ⟨⟨⟨h.1.1.1,h1.1⟩,h1.2⟩,relL_plain kids _ h.2 fun i hi=>hw i (.inr hi)⟩
theorem relL_plain {κ τ:Int→List UInt8}:∀ (ts:List T) (lv:Int),plainL ts lv=true→(∀ i∈T.idsL ts,nameL (κ i)=true∧textL (τ i)=true)→plainL (T.relL κ τ ts) lv=true
 | [],_,_,_=>rfl
 | t::ts,lv,h,hw=>by
   simp only [T.idsL,List.mem_append] at hw
   simp only [T.relL,plainL,Bool.and_eq_true] at h ⊢
   exact ⟨rel_plain t lv h.1 fun i hi=>hw i (.inl hi),relL_plain ts lv h.2 fun i hi=>hw i (.inr hi)⟩
end
theorem okT_rel {κ τ:Int→List UInt8} {t:T} (h:okT t=true) (hw:∀ i∈t.ids,nameL (κ i)=true∧textL (τ i)=true):okT (t.rel κ τ)=true:=by
 obtain ⟨h1,h2,h3⟩:=(okT_iff' t).1 h
 exact (okT_iff' _).2 ⟨rel_plain t 1 h1 hw,by rw [rel_ids]; exact h2,by rw [rel_ids]; exact h3⟩
mutual
theorem rel_find (κ τ:Int→List UInt8):∀ (t:T) (x:Int),fT (t.rel κ τ) x=(fT t x).map (T.rel κ τ)
 | .mk id kind text kids,x=>by
   simp only [T.rel,fT]
   by_cases e:id=x
   · simp [e,T.rel]
   · rw [if_neg e,if_neg e,relL_find κ τ kids x]
theorem relL_find (κ τ:Int→List UInt8):∀ (ts:List T) (x:Int),fL (T.relL κ τ ts) x=(fL ts x).map (T.rel κ τ)
 | [],x=>rfl
 | t::ts,x=>by
   simp only [T.relL,fL,rel_find κ τ t x]
   cases fT t x with
   | some s=>rfl
   | none=>simp only [Option.map_none]; exact relL_find κ τ ts x
end
mutual
theorem rel_mapAt {κ τ κ' τ':Int→List UInt8} {x:Int} (hE:∀ i,i≠x→κ i=κ' i∧τ i=τ' i):∀ t:T,t.ids.Nodup→(t.rel κ τ).mapAt x (setT (κ' x) (τ' x))=t.rel κ' τ'
 | .mk id kind text kids,hn=>by
   simp only [T.ids,List.nodup_cons] at hn
   simp only [T.rel,T.mapAt]
   by_cases e:id=x
   · subst e
     rw [if_pos rfl]
     have:T.relL κ τ kids=T.relL κ' τ' kids:=relL_ext kids fun i hi=>hE i fun e=>hn.1 (e ▸ hi)
     rw [this]; rfl
   · rw [if_neg e,(hE id e).1,(hE id e).2,relL_mapAt hE kids hn.2]
theorem relL_mapAt {κ τ κ' τ':Int→List UInt8} {x:Int} (hE:∀ i,i≠x→κ i=κ' i∧τ i=τ' i):∀ ts:List T,(T.idsL ts).Nodup→T.mapAtL x (setT (κ' x) (τ' x)) (T.relL κ τ ts)=T.relL κ' τ' ts
 | [],_=>rfl
 | t::ts,hn=>by
   simp only [T.idsL,List.nodup_append] at hn
   simp only [T.relL,T.mapAtL,rel_mapAt hE t hn.1,relL_mapAt hE ts hn.2.1]
end
theorem bare_word (k x:Int) (w:List UInt8) (h:k=3∨k=4):bareT ⟨k,x,0,TZ,w⟩=true:=by
 unfold bareT
 rcases h with rfl | rfl <;> rfl
theorem do_word {t:T} {κ τ κ' τ':Int→List UInt8} {x k:Int} {w:List UInt8} (hk:k=3∧τ' x=w∧κ' x=κ x∨k=4∧κ' x=w∧τ' x=τ x) (hx:x∈t.ids) (hn:t.ids.Nodup) (hE:∀ i,i≠x→κ i=κ' i∧τ i=τ' i) (ho:okT (t.rel κ' τ')=true) :
  doT (t.rel κ τ) ⟨k,x,0,TZ,w⟩=some (t.rel κ' τ'):=by
 have hf:=rel_find κ τ t x
 cases hs:fT t x with
 | none=>exact absurd hx ((fT_none t x).1 hs)
 | some s =>
   rw [hs,Option.map_some] at hf
   have hsid:=(fT_spec t x s hs).1
   have hm:=rel_mapAt hE t hn
   have hsk:(s.rel κ τ).kind=κ x∧(s.rel κ τ).text=τ x:=by
    obtain ⟨a,b,c,d⟩:=s
    have:a=x:=hsid
    subst this
    exact ⟨rfl,rfl⟩
   have he:editT (t.rel κ τ) ⟨k,x,0,TZ,w⟩=some (t.rel κ' τ'):=by
    unfold editT
    simp only
    rw [hf]
    simp only
    rw [bare_word k x w (by rcases hk with ⟨h,_⟩ | ⟨h,_⟩ <;> simp [h]),if_neg (by simp)]
    rcases hk with ⟨rfl,h1,h2⟩ | ⟨rfl,h1,h2⟩
    · rw [if_neg (by omega),if_neg (by omega),if_pos rfl,hsk.1,← h1,← h2,hm]
    · rw [if_neg (by omega),if_neg (by omega),if_neg (by omega),if_pos rfl,hsk.2,← h1,← h2,hm]
   unfold doT
   rw [he]
   simp only [ho,if_true]
theorem cutSL_common {D:Int→Bool}:∀ {ks:List T} {c:List Int},(ks.map T.id).Nodup→c.Sublist (ks.map T.id)→(∀ k∈ks,(D k.id=false↔k.id∈c))→T.cutSL D ks=c.map fun x=>(kidIn ks x).cutS D:=by
 intro ks
 induction ks with
 | nil =>
   intro c _ h _
   rw [List.map_nil,List.sublist_nil] at h
   subst h; rfl
 | cons k ks ih =>
   intro c hn h hD
   rw [List.map_cons] at h hn
   obtain ⟨n1,n2⟩:=List.nodup_cons.1 hn
   cases h with
   | cons _ h =>
     have hk:k.id∉c:=fun z=>n1 (h.subset z)
     have hd:D k.id=true:=by
      cases e:D k.id with
      | true=>rfl
      | false=>exact absurd ((hD k List.mem_cons_self).1 e) hk
     rw [T.cutSL,if_pos hd,ih n2 h fun s hs=>hD s (List.mem_cons_of_mem _ hs)]
     exact List.map_congr_left fun x hx=>by rw [kidIn_ne fun e=>hk (e ▸ hx)]
   | cons_cons _ h =>
     rename_i c
     have hd:D k.id=false:=(hD k List.mem_cons_self).2 List.mem_cons_self
     rw [T.cutSL,if_neg (by rw [hd]; simp),List.map_cons,kidIn_eq,ih n2 h fun s hs=>?_]
     · congr 1
       exact List.map_congr_left fun x hx=>by rw [kidIn_ne fun e=>n1 (e ▸ h.subset hx)]
     · rw [hD s (List.mem_cons_of_mem _ hs)]
       have hne:s.id≠k.id:=fun e=>n1 (e ▸ List.mem_map_of_mem hs)
       simp [hne]
theorem relL_map (κ τ:Int→List UInt8) (ts:List T):T.relL κ τ ts=ts.map (T.rel κ τ):=by
 induction ts with
 | nil=>rfl
 | cons t ts ih=>rw [T.relL,ih]; rfl
theorem rel_cut_was {a b:T} (ha:a.ids.Nodup) (hb:b.ids.Nodup) (hab:a.id=b.id) {κ τ:Int→List UInt8} (hw:∀ p∈pairsT a b,κ p.2.id=p.1.kind∧τ p.2.id=p.1.text):∀ i w:T,(w,i)∈pairsT a b→(i.cutS (NK a b)).rel κ τ=w.cutS (NK a b):=by
 intro i
 induction i using T.ind with
 | h id kd tx ks ih =>
   intro w hp
   obtain ⟨e1,ni,nw⟩:=pairs_ids ha hb hab hp
   have hwp:=hw _ hp
   obtain ⟨l1,l2⟩:=kept_local ha hb hab hp
   obtain ⟨wi,wk,wx,wks⟩:=w
   have nk:=(kids_nodup ni).1
   have nw:=(kids_nodup nw).1
   simp only [T.kids] at nk nw
   have hsub:=lcs_sub _ (wks.map T.id) (ks.map T.id) (Nat.le_refl _)
   have c1:=cutSL_common (D:=NK a b) (ids_nodup nk) hsub.2 fun k hk=>by rw [NK_false]; exact l1 k hk
   have c2:=cutSL_common (D:=NK a b) (ids_nodup nw) hsub.1 fun k hk=>by rw [NK_false]; exact l2 k hk
   simp only [T.cutS,T.rel]
   have e1:wi=id:=e1
   have h1:κ id=wk:=hwp.1
   have h2:τ id=wx:=hwp.2
   rw [e1,h1,h2,c1,c2,relL_map,List.map_map]
   congr 1
   refine List.map_congr_left fun x hx=>?_
   obtain ⟨m1,m2⟩:=kidIn_mem (hsub.1.subset hx)
   obtain ⟨r1,r2⟩:=kidIn_mem (hsub.2.subset hx)
   refine ih _ r1 _ (pairs_trans b a _ _ _ _ hp ?_)
   rw [pairsT_eq]
   refine List.mem_cons_of_mem _ (pairsL_of (k:=kidIn ks x) r1 (by rw [r2]; exact hx) ?_)
   rw [r2]
   exact pairs_self (kidIn wks x) (kidIn ks x)
theorem rel_cut_is {a b:T} (ha:a.ids.Nodup) (hb:b.ids.Nodup) (hab:a.id=b.id) {κ τ:Int→List UInt8} (hw:∀ p∈pairsT a b,κ p.2.id=p.2.kind∧τ p.2.id=p.2.text):∀ i w:T,(w,i)∈pairsT a b→(i.cutS (NK a b)).rel κ τ=i.cutS (NK a b):=by
 intro i
 induction i using T.ind with
 | h id kd tx ks ih =>
   intro w hp
   have hwp:=hw _ hp
   have key:∀ ls:List T,(∀ k∈ls,k∈ks)→T.relL κ τ (T.cutSL (NK a b) ls)=T.cutSL (NK a b) ls:=by
    intro ls
    induction ls with
    | nil=>intro _; rfl
    | cons k ls ihl =>
      intro h
      have h2:=ihl fun s hs=>h s (List.mem_cons_of_mem _ hs)
      rw [T.cutSL]
      cases hk:NK a b k.id with
      | true=>rw [if_pos rfl]; exact h2
      | false =>
        rw [if_neg (by simp),T.relL,h2]
        obtain ⟨s,_,hsk⟩:=kid_pair2 ha hb hab hp (h k List.mem_cons_self) hk
        rw [ih k (h k List.mem_cons_self) s hsk]
   simp only [T.cutS,T.rel]
   have h1:κ id=kd:=hwp.1
   have h2:τ id=tx:=hwp.2
   rw [h1,h2,key ks fun _ h=>h]
def selE (E:List Int) (f g:Int→List UInt8) (i:Int):List UInt8:=if i∈E then g i else f i
theorem words_run {S:T} (oS:okT S=true) {ka kb ta tb:Int→List UInt8} (hka:∀ i∈S.ids,(nameL (ka i)=true∧textL (ta i)=true)∧nameL (kb i)=true∧textL (tb i)=true):∀ (P:List (T × T)) (E:List Int),(E++keptOf P).Nodup →
  (∀ p∈P,p.2.id∈S.ids∧ka p.2.id=p.1.kind∧ta p.2.id=p.1.text∧kb p.2.id=p.2.kind∧tb p.2.id=p.2.text)→runS (S.rel (selE E ka kb) (selE E ta tb)) (P.flatMap wordsOf)=some (S.rel (selE (E++keptOf P) ka kb) (selE (E++keptOf P) ta tb))
 | [],E,_,_=>by simp [keptOf,runS]
 | p::P,E,hn,h=>by
   obtain ⟨p1,p2,p3,p4,p5⟩:=h p List.mem_cons_self
   have nS:=((okT_iff' S).1 oS).2.1
   have hk:keptOf (p::P)=p.2.id::keptOf P:=rfl
   rw [hk] at hn ⊢
   have hx:p.2.id∉E:=fun hc=>(List.nodup_append.1 hn).2.2 _ hc _ List.mem_cons_self rfl
   have e:E++p.2.id::keptOf P=(E++[p.2.id])++keptOf P:=by simp
   rw [e] at hn ⊢
   have hrec:=words_run oS hka P (E++[p.2.id]) hn fun q hq=>h q (List.mem_cons_of_mem _ hq)
   have hok:∀ F G,okT (S.rel (selE F ka kb) (selE G ta tb))=true:=fun F G=>okT_rel oS fun i hi=>by
    obtain ⟨⟨h1,h2⟩,h3,h4⟩:=hka i hi
    unfold selE
    refine ⟨?_,?_⟩
    · split <;> assumption
    · split <;> assumption
   have hsel:∀ (f g:Int→List UInt8) (i:Int),i≠p.2.id→selE E f g i=selE (E++[p.2.id]) f g i:=fun f g i hi=>by
    unfold selE
    by_cases hm:i∈E
    · rw [if_pos hm,if_pos (List.mem_append_left _ hm)]
    · rw [if_neg hm,if_neg fun hc=>by
       rcases List.mem_append.1 hc with hc | hc
       · exact hm hc
       · exact hi (List.mem_singleton.1 hc)]
   have hat:∀ (f g:Int→List UInt8),selE E f g p.2.id=f p.2.id∧selE (E++[p.2.id]) f g p.2.id=g p.2.id:=fun f g=>by
    unfold selE
    rw [if_neg hx,if_pos (List.mem_append_right _ List.mem_cons_self)]
    exact ⟨rfl,rfl⟩
   have hall:∀ (f g:Int→List UInt8),f p.2.id=g p.2.id→selE E f g=selE (E++[p.2.id]) f g:=fun f g hfg=>by
    funext i
    by_cases hi:i=p.2.id
    · subst hi; rw [(hat f g).1,(hat f g).2,hfg]
    · exact hsel f g i hi
   have s1:runS (S.rel (selE E ka kb) (selE E ta tb)) (if p.1.kind≠p.2.kind then [⟨4,p.2.id,0,TZ,p.2.kind⟩] else [])=some (S.rel (selE (E++[p.2.id]) ka kb) (selE E ta tb)):=by
    by_cases hd:p.1.kind=p.2.kind
    · rw [if_neg (by simp [hd]),hall ka kb (by rw [p2,p4,hd])]; rfl
    · rw [if_pos hd,runS,do_word (.inr ⟨rfl,by rw [(hat ka kb).2,p4],rfl⟩) p1 nS (fun i hi=>⟨hsel ka kb i hi,rfl⟩) (hok _ _)]
      rfl
   have s2:runS (S.rel (selE (E++[p.2.id]) ka kb) (selE E ta tb)) (if p.1.text≠p.2.text then [⟨3,p.2.id,0,TZ,p.2.text⟩] else [])=some (S.rel (selE (E++[p.2.id]) ka kb) (selE (E++[p.2.id]) ta tb)):=by
    by_cases hd:p.1.text=p.2.text
    · rw [if_neg (by simp [hd]),hall ta tb (by rw [p3,p5,hd])]; rfl
    · rw [if_pos hd,runS,do_word (.inl ⟨rfl,by rw [(hat ta tb).2,p5],rfl⟩) p1 nS (fun i hi=>⟨rfl,hsel ta tb i hi⟩) (hok _ _)]
      rfl
   rw [List.flatMap_cons]
   unfold wordsOf
   rw [List.append_assoc,runS_append _ _ _ _ s1,runS_append _ _ _ _ s2]
   exact hrec
end Go.Cod
namespace Go.Cod
open Go Go.Proofs
set_option linter.all false
set_option maxRecDepth 10000
def kdOf (t:T) (i:Int):List UInt8:=match fT t i with
 | some s=>s.kind
 | none=>[]
def txOf (t:T) (i:Int):List UInt8:=match fT t i with
 | some s=>s.text
 | none=>[]
theorem words_ok {t:T} (h:okT t=true) {i:Int} (hi:i∈t.ids):nameL (kdOf t i)=true∧textL (txOf t i)=true:=by
 unfold kdOf txOf
 cases hs:fT t i with
 | none=>exact absurd hi ((fT_none t i).1 hs)
 | some s =>
   have hp:=(fT_spec t i s hs).2.2 1 ((okT_iff' t).1 h).1
   obtain ⟨a,b,c,d⟩:=s
   simp only [plainT,Bool.and_eq_true] at hp
   exact ⟨hp.1.1.2,hp.1.2⟩
theorem kept_subl:∀ i w:T,(keptOf (pairsT w i)).Sublist i.ids:=by
 intro i
 induction i using T.ind with
 | h id kd tx ks ih =>
   intro w
   rw [pairsT_eq,ids_eq]
   refine List.Sublist.cons_cons _ ?_
   show (keptOf (pairsL w _ ks)).Sublist (T.idsL ks)
   generalize commonT (w,T.mk id kd tx ks)=c
   clear id kd tx
   induction ks with
   | nil=>exact .refl _
   | cons k ks ihl =>
     simp only [pairsL,keptOf,List.map_append,T.idsL]
     refine List.Sublist.append ?_ (ihl fun s hs=>ih s (List.mem_cons_of_mem _ hs))
     split
     · exact ih k List.mem_cons_self _
     · exact List.nil_sublist _
theorem phase_word {a b:T} (oa:okT a=true) (ob:okT b=true) (hab:a.id=b.id):runS (a.cutS (NK a b)) ((pairsT a b).flatMap wordsOf)=some (b.cutS (NK a b)):=by
 have ha:=((okT_iff' a).1 oa).2.1
 have hb:=((okT_iff' b).1 ob).2.1
 have oS:=okT_cutS ob (NK a b)
 have hpf:∀ p∈pairsT a b,kdOf a p.2.id=p.1.kind∧txOf a p.2.id=p.1.text∧kdOf b p.2.id=p.2.kind∧txOf b p.2.id=p.2.text:=fun p hp=>by
  obtain ⟨w,i⟩:=p
  obtain ⟨f1,f2⟩:=pairs_find b a w i ha hb hp
  rw [(pairs_ids ha hb hab hp).1] at f1
  unfold kdOf txOf
  simp only
  rw [f1,f2]
  exact ⟨rfl,rfl,rfl,rfl⟩
 have e1:=rel_cut_was ha hb hab (κ:=kdOf a) (τ:=txOf a) (fun p hp=>⟨(hpf p hp).1,(hpf p hp).2.1⟩) b a (pairs_self a b)
 have hids:(b.cutS (NK a b)).ids=(a.cutS (NK a b)).ids:=by rw [← e1,rel_ids]
 have hrun:=words_run oS (ka:=kdOf a) (kb:=kdOf b) (ta:=txOf a) (tb:=txOf b) (fun i hi=>⟨words_ok oa ((cutS_ids _ a).subset (hids ▸ hi)),words_ok ob ((cutS_ids _ b).subset hi)⟩) (pairsT a b) [] (by rw [List.nil_append]; exact (kept_subl b a).nodup hb) fun p hp=>by
  obtain ⟨h1,h2,h3,h4⟩:=hpf p hp
  refine ⟨?_,h1,h2,h3,h4⟩
  obtain ⟨w,i⟩:=p
  have:=(pairs_reach ha hb hab hp).2.find hb
  exact Decidable.byContradiction fun hc=>by rw [(fT_none _ _).2 hc] at this; cases this
 have s0:∀ f g,selE [] f g=f:=fun f g=>by funext i; unfold selE; rw [if_neg (by simp)]
 rw [s0,s0,e1,List.nil_append] at hrun
 rw [hrun]
 refine congrArg some (rel_cut_is ha hb hab (fun p hp=>?_) b a (pairs_self a b))
 obtain ⟨h1,h2,h3,h4⟩:=hpf p hp
 have hm:p.2.id∈keptOf (pairsT a b):=List.mem_map.2 ⟨p,hp,rfl⟩
 unfold selE
 rw [if_pos hm,if_pos hm]
 exact ⟨h3,h4⟩
mutual
def pidsT (K:Int→Bool):T→List Int
 | .mk _ _ _ kids=>pidsL K kids
def pidsL (K:Int→Bool):List T→List Int
 | []=>[]
 | k::ks=>(if K k.id then pidsT K k else [k.id])++pidsL K ks
end
mutual
theorem pids_of (K:Int→Bool):∀ t:T,∀ x∈pidsT K t,K x=false∧x∈T.idsL t.kids
 | .mk _ _ _ kids,x,h=>by
   rw [pidsT] at h
   exact pidsL_of K kids x h
theorem pidsL_of (K:Int→Bool):∀ ks:List T,∀ x∈pidsL K ks,K x=false∧x∈T.idsL ks
 | [],x,h=>by simp [pidsL] at h
 | k::ks,x,h=>by
   rw [pidsL,List.mem_append] at h
   simp only [T.idsL,List.mem_append]
   rcases h with h | h
   · cases hk:K k.id with
     | true =>
       rw [hk,if_pos rfl] at h
       obtain ⟨h1,h2⟩:=pids_of K k x h
       exact ⟨h1,.inl (by rw [ids_eq]; exact List.mem_cons_of_mem _ h2)⟩
     | false =>
       rw [hk,if_neg (by simp),List.mem_singleton] at h
       subst h; exact ⟨hk,.inl k.id_mem⟩
   · obtain ⟨h1,h2⟩:=pidsL_of K ks x h
     exact ⟨h1,.inr h2⟩
end
theorem pidsL_in {K:Int→Bool}:∀ {ks:List T} {k:T},k∈ks→(K k.id=false→k.id∈pidsL K ks)∧(K k.id=true→∀ x∈pidsT K k,x∈pidsL K ks)
 | s::ks,k,h=>by
   rw [pidsL]
   rcases List.mem_cons.1 h with rfl | h
   · refine ⟨fun hk=>?_,fun hk x hx=>?_⟩
     · rw [hk]; simp
     · rw [hk,if_pos rfl]; exact List.mem_append_left _ hx
   · obtain ⟨h1,h2⟩:=pidsL_in (K:=K) h
     exact ⟨fun hk=>List.mem_append_right _ (h1 hk),fun hk x hx=>List.mem_append_right _ (h2 hk x hx)⟩
theorem cut_pids (K:Int→Bool) (D:Int→Bool):∀ t:T,(∀ x∈pidsT K t,D x=true)→(∀ x∈T.idsL t.kids,D x=true→K x=false)→t.cutS D=t.cutS fun i=>!K i:=by
 intro t
 induction t using T.ind with
 | h id kd tx ks ih =>
   intro h1 h2
   simp only [T.cutS]
   congr 1
   refine cutSL_congr fun s hs=>?_
   obtain ⟨q1,q2⟩:=pidsL_in (K:=K) hs
   have hin:∀ x∈s.ids,x∈T.idsL ks:=kid_in hs
   cases hk:K s.id with
   | false=>exact ⟨h1 _ (q1 hk),fun hc=>absurd ((h1 _ (q1 hk)).symm.trans hc) (by simp)⟩
   | true =>
     have hd:D s.id=false:=by
      cases e:D s.id with
      | false=>rfl
      | true=>rw [h2 _ (hin _ s.id_mem) e] at hk; cases hk
     refine ⟨hd,fun _=>ih s hs (fun x hx=>h1 x (q2 hk x hx)) fun x hx=>h2 x (hin x (by rw [ids_eq]; exact List.mem_cons_of_mem _ hx))⟩
theorem do_putStp {t x k:T} {id:Int} {n:Nat} (hf:fT t id=some x) (hn:n≤x.kids.length) (hk:okT k=true) {y:T} (hy:t.mapAt id (putKidT n k)=y) (ho:okT y=true):doT t ⟨1,id,n,k,[]⟩=some y:=by
 have he:editT t ⟨1,id,n,k,[]⟩=some y:=by
  unfold editT
  simp only
  rw [hf]
  simp only
  rw [show bareT ⟨1,id,n,k,[]⟩=true from rfl,if_neg (by simp),if_pos trivial,if_pos ⟨by omega,by omega,hk⟩,Int.toNat_natCast,hy]
 unfold doT
 rw [he]
 simp only [ho,if_true]
theorem puts_run {b:T} (ob:okT b=true) (K:Int→Bool):∀ t:T,Rch (fun i=>!K i) b t→∀ rest:List Int,(∀ x∈rest,K x=false)→(∀ x∈rest,x∉t.ids)→runS (b.cutS (inL (pidsT K t++rest))) (putsT K t)=some (b.cutS (inL rest)):=by
 have hb:=((okT_iff' b).1 ob).2.1
 intro t
 induction t using T.ind with
 | h id kd tx ks ih =>
   intro hr rest r1 r2
   rw [putsT,pidsT]
   have nt:(T.mk id kd tx ks).ids.Nodup:=hr.sub.2.nodup hb
   obtain ⟨nk,nid⟩:=kids_nodup nt
   simp only [T.kids] at nk nid
   have hin:∀ {s:T},s∈ks→∀ x∈s.ids,x∈(T.mk id kd tx ks).ids:=fun hs x hx=>by rw [ids_eq]; exact List.mem_cons_of_mem _ (kid_in hs x hx)
   have key:∀ (post pre:List T),ks=pre++post→runS (b.cutS (inL (pidsL K post++rest))) (putsL K id pre.length post)=some (b.cutS (inL rest)):=by
    intro post
    induction post with
    | nil=>intro pre _; rfl
    | cons k post ihp =>
      intro pre hks
      have hkm:k∈ks:=by rw [hks]; exact List.mem_append_right _ List.mem_cons_self
      have hnext:=ihp (pre++[k]) (by rw [hks]; simp)
      rw [List.length_append,List.length_singleton] at hnext
      have nn:=nk
      rw [hks,T.idsL_append] at nn
      simp only [T.idsL,List.nodup_append,List.mem_append] at nn
      obtain ⟨_,⟨n1,_,n3⟩,n4⟩:=nn
      have hrest:∀ x∈pidsL K post++rest,K x=false∧x∉k.ids∧x∉T.idsL pre:=fun x hx=>by
       rcases List.mem_append.1 hx with hx | hx
       · obtain ⟨q1,q2⟩:=pidsL_of K post x hx
         exact ⟨q1,fun hc=>n3 x hc x q2 rfl,fun hc=>n4 x hc x (.inr q2) rfl⟩
       · refine ⟨r1 x hx,fun hc=>r2 x hx (hin hkm x hc),fun hc=>r2 x hx ?_⟩
         rw [ids_eq]
         refine List.mem_cons_of_mem _ ?_
         show x∈T.idsL ks
         rw [hks,T.idsL_append]
         exact List.mem_append_left _ hc
      rw [putsL,pidsL]
      cases hk:K k.id with
      | true =>
        rw [if_pos rfl,if_pos rfl]
        have h1:=ih k hkm (hr.trans (.kid hkm (by rw [hk]; rfl) (.self k))) (pidsL K post++rest) (fun x hx=>(hrest x hx).1) fun x hx=>(hrest x hx).2.1
        rw [← List.append_assoc] at h1
        rw [runS_append _ _ _ _ h1]
        exact hnext
      | false =>
        rw [if_neg (by simp),if_neg (by simp)]
        have hD:∀ i,inL ([k.id]++pidsL K post++rest) i=true↔i=k.id∨i∈pidsL K post++rest:=fun i=>by
         unfold inL
         rw [decide_eq_true_iff,List.append_assoc]
         simp
        have hE:∀ i,inL (pidsL K post++rest) i=true↔i∈pidsL K post++rest:=fun i=>by unfold inL; rw [decide_eq_true_iff]
        generalize hDD:inL ([k.id]++pidsL K post++rest)=D at *
        generalize hEE:inL (pidsL K post++rest)=E at *
        clear hDD hEE
        have hDE:∀ i,i≠k.id→D i=E i:=fun i hi=>by
         rw [Bool.eq_iff_iff,hD,hE]
         exact ⟨fun h=>h.resolve_left hi,.inr⟩
        have hDr:Rch D b (T.mk id kd tx ks):=hr.mono fun i hi=>by
         rcases (hD i).1 hi with h | h
         · rw [h,hk]; rfl
         · rw [(hrest i h).1]; rfl
        have hkr:fT b k.id=some k:=fT_trans b _ _ _ _ hb (hr.found hb) (fT_down nt hkm (fT_self k))
        have d1:T.cutSL D pre=pre:=cutSL_no fun i hi=>by
         cases e:D i with
         | false=>rfl
         | true =>
           rcases (hD i).1 e with h | h
           · exact absurd (show i=k.id from h) fun e=>n4 i hi k.id (.inl k.id_mem) e
           · exact absurd hi (hrest i h).2.2
        have e1:T.cutSL E pre=pre:=cutSL_no fun i hi=>by
         cases e:E i with
         | false=>rfl
         | true=>exact absurd hi (hrest i ((hE i).1 e)).2.2
        have e2:k.cutS E=k:=cutS_no fun i hi=>by
         cases e:E i with
         | false=>rfl
         | true=>exact absurd (by rw [ids_eq]; exact List.mem_cons_of_mem _ hi) (hrest i ((hE i).1 e)).2.1
        have e3:E k.id=false:=by
         cases e:E k.id with
         | false=>rfl
         | true=>exact absurd k.id_mem (hrest _ ((hE _).1 e)).2.1
        have e4:T.cutSL D post=T.cutSL E post:=cutSL_ext D E post fun i hi=>hDE i fun e=>n3 k.id k.id_mem i hi e.symm
        have dk:D k.id=true:=(hD _).2 (.inl rfl)
        have kd1:((T.mk id kd tx ks).cutS D).kids=pre++T.cutSL E post:=by
         rw [cutS_kids]
         show T.cutSL D ks=_
         rw [hks,cutSL_append,d1,T.cutSL,if_pos dk,e4]
        have kd2:putKidT pre.length k ((T.mk id kd tx ks).cutS D)=(T.mk id kd tx ks).cutS E:=by
         have:∀ s:T,putKidT pre.length k s=.mk s.id s.kind s.text (s.kids.take pre.length++k::s.kids.drop pre.length):=fun s=>by cases s; rfl
         rw [this,kd1]
         simp only [T.cutS,T.id,T.kind,T.text]
         rw [List.take_left,List.drop_left,hks,cutSL_append,e1,T.cutSL,if_neg (by rw [e3]; simp),e2]
        have hf:=hDr.find hb
        have hok:okT k=true:=by
         have hsp:=fT_spec b k.id k hkr
         obtain ⟨o1,o2,o3⟩:=(okT_iff' b).1 ob
         exact (okT_iff' k).2 ⟨hsp.2.2 1 o1,hsp.2.1.nodup o2,Nat.le_trans hsp.2.1.length_le o3⟩
        have hdo:=do_putStp (t:=b.cutS D) (id:=id) (n:=pre.length) (k:=k) hf (by rw [kd1,List.length_append]; omega) hok (hDr.mapAt hb (kid_in hkm _ k.id_mem) hDE kd2) (okT_cutS ob E)
        rw [List.singleton_append,runS,hdo]
        exact hnext
   exact key ks [] rfl
theorem phase_put {a b:T} (ob:okT b=true):runS (b.cutS (NK a b)) (putsT (keptB (pairsT a b)) b)=some b:=by
 have h:=puts_run ob (keptB (pairsT a b)) b (.self b) [] (fun x hx=>by cases hx) fun x hx=>by cases hx
 rw [List.append_nil,cut_pids (keptB (pairsT a b)) (inL (pidsT (keptB (pairsT a b)) b)) b (fun x hx=>decide_eq_true hx) (fun x _ hx=>(pids_of _ b x (of_decide_eq_true hx)).1),cutS_ext (inL []) (fun _=>false) b (fun _ _=>rfl),cutS_none] at h
 exact h
theorem diff_run {a b:T} (oa:okT a=true) (ob:okT b=true) (hab:a.id=b.id):runS a (diffT a b)=some b:=by
 unfold diffT
 rw [runS_append _ _ _ _ (phase_cut oa ob hab),runS_append _ _ _ _ (phase_word oa ob hab)]
 exact phase_put ob
end Go.Cod
namespace Go.Cod
open Go Go.Proofs
set_option maxRecDepth 10000
end Go.Cod
namespace Go.Cod
open Go Go.Proofs
set_option maxRecDepth 10000
def cT (p:Bool) (w:List UInt8):T→T
 | .mk id kind text kids=>match p with
   | true=>.mk id kind w kids
   | false=>.mk id w text kids
def cW (p:Bool) (w:List UInt8):Bool:=match p with
 | true=>textL w
 | false=>nameL w
mutual
theorem T.mapAt_at (i:Int) (f g:T→T):∀ (t:T) (x:T),t.ids.Nodup→fT t i=some x→f x=g x→t.mapAt i f=t.mapAt i g
 | .mk id kind text kids,x,hn,hf,h=>by
   simp only [T.ids,List.nodup_cons] at hn
   simp only [fT] at hf
   by_cases hid:id=i
   · rw [if_pos hid,Option.some.injEq] at hf
     subst hf
     simp only [T.mapAt,if_pos hid,h]
   · rw [if_neg hid] at hf
     simp only [T.mapAt,if_neg hid,T.mapAtL_at i f g kids x hn.2 hf h]
theorem T.mapAtL_at (i:Int) (f g:T→T):∀ (ts:List T) (x:T),(T.idsL ts).Nodup→fL ts i=some x→f x=g x→T.mapAtL i f ts=T.mapAtL i g ts
 | [],_,_,_,_=>rfl
 | t::ts,x,hn,hf,h=>by
   simp only [T.idsL,List.nodup_append] at hn
   simp only [fL] at hf
   simp only [T.mapAtL]
   cases h1:fT t i with
   | some y =>
     rw [h1,Option.some.injEq] at hf
     subst hf
     have hx:i∈t.ids:=by
      refine Decidable.byContradiction fun h=>?_
      rw [(fT_none t i).2 h] at h1; cases h1
     have hx2:i∉T.idsL ts:=fun h2=>hn.2.2 i hx i h2 rfl
     rw [T.mapAt_at i f g t y hn.1 h1 h,T.mapAtL_none i f ts hx2,T.mapAtL_none i g ts hx2]
   | none =>
     rw [h1] at hf
     have hx:=(fT_none t i).1 h1
     rw [T.mapAt_none i f t hx,T.mapAt_none i g t hx,T.mapAtL_at i f g ts x hn.2.1 hf h]
end
mutual
theorem set_ids (i:Int) (p:Bool) (w:List UInt8):∀ t:T,(t.mapAt i (cT p w)).ids=t.ids
 | .mk id kind text kids=>by
   by_cases hid:id=i
   · simp only [T.mapAt,if_pos hid]
     cases p <;> rfl
   · simp only [T.mapAt,if_neg hid,T.ids,set_idsL i p w kids]
theorem set_idsL (i:Int) (p:Bool) (w:List UInt8):∀ ts:List T,T.idsL (T.mapAtL i (cT p w) ts)=T.idsL ts
 | []=>rfl
 | t::ts=>by simp only [T.mapAtL,T.idsL,set_ids i p w t,set_idsL i p w ts]
end
mutual
theorem set_plain (i:Int) (p:Bool) (w:List UInt8) (hw:cW p w=true):∀ (t:T) (lv:Int),plainT t lv=true→plainT (t.mapAt i (cT p w)) lv=true
 | .mk id kind text kids,lv,h=>by
   by_cases hid:id=i
   · simp only [T.mapAt,if_pos hid]
     simp only [plainT,Bool.and_eq_true] at h
     cases p
     · simp only [cT,plainT,Bool.and_eq_true]
       exact ⟨⟨⟨h.1.1.1,hw⟩,h.1.2⟩,h.2⟩
     · simp only [cT,plainT,Bool.and_eq_true]
       exact ⟨⟨h.1.1,hw⟩,h.2⟩
   · simp only [T.mapAt,if_neg hid]
     simp only [plainT,Bool.and_eq_true] at h ⊢
     exact ⟨h.1,set_plainL i p w hw kids (lv+1) h.2⟩
theorem set_plainL (i:Int) (p:Bool) (w:List UInt8) (hw:cW p w=true):∀ (ts:List T) (lv:Int),plainL ts lv=true→plainL (T.mapAtL i (cT p w) ts) lv=true
 | [],_,_=>rfl
 | t::ts,lv,h=>by
   simp only [plainL,Bool.and_eq_true] at h
   simp only [T.mapAtL,plainL,Bool.and_eq_true]
   exact ⟨set_plain i p w hw t lv h.1,set_plainL i p w hw ts lv h.2⟩
end
mutual
theorem set_word (i:Int) (p:Bool) (w:List UInt8):∀ (t:T) (lv:Int),i∈t.ids→plainT (t.mapAt i (cT p w)) lv=true→cW p w=true
 | .mk id kind text kids,lv,hi,h=>by
   by_cases hid:id=i
   · simp only [T.mapAt,if_pos hid] at h
     cases p
     · simp only [cT,plainT,Bool.and_eq_true] at h
       exact h.1.1.2
     · simp only [cT,plainT,Bool.and_eq_true] at h
       exact h.1.2
   · simp only [T.mapAt,if_neg hid] at h
     simp only [plainT,Bool.and_eq_true] at h
     simp only [T.ids,List.mem_cons] at hi
     exact set_wordL i p w kids (lv+1) (hi.resolve_left (Ne.symm hid)) h.2
theorem set_wordL (i:Int) (p:Bool) (w:List UInt8):∀ (ts:List T) (lv:Int),i∈T.idsL ts→plainL (T.mapAtL i (cT p w) ts) lv=true→cW p w=true
 | [],_,hi,_=>by simp [T.idsL] at hi
 | t::ts,lv,hi,h=>by
   simp only [T.mapAtL,plainL,Bool.and_eq_true] at h
   simp only [T.idsL,List.mem_append] at hi
   rcases hi with hi | hi
   · exact set_word i p w t lv hi h.1
   · exact set_wordL i p w ts lv hi h.2
end
theorem edit_set (t:T) (s:Stp) (hn:t.ids.Nodup) (hk:¬ s.kind < 3):editT t s=if s.id∈t.ids∧bareT s=true∧(s.kind=3∨s.kind=4) then some (t.mapAt s.id (cT (decide (s.kind=3)) s.text)) else none:=by
 unfold editT
 cases hf:fT t s.id with
 | none =>
   have hx:=(fT_none t s.id).1 hf
   simp only [hx,false_and,if_false]
 | some x =>
   have hx:s.id∈t.ids:=Decidable.byContradiction fun h=>by rw [(fT_none t s.id).2 h] at hf; cases hf
   simp only
   cases hb:bareT s with
   | false=>rw [if_pos rfl,if_neg fun h=>Bool.noConfusion h.2.1]
   | true =>
     rw [if_neg (by simp),if_neg (by omega),if_neg (by omega)]
     by_cases h3:s.kind=3
     · rw [if_pos h3,if_pos ⟨hx,rfl,.inl h3⟩,decide_eq_true h3]
       exact congrArg some (T.mapAt_at s.id _ _ t x hn hf (by cases x; rfl))
     · rw [if_neg h3]
       by_cases h4:s.kind=4
       · rw [if_pos h4,if_pos ⟨hx,rfl,.inr h4⟩,decide_eq_false h3]
         exact congrArg some (T.mapAt_at s.id _ _ t x hn hf (by cases x; rfl))
       · rw [if_neg h4,if_neg (by rintro ⟨_,_,h | h⟩ <;> contradiction)]
theorem do_set {t y:T} {s:Stp} (hok:okT t=true) (hk:¬ s.kind < 3):doT t s=some y↔s.id∈t.ids∧bareT s=true∧(s.kind=3∨s.kind=4)∧cW (decide (s.kind=3)) s.text=true∧y=t.mapAt s.id (cT (decide (s.kind=3)) s.text):=by
 obtain ⟨h1,h2,h3⟩:=(okT_iff' t).1 hok
 have he:=edit_set t s h2 hk
 constructor
 · intro h
   obtain ⟨h4,h5⟩:=doT_ok h
   rw [he] at h4
   split at h4
   · rename_i hc
     cases h4
     exact ⟨hc.1,hc.2.1,hc.2.2,set_word _ _ _ t 1 hc.1 ((okT_iff' _).1 h5).1,rfl⟩
   · cases h4
 · rintro ⟨h4,h5,h6,h7,rfl⟩
   rw [if_pos ⟨h4,h5,h6⟩] at he
   rw [doT_some he]
   unfold okO
   rw [if_pos]
   refine (okT_iff' _).2 ?_
   rw [set_ids]
   exact ⟨set_plain _ _ _ h7 t 1 h1,h2,h3⟩
end Go.Cod
namespace Go.Cod
open Go Go.Proofs
set_option maxRecDepth 10000
mutual
theorem T.mapAt_comp (i:Int) (f g:T→T) (hf:∀ s:T,s.id=i→(f s).id=i):∀ t:T,(t.mapAt i f).mapAt i g=t.mapAt i (fun s=>g (f s))
 | .mk id kind text kids=>by
   by_cases hid:id=i
   · have h:=hf (.mk id kind text kids) hid
     simp only [T.mapAt,if_pos hid]
     cases hs:f (.mk id kind text kids) with
     | mk a b c d =>
       rw [hs] at h
       have h:a=i:=h
       simp only [T.mapAt,if_pos h]
   · simp only [T.mapAt,if_neg hid,T.mapAtL_comp i f g hf kids]
theorem T.mapAtL_comp (i:Int) (f g:T→T) (hf:∀ s:T,s.id=i→(f s).id=i):∀ ts:List T,T.mapAtL i g (T.mapAtL i f ts)=T.mapAtL i (fun s=>g (f s)) ts
 | []=>rfl
 | t::ts=>by simp only [T.mapAtL,T.mapAt_comp i f g hf t,T.mapAtL_comp i f g hf ts]
end
mutual
theorem T.mapAt_same (i:Int):∀ t:T,t.mapAt i (fun s=>s)=t
 | .mk id kind text kids=>by
   by_cases hid:id=i
   · simp only [T.mapAt,if_pos hid]
   · simp only [T.mapAt,if_neg hid,T.mapAtL_same i kids]
theorem T.mapAtL_same (i:Int):∀ ts:List T,T.mapAtL i (fun s=>s) ts=ts
 | []=>rfl
 | t::ts=>by simp only [T.mapAtL,T.mapAt_same i t,T.mapAtL_same i ts]
end
theorem T.mapAt_undo (i:Int) (f g:T→T) (t s:T) (hn:t.ids.Nodup) (h:fT t i=some s) (hf:∀ s:T,s.id=i→(f s).id=i) (hs:g (f s)=s):(t.mapAt i f).mapAt i g=t:=by
 rw [T.mapAt_comp i f g hf t,T.mapAt_at i (fun s=>g (f s)) (fun s=>s) t s hn h hs,T.mapAt_same]
def wordT (p:Bool):T→List UInt8
 | .mk _ kind text _=>match p with
   | true=>text
   | false=>kind
theorem set_undo (i:Int) (p:Bool) (w:List UInt8) (t s:T) (hn:t.ids.Nodup) (h:fT t i=some s):(t.mapAt i (cT p w)).mapAt i (cT p (wordT p s))=t:=by
 refine T.mapAt_undo i _ _ t s hn h (fun s hs=>?_) ?_
 · cases s; cases p <;> exact hs
 · cases s; cases p <;> rfl
mutual
theorem word_ok (p:Bool) (i:Int):∀ (t s:T) (lv:Int),plainT t lv=true→fT t i=some s→cW p (wordT p s)=true
 | .mk id kind text kids,s,lv,h,hf=>by
   simp only [plainT,Bool.and_eq_true] at h
   simp only [fT] at hf
   split at hf
   · cases hf
     cases p
     · exact h.1.1.2
     · exact h.1.2
   · exact word_okL p i kids s (lv+1) h.2 hf
theorem word_okL (p:Bool) (i:Int):∀ (ts:List T) (s:T) (lv:Int),plainL ts lv=true→fL ts i=some s→cW p (wordT p s)=true
 | [],_,_,_,hf=>by cases hf
 | t::ts,s,lv,h,hf=>by
   simp only [plainL,Bool.and_eq_true] at h
   simp only [fL] at hf
   split at hf
   · rename_i s' h3
     cases hf
     exact word_ok p i t s lv h.1 h3
   · exact word_okL p i ts s lv h.2 hf
end
mutual
theorem put_undo (i x:Int) (n:Nat) (y:T) (hy:y.id=x):∀ t:T,x∉t.ids→(t.mapAt i (putKidT n y)).cut x=t
 | .mk id kind text kids,hx=>by
   simp only [T.ids,List.mem_cons,not_or] at hx
   by_cases hid:id=i
   · simp only [T.mapAt,if_pos hid,putKidT,T.cut]
     have h1:T.cutL x (kids.take n++y::kids.drop n)=kids:=by
      rw [T.cutL_append]
      simp only [T.cutL,if_pos hy]
      rw [← T.cutL_append,List.take_append_drop]
      exact T.cutL_none x kids hx.2
     rw [h1]
   · simp only [T.mapAt,if_neg hid,T.cut]
     rw [put_undoL i x n y hy kids hx.2]
theorem put_undoL (i x:Int) (n:Nat) (y:T) (hy:y.id=x):∀ ts:List T,x∉T.idsL ts→T.cutL x (T.mapAtL i (putKidT n y) ts)=ts
 | [],_=>rfl
 | t::ts,hx=>by
   simp only [T.idsL,List.mem_append,not_or] at hx
   have h1:¬ (t.mapAt i (putKidT n y)).id=x:=by
    have h2:(t.mapAt i (putKidT n y)).id=t.id:=by
     cases t with
     | mk id kind text kids =>
     simp only [T.mapAt]
     split <;> rfl
    rw [h2]
    intro h
    apply hx.1
    cases t with
    | mk id kind text kids =>
    have h:id=x:=h
    simp [T.ids,h]
   simp only [T.mapAtL,T.cutL,if_neg h1,put_undo i x n y hy t hx.1,put_undoL i x n y hy ts hx.2]
end
theorem cut_undo (x p:Int) (t s k:T) (n:Nat) (hn:t.ids.Nodup) (h:fT t p=some s) (hk:s.kids[n]? = some k) (hx:s.kids.eraseIdx n=(cutKidT x s).kids) (hm:x∈s.kids.map T.id) (hid:∀ s:T,(cutKidT x s).id=s.id) (hsame:∀ s:T,(cutKidT x s).kind=s.kind∧(cutKidT x s).text=s.text):(t.cut x).mapAt p (putKidT n k)=t:=by
 rw [T.cut_map x p t s hn h hm]
 refine T.mapAt_undo p _ _ t s hn h (fun s hs=>(hid s).trans hs) ?_
 have h1:=hid s
 have h2:=hsame s
 cases hc:cutKidT x s with
 | mk a b c d =>
   rw [hc] at h1 h2 hx
   cases s with
   | mk id kind text kids =>
     simp only [T.id,T.kind,T.text,T.kids] at h1 h2 hx hk
     obtain ⟨rfl,rfl⟩:=h2
     subst h1
     simp only [putKidT]
     congr 1
     rw [← hx]
     have hl:n < kids.length:=(List.getElem?_eq_some_iff.1 hk).1
     have hg:kids[n]=k:=(List.getElem?_eq_some_iff.1 hk).2
     rw [List.eraseIdx_eq_take_drop_succ]
     have h3:(kids.take n).length=n:=by rw [List.length_take]; omega
     rw [List.take_append_of_le_length (by omega),List.take_of_length_le (by omega)]
     rw [List.drop_append_of_le_length (by omega),List.drop_of_length_le (by omega),List.nil_append]
     rw [← hg,List.getElem_cons_drop,List.take_append_drop]
end Go.Cod
namespace Go.Cod
open Go Go.Proofs
set_option maxRecDepth 10000
def kidOf (t:T) (p:Int):T:=(fT t p).getD TZ
def place0 (x:Int) (ts:List T):Int:=if placeGo x 0 ts < 0 then 0 else placeGo x 0 ts
end Go.Cod
namespace Go.Cod
open Go Go.Proofs
set_option maxRecDepth 10000
def backS (t:T) (s:Stp):Stp :=
 if s.kind=1 then ⟨2,s.node.id,0,TZ,[]⟩
 else if s.kind=2 then ⟨1,overT t s.id 0,place0 s.id (kidOf t (overT t s.id 0)).kids,kidOf t s.id,[]⟩
 else if s.kind=3 then ⟨3,s.id,0,TZ,(kidOf t s.id).text⟩
 else ⟨4,s.id,0,TZ,(kidOf t s.id).kind⟩
def SZ:Stp:=⟨0,0,0,TZ,[]⟩
def backT (t:T) (s:Stp):Stp × Bool:=if okT t=true then (match doT t s with
 | some _=>(backS t s,true)
 | none=>(SZ,false)) else (SZ,false)
theorem kidOf_small {t:T} (ht:t.Small) (x:Int):(kidOf t x).Small:=by
 unfold kidOf
 cases h:fT t x with
 | none=>exact TZ_small
 | some s=>exact fT_small t x ht s h
end Go.Cod
namespace Go.Cod
open Go Go.Proofs
set_option maxRecDepth 10000
theorem idsL_put (n:Nat) (y:T) (ts:List T) (z:Int):(T.idsL (ts.take n++y::ts.drop n)).count z=(T.idsL ts).count z+y.ids.count z:=by
 have h:(T.idsL ts).count z=(T.idsL (ts.take n)).count z+(T.idsL (ts.drop n)).count z:=by
  rw [← List.count_append,← T.idsL_append,List.take_append_drop]
 rw [T.idsL_append,List.count_append,h]
 simp only [T.idsL,List.count_append]
 omega
mutual
theorem put_count (i:Int) (n:Nat) (y:T) (z:Int):∀ (t s:T),t.ids.Nodup→fT t i=some s→(t.mapAt i (putKidT n y)).ids.count z=t.ids.count z+y.ids.count z
 | .mk id kind text kids,s,hn,h=>by
   simp only [T.ids,List.nodup_cons] at hn
   simp only [fT] at h
   by_cases hid:id=i
   · simp only [T.mapAt,if_pos hid,putKidT,T.ids,List.count_cons,idsL_put]
     omega
   · rw [if_neg hid] at h
     have:=put_countL i n y z kids s hn.2 h
     simp only [T.mapAt,if_neg hid,T.ids,List.count_cons,this]
     omega
theorem put_countL (i:Int) (n:Nat) (y:T) (z:Int):∀ (ts:List T) (s:T),(T.idsL ts).Nodup→fL ts i=some s→(T.idsL (T.mapAtL i (putKidT n y) ts)).count z=(T.idsL ts).count z+y.ids.count z
 | [],_,_,h=>by cases h
 | t::ts,s,hn,h=>by
   simp only [T.idsL,List.nodup_append] at hn
   simp only [fL] at h
   simp only [T.mapAtL,T.idsL,List.count_append]
   cases h1:fT t i with
   | some s' =>
     have hx:i∈t.ids:=by
      refine Decidable.byContradiction fun h=>?_
      rw [(fT_none t i).2 h] at h1; cases h1
     have hx2:i∉T.idsL ts:=fun h2=>hn.2.2 i hx i h2 rfl
     rw [put_count i n y z t s' hn.1 h1,T.mapAtL_none i _ ts hx2]
     omega
   | none =>
     rw [h1] at h
     rw [T.mapAt_none i _ t ((fT_none t i).1 h1),put_countL i n y z ts s hn.2.1 h]
     omega
end
theorem mapAt_putId (i:Int) (n:Nat) (y t:T):(t.mapAt i (putKidT n y)).id=t.id:=by
 cases t with
 | mk id kind text kids =>
 simp only [T.mapAt]
 split <;> rfl
theorem mem_of_fT {t s:T} {i:Int} (h:fT t i=some s):i∈t.ids:=Decidable.byContradiction fun hc=>by rw [(fT_none t i).2 hc] at h; cases h
theorem fT_of_mem {t:T} {i:Int} (h:i∈t.ids):∃ s,fT t i=some s:=by
 cases hf:fT t i with
 | some s=>exact ⟨s,rfl⟩
 | none=>exact absurd h ((fT_none t i).1 hf)
theorem bare_back (k id:Int) (hk:k≠1) (w:List UInt8) (hw:k=2→w=[]):bareT ⟨k,id,0,TZ,w⟩=true:=by
 unfold bareT
 simp only [if_neg hk]
 by_cases h2:k=2
 · rw [if_pos h2,hw h2]; rfl
 · rw [if_neg h2]; rfl
theorem back_set {t y:T} {s:Stp} (hok:okT t=true) (hd:doT t s=some y) (hk:¬ s.kind < 3):doT y (backS t s)=some t:=by
 obtain ⟨h1,h2,h3,h4,h5⟩:=(do_set hok hk).1 hd
 obtain ⟨p1,p2,p3⟩:=(okT_iff' t).1 hok
 have hoky:=(doT_ok hd).2
 obtain ⟨x,hx⟩:=fT_of_mem h1
 have hkx:kidOf t s.id=x:=by unfold kidOf; rw [hx]; rfl
 have hb:backS t s=⟨s.kind,s.id,0,TZ,wordT (decide (s.kind=3)) x⟩:=by
  unfold backS
  rw [if_neg (by omega),if_neg (by omega),hkx]
  cases x
  rcases h3 with h3 | h3
  · rw [if_pos h3,decide_eq_true h3,h3]; rfl
  · rw [if_neg (by omega),decide_eq_false (by omega),h3]; rfl
 rw [hb]
 refine (do_set (s:=⟨s.kind,s.id,0,TZ,wordT (decide (s.kind=3)) x⟩) hoky hk).2 ⟨?_,bare_back _ _ (by omega) _ (by omega),h3,word_ok _ s.id t x 1 p1 hx,?_⟩
 · rw [h5,set_ids]; exact h1
 · rw [h5]; exact (set_undo s.id _ s.text t x p2 hx).symm
theorem back_put {t y:T} {s:Stp} (hok:okT t=true) (hd:doT t s=some y) (hk:s.kind=1):doT y (backS t s)=some t:=by
 obtain ⟨h1,h2⟩:=doT_ok hd
 obtain ⟨p1,p2,p3⟩:=(okT_iff' t).1 hok
 obtain ⟨q1,q2,q3⟩:=(okT_iff' y).1 h2
 unfold editT at h1
 cases hf:fT t s.id with
 | none=>rw [hf] at h1; cases h1
 | some x =>
   rw [hf] at h1
   simp only at h1
   split at h1
   · cases h1
   split at h1
   · cases h1
     have hc:=fun z=>put_count s.id s.at_.toNat s.node z t x p2 hf
     have hm:s.node.id∈s.node.ids:=s.node.id_mem
     have hnt:s.node.id∉t.ids:=fun h=>by
      have h3:=hc s.node.id
      have h4:=List.nodup_iff_count.1 q2 s.node.id
      have h5:=List.count_pos_iff.2 h
      have h6:=List.count_pos_iff.2 hm
      omega
     have hy:s.node.id∈(t.mapAt s.id (putKidT s.at_.toNat s.node)).ids:=by
      refine List.count_pos_iff.1 ?_
      rw [hc]
      have h6:=List.count_pos_iff.2 hm
      omega
     have hb:backS t s=⟨2,s.node.id,0,TZ,[]⟩:=by unfold backS; rw [if_pos hk]
     rw [hb]
     obtain ⟨z,hz⟩:=fT_of_mem hy
     have he:editT (t.mapAt s.id (putKidT s.at_.toNat s.node)) ⟨2,s.node.id,0,TZ,[]⟩=some t:=by
      unfold editT
      simp only [hz]
      rw [bare_back 2 s.node.id (by omega) [] (fun _=>rfl),if_neg (by simp),if_neg (by omega),if_pos trivial,mapAt_putId,if_neg (fun e:s.node.id=t.id=>hnt (by rw [e]; exact t.id_mem)),put_undo s.id s.node.id s.at_.toNat s.node rfl t hnt]
     rw [doT_some he]
     unfold okO
     rw [if_pos hok]
   · cases h1
end Go.Cod
namespace Go.Cod
open Go Go.Proofs
set_option maxRecDepth 10000
mutual
theorem fT_ofKid:∀ (t s k:T) (p:Int),t.ids.Nodup→fT t p=some s→k∈s.kids→fT t k.id=some k
 | .mk id kind text kids,s,k,p,hn,h,hk=>by
   have hn':=hn
   simp only [T.ids,List.nodup_cons] at hn
   simp only [fT] at h
   split at h
   · cases h
     have hk:k∈kids:=hk
     have hm:k.id∈T.idsL kids:=idsL_kid (List.mem_map.2 ⟨k,hk,rfl⟩)
     have hne:¬ id=k.id:=fun e=>hn.1 (by rw [e]; exact hm)
     simp only [fT,if_neg hne]
     exact fL_mem kids k hn.2 hk
   · have hm:k.id∈T.idsL kids:=fL_kid kids p k.id s h (List.mem_map.2 ⟨k,hk,rfl⟩)
     have hne:¬ id=k.id:=fun e=>hn.1 (by rw [e]; exact hm)
     simp only [fT,if_neg hne]
     exact fL_ofKid kids s k p hn.2 h hk
theorem fL_ofKid:∀ (ts:List T) (s k:T) (p:Int),(T.idsL ts).Nodup→fL ts p=some s→k∈s.kids→fL ts k.id=some k
 | [],_,_,_,_,h,_=>by cases h
 | t::ts,s,k,p,hn,h,hk=>by
   simp only [T.idsL,List.nodup_append] at hn
   simp only [fL] at h ⊢
   cases h1:fT t p with
   | some s' =>
     rw [h1] at h
     cases h
     rw [fT_ofKid t s k p hn.1 h1 hk]
   | none =>
     rw [h1] at h
     have h2:=fL_ofKid ts s k p hn.2.1 h hk
     have hm:k.id∈T.idsL ts:=Decidable.byContradiction fun hc=>by rw [(fL_none ts k.id).2 hc] at h2; cases h2
     have h3:k.id∉t.ids:=fun hc=>hn.2.2 k.id hc k.id hm rfl
     rw [(fT_none t k.id).2 h3]
     exact h2
theorem fL_mem:∀ (ts:List T) (k:T),(T.idsL ts).Nodup→k∈ts→fL ts k.id=some k
 | [],_,_,h=>by cases h
 | t::ts,k,hn,h=>by
   simp only [T.idsL,List.nodup_append] at hn
   simp only [fL]
   rcases List.mem_cons.1 h with rfl | h
   · cases k with
     | mk a b c d =>
     have:fT (T.mk a b c d) (T.mk a b c d).id=some (.mk a b c d):=by
      simp only [fT,T.id,if_true]
     rw [this]
   · have hm:k.id∈T.idsL ts:=idsL_kid (List.mem_map.2 ⟨k,h,rfl⟩)
     have h3:k.id∉t.ids:=fun hc=>hn.2.2 k.id hc k.id hm rfl
     rw [(fT_none t k.id).2 h3]
     exact fL_mem ts k hn.2.1 h
end
end Go.Cod
namespace Go.Cod
open Go Go.Proofs
set_option maxRecDepth 10000
mutual
theorem overT_no:∀ (t:T) (x ov:Int),x∉t.ids→overT t x ov=-1
 | .mk id kind text kids,x,ov,h=>by
   simp only [T.ids,List.mem_cons,not_or] at h
   simp only [overT,if_neg (Ne.symm h.1)]
   exact overL_no kids x id h.2
theorem overL_no:∀ (ts:List T) (x ov:Int),x∉T.idsL ts→overL ts x ov=-1
 | [],_,_,_=>rfl
 | t::ts,x,ov,h=>by
   simp only [T.idsL,List.mem_append,not_or] at h
   simp only [overL,overT_no t x ov h.1]
   rw [if_neg (by omega)]
   exact overL_no ts x ov h.2
end
mutual
theorem overT_kid:∀ (t:T) (x ov:Int),t.ids.Nodup→(∀ i∈t.ids,0≤i)→x∈T.idsL t.kids→0≤overT t x ov∧∃ s k,fT t (overT t x ov)=some s∧k∈s.kids∧k.id=x
 | .mk id kind text kids,x,ov,hn,hp,hx=>by
   have hx:x∈T.idsL kids:=hx
   have hn':=hn
   simp only [T.ids,List.nodup_cons] at hn
   have hne:¬ id=x:=fun e=>hn.1 (e ▸ hx)
   have h0:0≤id:=hp id (by simp [T.ids])
   simp only [overT,if_neg hne]
   rcases overL_kid kids x id hn.2 (fun i h=>hp i (by simp [T.ids,h])) h0 hx with ⟨h1,k,h2,h3⟩ | ⟨h0',s,k,h1,h2,h3⟩
   · rw [h1]
     exact ⟨h0,.mk id kind text kids,k,by simp only [fT,if_true],h2,h3⟩
   · have h4:overL kids x id∈T.idsL kids:=Decidable.byContradiction fun hc=>by rw [(fL_none kids _).2 hc] at h1; cases h1
     have h5:¬ id=overL kids x id:=fun e=>hn.1 (by rw [e]; exact h4)
     exact ⟨h0',s,k,by simp only [fT,if_neg h5]; exact h1,h2,h3⟩
theorem overL_kid:∀ (ts:List T) (x ov:Int),(T.idsL ts).Nodup→(∀ i∈T.idsL ts,0≤i)→0≤ov→x∈T.idsL ts→(overL ts x ov=ov∧∃ k∈ts,k.id=x)∨(0≤overL ts x ov∧∃ s k,fL ts (overL ts x ov)=some s∧k∈s.kids∧k.id=x)
 | [],_,_,_,_,_,h=>by simp [T.idsL] at h
 | t::ts,x,ov,hn,hp,h0,hx=>by
   simp only [T.idsL,List.nodup_append] at hn
   have hp1:∀ i∈t.ids,0≤i:=fun i h=>hp i (by simp [T.idsL,h])
   have hp2:∀ i∈T.idsL ts,0≤i:=fun i h=>hp i (by simp [T.idsL,h])
   simp only [T.idsL,List.mem_append] at hx
   simp only [overL]
   by_cases hxt:x∈t.ids
   · by_cases he:t.id=x
     · have h1:overT t x ov=ov:=by
        cases t with
        | mk id kind text kids =>
        have he:id=x:=he
        simp only [overT,if_pos he]
       rw [h1,if_pos h0]
       exact .inl ⟨rfl,t,List.mem_cons_self ..,he⟩
     · have hk:x∈T.idsL t.kids:=by
        cases t with
        | mk id kind text kids =>
        simp only [T.ids,List.mem_cons] at hxt
        exact hxt.resolve_left (fun e=>he e.symm)
       obtain ⟨h1,s,k,h2,h3,h4⟩:=overT_kid t x ov hn.1 hp1 hk
       rw [if_pos h1]
       exact .inr ⟨h1,s,k,by simp only [fL,h2],h3,h4⟩
   · have hx2:x∈T.idsL ts:=hx.resolve_left hxt
     rw [overT_no t x ov hxt,if_neg (by omega)]
     rcases overL_kid ts x ov hn.2.1 hp2 h0 hx2 with ⟨h1,k,h2,h3⟩ | ⟨h0',s,k,h1,h2,h3⟩
     · exact .inl ⟨h1,k,List.mem_cons_of_mem _ h2,h3⟩
     · have h4:overL ts x ov∈T.idsL ts:=Decidable.byContradiction fun hc=>by rw [(fL_none ts _).2 hc] at h1; cases h1
       have h5:overL ts x ov∉t.ids:=fun hc=>hn.2.2 _ hc _ h4 rfl
       exact .inr ⟨h0',s,k,by simp only [fL,(fT_none t _).2 h5]; exact h1,h2,h3⟩
end
end Go.Cod
namespace Go.Cod
open Go Go.Proofs
set_option maxRecDepth 10000
mutual
theorem fT_mapAt (i:Int) (f:T→T) (hf:∀ s:T,s.id=i→(f s).id=i):∀ (t s:T),fT t i=some s→fT (t.mapAt i f) i=some (f s)
 | .mk id kind text kids,s,h=>by
   simp only [fT] at h
   by_cases hid:id=i
   · rw [if_pos hid,Option.some.injEq] at h
     subst h
     have h2:=hf (.mk id kind text kids) hid
     simp only [T.mapAt,if_pos hid]
     cases hs:f (.mk id kind text kids) with
     | mk a b c d =>
       rw [hs] at h2
       have h2:a=i:=h2
       simp only [fT,if_pos h2]
   · rw [if_neg hid] at h
     simp only [T.mapAt,if_neg hid,fT]
     exact fL_mapAt i f hf kids s h
theorem fL_mapAt (i:Int) (f:T→T) (hf:∀ s:T,s.id=i→(f s).id=i):∀ (ts:List T) (s:T),fL ts i=some s→fL (T.mapAtL i f ts) i=some (f s)
 | [],s,h=>by cases h
 | t::ts,s,h=>by
   simp only [fL] at h
   simp only [T.mapAtL,fL]
   cases h1:fT t i with
   | some s' =>
     rw [h1] at h
     cases h
     rw [fT_mapAt i f hf t s h1]
   | none =>
     rw [h1] at h
     rw [T.mapAt_none i f t ((fT_none t i).1 h1),h1]
     exact fL_mapAt i f hf ts s h
end
theorem cutKid_id (x:Int) (s:T):(cutKidT x s).id=s.id:=by cases s; rfl
theorem back_cut {t y:T} {s:Stp} (hok:okT t=true) (hd:doT t s=some y) (hk:s.kind=2):doT y (backS t s)=some t:=by
 obtain ⟨h1,h2⟩:=doT_ok hd
 obtain ⟨p1,p2,p3⟩:=(okT_iff' t).1 hok
 unfold editT at h1
 cases hf:fT t s.id with
 | none=>rw [hf] at h1; cases h1
 | some x =>
   rw [hf] at h1
   simp only at h1
   rw [if_neg (show ¬ s.kind=1 by omega),if_pos hk] at h1
   split at h1
   · cases h1
   split at h1
   · cases h1
   rename_i hne
   cases h1
   have hp:∀ i∈t.ids,0≤i:=plainT_ids t 1 p1
   have hm:s.id∈t.ids:=mem_of_fT hf
   have hmk:s.id∈T.idsL t.kids:=by
    cases t with
    | mk id kind text kids =>
    simp only [T.ids,List.mem_cons] at hm
    exact hm.resolve_left hne
   obtain ⟨_,ps,k,e2,e3,e4⟩:=overT_kid t s.id 0 p2 hp hmk
   have e5:=fT_ofKid t ps k _ p2 e2 e3
   rw [e4,hf,Option.some.injEq] at e5
   subst e5
   have e6:s.id∈ps.kids.map T.id:=List.mem_map.2 ⟨x,e3,e4⟩
   have okx:okT x=true:=(findT_spec (t:=t) (x:=s.id) (by unfold findT; rw [if_pos hok]; exact hf)).2.2.2.1
   have okp:okT ps=true:=(findT_spec (t:=t) (by unfold findT; rw [if_pos hok]; exact e2)).2.2.2.1
   have hnp:(ps.kids.map T.id).Nodup:=by
    have:=((okT_iff' ps).1 okp).2.1
    cases ps with
    | mk a b c d =>
    simp only [T.ids,List.nodup_cons] at this
    exact this.2.sublist (kidIds_sub d)
   obtain ⟨a,b,hab⟩:=List.append_of_mem e3
   have hna:s.id∉a.map T.id:=fun h=>by
    rw [hab,List.map_append,List.nodup_append] at hnp
    exact hnp.2.2 s.id h s.id (by simp [e4]) rfl
   obtain ⟨j,hj⟩:∃ j,j=a.length:=⟨_,rfl⟩
   have j3:placeGo s.id 0 ps.kids=(j:Int):=by rw [hab,placeGo_at s.id x b e4 a 0 hna,hj]; simp
   have j1:j < ps.kids.length:=by rw [hab,hj]; simp
   have j5:ps.kids[j]? = some x:=by rw [hab,hj]; simp
   have j4:place0 s.id ps.kids=j:=by unfold place0; rw [j3,if_neg (by omega)]
   have hkp:kidOf t (overT t s.id 0)=ps:=by unfold kidOf; rw [e2]; rfl
   have hkx:kidOf t s.id=x:=by unfold kidOf; rw [hf]; rfl
   have hb:backS t s=⟨1,overT t s.id 0,j,x,[]⟩:=by
    unfold backS
    rw [if_neg (by omega),if_pos hk,hkp,hkx,j4]
   rw [hb]
   generalize overT t s.id 0=p at *
   have hcm:=T.cut_map s.id p t ps p2 e2 e6
   have hft:fT (t.cut s.id) p=some (cutKidT s.id ps):=by
    rw [hcm]
    exact fT_mapAt p _ (fun s' hs=>(cutKid_id _ s').trans hs) t ps e2
   have hke:ps.kids.eraseIdx j=(cutKidT s.id ps).kids:=by
    cases ps with
    | mk a b c d =>
    simp only [T.kids] at j3 ⊢
    show _=d.eraseIdx (placeGo s.id 0 d).toNat
    rw [j3]; rfl
   have hlen:(cutKidT s.id ps).kids.length=ps.kids.length - 1:=by
    rw [← hke,List.length_eraseIdx,if_pos j1]
   have he:editT (t.cut s.id) ⟨1,p,j,x,[]⟩=some t:=by
    unfold editT
    simp only [hft]
    rw [if_neg (by simp [bareT]),if_pos trivial,if_pos ⟨by omega,by rw [hlen]; omega,okx⟩]
    exact congrArg some (cut_undo s.id p t ps x j p2 e2 j5 hke e6 (cutKid_id s.id) fun s'=>by cases s'; exact ⟨rfl,rfl⟩)
   rw [doT_some he]
   unfold okO
   rw [if_pos hok]
end Go.Cod
namespace Go.Cod
open Go Go.Proofs
set_option maxRecDepth 10000
def ptR:Option T→V
 | some s=>.rptr s.cells
 | none=>.raw (.pointer none)
set_option maxHeartbeats 4000000 in
theorem treeIn_p1 (id:Int) (kind text:List UInt8) (kids:List T) (hl:kids.length≤1048576) (x:Int) (hT:∀ t'∈kids,Pure Try.prog 112 [.rptr t'.cells,.int .i64 x] (·=ptR (fT t' x))) :
  Pure Try.prog 112 [.rptr (T.mk id kind text kids).cells,.int .i64 x] (·=ptR (fT (.mk id kind text kids) x)):=by
 have hlr:=Go.Cod.rows_len kids
 have hid':fT (.mk id kind text kids) x=if id=x then some (.mk id kind text kids) else fL kids x:=rfl
 generalize hr:fT (.mk id kind text kids) x=res at *
 refine pure_of_awp good Try.func112 rfl (by kernel_rfl) (by decide) ?_
 conv=>whnf
 by_cases hid:id=x
 · rw [if_pos hid] at hid'
   rw [eqB_t hid]
   conv=>whnf
   rw [hid']
   rfl
 rw [eqB_f hid]
 rw [if_neg hid] at hid'
 conv=>whnf
 refine loop_drop (fun n fr st=>∃ (i:Nat),n+i=kids.length∧st=[]∧fL kids x=fL (kids.drop i) x∧Holds fr [(0,.rptr [.int .i64 id,.str kind,.str text,.sl (T.rows kids)]),(1,.int .i64 x),(18,.int .i64 kids.length),(19,.int .i64 i)]) kids.length none
  ⟨0,rfl,rfl,by simp,rfl,rfl,by rw [← hlr]; rfl,rfl,trivial⟩ ?_
 rintro n fr st ⟨i,hi,rfl,hsk,hh⟩
 obtain ⟨fr,rfl⟩:=hh.split
 clear hh
 conv=>whnf
 by_cases hlt:i < kids.length
 · rw [ltB_t (by omega)]
   conv=>whnf
   have hgi:=Go.Cod.rows_get kids i hlt
   have hd:=fL_drop kids i hlt x
   have hTi:=hT kids[i] (List.getElem_mem _)
   generalize kids[i]=k at *
   generalize fT k x=r at hd hTi
   cases k with
   | mk ki kk kx kks =>
   refine ⟨by omega,T.rows kids,_,4,rfl,hgi,rfl,rfl,?_⟩
   conv=>whnf
   refine .inl (hTi.mono ?_)
   rintro r' rfl
   rcases r with _ | ⟨ri,rk,rx,rks⟩
   · conv=>whnf
     refine ⟨n - 1,by omega,none,i+1,by omega,rfl,hsk.trans hd,⟨rfl,rfl,rfl,?_,trivial⟩⟩
     show V.int .i64 (IntKind.i64.wrap (i+1))=_
     rw [wrap64 (by omega) (by omega)]; simp
   · conv=>whnf
     rw [hid',hsk,hd]
     rfl
 · rw [ltB_f (by omega)]
   conv=>whnf
   rw [hid',hsk,List.drop_eq_nil_of_le (by omega)]
   rfl
theorem treeIn_plain (t:T) (ht:t.Small) (x:Int):Pure Try.prog 112 [.rptr t.cells,.int .i64 x] (·=ptR (fT t x)):=by
 induction ht with
 | @mk id kind text kids g1 g2 g3 g4 g5 ih=>exact treeIn_p1 id kind text kids g4 x ih
def ptB (t:T) (x:Int):V:=if t.id=x then .ptr 0 0 0 else ptR (fT t x)
set_option maxHeartbeats 4000000 in
theorem treeIn_box (t:T) (ht:t.Small) (x:Int):Full Try.prog noY 112 [.ptr 0 0 0,.int .i64 x] [⟨[t.cells],4,true,true,true,.cell⟩] fun o st'=>o=.ret (ptB t x)∧st'=[⟨[t.cells],4,true,true,true,.cell⟩]:=by
 cases ht with
 | @mk id kind text kids g1 g2 g3 g4 g5 =>
 have hlr:=Go.Cod.rows_len kids
 have hid':ptB (.mk id kind text kids) x=if id=x then .ptr 0 0 0 else ptR (fL kids x):=by
  unfold ptB
  by_cases h:id=x
  · rw [if_pos h,if_pos (show (T.mk id kind text kids).id=x from h)]
  · rw [if_neg h,if_neg (show ¬ (T.mk id kind text kids).id=x from h)]
    simp only [fT,if_neg h]
 generalize hr:ptB (.mk id kind text kids) x=res at *
 refine full_of_awp good Try.func112 rfl (by kernel_rfl) (by decide) ?_
 conv=>whnf
 by_cases hid:id=x
 · rw [if_pos hid] at hid'
   rw [eqB_t hid]
   conv=>whnf
   refine ⟨[],false,?_⟩
   conv=>whnf
   exact ⟨by rw [hid'],rfl⟩
 rw [eqB_f hid]
 rw [if_neg hid] at hid'
 conv=>whnf
 refine loop_drop (fun n fr st=>∃ (i:Nat),n+i=kids.length∧st=[⟨[[.int .i64 id,.str kind,.str text,.sl (T.rows kids)]],4,true,true,true,.cell⟩]∧fL kids x=fL (kids.drop i) x∧Holds fr [(0,.ptr 0 0 0),(1,.int .i64 x),(18,.int .i64 kids.length),(19,.int .i64 i)]) kids.length none
  ⟨0,rfl,rfl,by simp,rfl,rfl,by rw [← hlr]; rfl,rfl,trivial⟩ ?_
 rintro n fr st ⟨i,hi,rfl,hsk,hh⟩
 obtain ⟨fr,rfl⟩:=hh.split
 clear hh
 conv=>whnf
 by_cases hlt:i < kids.length
 · rw [ltB_t (by omega)]
   conv=>whnf
   have hgi:=Go.Cod.rows_get kids i hlt
   have hd:=fL_drop kids i hlt x
   have hTi:=treeIn_plain kids[i] (g5 _ (List.getElem_mem _)) x
   generalize kids[i]=k at *
   generalize fT k x=r at hd hTi
   cases k with
   | mk ki kk kx kks =>
   refine ⟨by omega,T.rows kids,_,4,rfl,hgi,rfl,rfl,?_⟩
   conv=>whnf
   refine .inl (hTi.mono ?_)
   rintro r' rfl
   rcases r with _ | ⟨ri,rk,rx,rks⟩
   · conv=>whnf
     refine ⟨n - 1,by omega,none,i+1,by omega,rfl,hsk.trans hd,⟨rfl,rfl,rfl,?_,trivial⟩⟩
     show V.int .i64 (IntKind.i64.wrap (i+1))=_
     rw [wrap64 (by omega) (by omega)]; simp
   · conv=>whnf
     refine ⟨[],false,?_⟩
     conv=>whnf
     refine ⟨?_,rfl⟩
     rw [hid',hsk,hd]
     rfl
 · rw [ltB_f (by omega)]
   conv=>whnf
   refine ⟨[],false,?_⟩
   conv=>whnf
   refine ⟨?_,rfl⟩
   rw [hid',hsk,List.drop_eq_nil_of_le (by omega)]
   rfl
end Go.Cod
namespace Go.Cod
open Go Go.Proofs
set_option maxRecDepth 10000
def lz:LT:=.mk 0 [] [] none []
theorem putUndo (sid at_:Int) (node t:T):Full Try.prog noY 111 [.agg ([.int .i64 sid,.int .i64 at_]++node.cells),.agg t.cells] [] fun o st'=>o=.ret (.agg (stpC ⟨2,node.id,0,TZ,[]⟩ lz))∧st'=[]:=by
 obtain ⟨ni,nk,nx,nks⟩:=node
 obtain ⟨ti,tk,tx,tks⟩:=t
 show Full Try.prog noY _ [.agg [.int .i64 sid,.int .i64 at_,.int .i64 ni,.str nk,.str nx,.sl (T.rows nks)],.agg [.int .i64 ti,.str tk,.str tx,.sl (T.rows tks)]] _ _
 refine full_of_awp good Try.func111 rfl (by kernel_rfl) (by decide) ?_
 conv=>whnf
 refine ⟨[],true,?_⟩
 conv=>whnf
 exact ⟨rfl,rfl⟩
set_option maxHeartbeats 4000000 in
theorem textUndo (sid:Int) (w:List UInt8) (t x:T) (ht:t.Small) (hf:fT t sid=some x):Full Try.prog noY 122 [.agg [.int .i64 sid,.str w],.agg t.cells] [] fun o st'=>o=.ret (.agg (stpC ⟨3,sid,0,TZ,x.text⟩ lz))∧st'=[]:=by
 have f1:=treeIn_box t ht sid
 have hp:ptB t sid=if t.id=sid then .ptr 0 0 0 else .rptr x.cells:=by unfold ptB; rw [hf]; rfl
 have hx:t.id=sid→t=x:=fun h=>by
  obtain ⟨a,b,c,d⟩:=t
  simp only [T.id] at h
  simp only [fT,if_pos h,Option.some.injEq] at hf
  exact hf
 generalize ptB t sid=pb at *
 obtain ⟨ti,tk,tx,tks⟩:=t
 obtain ⟨xi,xk,xx,xks⟩:=x
 refine full_of_awp good Try.func122 rfl (by kernel_rfl) (by decide) ?_
 by_cases hid:ti=sid
 case' pos =>
  rw [if_pos (show (T.mk ti tk tx tks).id=sid from hid)] at hp
  cases hx hid
 case' neg=>rw [if_neg (show ¬ (T.mk ti tk tx tks).id=sid from hid)] at hp
 all_goals
  subst hp
  conv=>whnf
  refine ⟨[1],false,?_⟩
  conv=>whnf
  refine f1.mono ?_
  rintro o st' ⟨rfl,rfl⟩
  conv=>whnf
  repeat (refine And.intro (by
           (conv=>whnf)
           rfl) ?_
          conv=>whnf)
  refine ⟨[],true,?_⟩
  conv=>whnf
  exact ⟨rfl,rfl⟩
set_option maxHeartbeats 4000000 in
theorem kindUndo (sid:Int) (w:List UInt8) (t x:T) (ht:t.Small) (hf:fT t sid=some x):Full Try.prog noY 124 [.agg [.int .i64 sid,.str w],.agg t.cells] [] fun o st'=>o=.ret (.agg (stpC ⟨4,sid,0,TZ,x.kind⟩ lz))∧st'=[]:=by
 have f1:=treeIn_box t ht sid
 have hp:ptB t sid=if t.id=sid then .ptr 0 0 0 else .rptr x.cells:=by unfold ptB; rw [hf]; rfl
 have hx:t.id=sid→t=x:=fun h=>by
  obtain ⟨a,b,c,d⟩:=t
  simp only [T.id] at h
  simp only [fT,if_pos h,Option.some.injEq] at hf
  exact hf
 generalize ptB t sid=pb at *
 obtain ⟨ti,tk,tx,tks⟩:=t
 obtain ⟨xi,xk,xx,xks⟩:=x
 refine full_of_awp good Try.func124 rfl (by kernel_rfl) (by decide) ?_
 by_cases hid:ti=sid
 case' pos =>
  rw [if_pos (show (T.mk ti tk tx tks).id=sid from hid)] at hp
  cases hx hid
 case' neg=>rw [if_neg (show ¬ (T.mk ti tk tx tks).id=sid from hid)] at hp
 all_goals
  subst hp
  conv=>whnf
  refine ⟨[1],false,?_⟩
  conv=>whnf
  refine f1.mono ?_
  rintro o st' ⟨rfl,rfl⟩
  conv=>whnf
  repeat (refine And.intro (by
           (conv=>whnf)
           rfl) ?_
          conv=>whnf)
  refine ⟨[],true,?_⟩
  conv=>whnf
  exact ⟨rfl,rfl⟩
set_option maxHeartbeats 8000000 in
theorem cutUndo (sid:Int) (t ps x:T) (ht:t.Small) (hz:ps.kids.length≤1048576) (hxs:x.Small) (ov j:Int) (ho:treeOver t sid=ov) (hp:fT t ov=some ps) (hj:placeGo sid 0 ps.kids=j) (hf:fT t sid=some x) (hne:t.id≠sid) (es:List (List V)) :
  Full Try.prog noY 119 [.agg [.int .i64 sid],.agg t.cells] [poolO es] fun o st'=>∃ l:LT,l.erase=x∧l.Wf∧o=.ret (.agg (stpC ⟨1,ov,j,x,[]⟩ l))∧st'=[poolO (es++l.ents)]:=by
 have f0:=implTreeOver_pure t ht sid
 have f1:=treeIn_box t ht ov
 have f2:=treeIn_box t ht sid
 have f3:=treePlace_pure ps sid hz
 have f4:=treeCopy_acc x hxs es
 rw [ho] at f0
 rw [hj] at f3
 have h2:ptB t sid=.rptr x.cells:=by unfold ptB; rw [hf,if_neg hne]; rfl
 rw [h2] at f2
 have h1:ptB t ov=if t.id=ov then .ptr 0 0 0 else .rptr ps.cells:=by unfold ptB; rw [hp]; rfl
 have hx:t.id=ov→t=ps:=fun h=>by
  obtain ⟨a,b,c,d⟩:=t
  simp only [T.id] at h
  simp only [fT,if_pos h,Option.some.injEq] at hp
  exact hp
 clear hz ho hp hj hf
 generalize ptB t ov=pb at *
 obtain ⟨ti,tk,tx,tks⟩:=t
 obtain ⟨pi,pk,px,pks⟩:=ps
 obtain ⟨xi,xk,xx,xks⟩:=x
 refine full_of_awp good Try.func119 rfl (by kernel_rfl) (by decide) ?_
 by_cases hid:ti=ov
 case' pos =>
  rw [if_pos (show (T.mk ti tk tx tks).id=ov from hid)] at h1
  cases hx hid
 case' neg=>rw [if_neg (show ¬ (T.mk ti tk tx tks).id=ov from hid)] at h1
 all_goals
  subst h1
  conv=>whnf
  refine .inl (f0.mono ?_)
  rintro r rfl
  conv=>whnf
  refine ⟨[2],false,?_⟩
  conv=>whnf
  refine f1.mono ?_
  rintro o st' ⟨rfl,rfl⟩
  conv=>whnf
  repeat (refine And.intro (by
           (conv=>whnf)
           rfl) ?_
          conv=>whnf)
  refine .inl (f3.mono ?_)
  rintro r rfl
  conv=>whnf
  repeat (refine And.intro (by
           (conv=>whnf)
           rfl) ?_
          conv=>whnf)
  refine ⟨[2],false,?_⟩
  conv=>whnf
  refine f2.mono ?_
  rintro o st' ⟨rfl,rfl⟩
  conv=>whnf
  repeat (refine And.intro (by
           (conv=>whnf)
           rfl) ?_
          conv=>whnf)
  refine .inr (.inl ⟨[0],true,?_⟩)
  conv=>whnf
  refine f4.mono ?_
  rintro o st' ⟨l,l1,l2,rfl,rfl⟩
  obtain ⟨li,lk,lx,lh,lks⟩:=l
  rcases lh with _ | ⟨lb,lc⟩
  all_goals
   conv=>whnf
   refine ⟨[],true,?_⟩
   conv=>whnf
   exact ⟨_,l1,l2,rfl,rfl⟩
end Go.Cod
namespace Go.Cod
open Go Go.Proofs
set_option maxRecDepth 10000
theorem back_facts {t y:T} {s:Stp} (hok:okT t=true) (hd:doT t s=some y) :
  (s.kind=1∧backS t s=⟨2,s.node.id,0,TZ,[]⟩) ∨
  (s.kind=2∧∃ (ps x:T) (ov j:Int),treeOver t s.id=ov∧fT t ov=some ps∧placeGo s.id 0 ps.kids=j∧fT t s.id=some x∧t.id≠s.id∧backS t s=⟨1,ov,j,x,[]⟩) ∨
  (s.kind=3∧∃ x,fT t s.id=some x∧backS t s=⟨3,s.id,0,TZ,x.text⟩) ∨
  (s.kind=4∧∃ x,fT t s.id=some x∧backS t s=⟨4,s.id,0,TZ,x.kind⟩):=by
 obtain ⟨h1,h2⟩:=doT_ok hd
 obtain ⟨p1,p2,p3⟩:=(okT_iff' t).1 hok
 unfold editT at h1
 cases hf:fT t s.id with
 | none=>rw [hf] at h1; cases h1
 | some x =>
   rw [hf] at h1
   simp only at h1
   have hkx:kidOf t s.id=x:=by unfold kidOf; rw [hf]; rfl
   by_cases k1:s.kind=1
   · exact .inl ⟨k1,by unfold backS; rw [if_pos k1]⟩
   refine .inr ?_
   rw [if_neg k1] at h1
   by_cases k2:s.kind=2
   · refine .inl ⟨k2,?_⟩
     rw [if_pos k2] at h1
     split at h1
     · cases h1
     split at h1
     · cases h1
     rename_i hne
     have hp:∀ i∈t.ids,0≤i:=plainT_ids t 1 p1
     have hm:s.id∈t.ids:=mem_of_fT hf
     have hmk:s.id∈T.idsL t.kids:=by
      cases t with
      | mk id kind text kids =>
      simp only [T.ids,List.mem_cons] at hm
      exact hm.resolve_left hne
     obtain ⟨_,ps,k,e2,e3,e4⟩:=overT_kid t s.id 0 p2 hp hmk
     have hov:treeOver t s.id=overT t s.id 0:=by
      unfold treeOver spotOf
      rw [if_pos hok,(overT_eq t s.id 0 1 (by omega) hp).1]
     have e6:s.id∈ps.kids.map T.id:=List.mem_map.2 ⟨k,e3,e4⟩
     obtain ⟨j,_,j2⟩:=placeGo_in s.id ps.kids 0 e6
     have hkp:kidOf t (overT t s.id 0)=ps:=by unfold kidOf; rw [e2]; rfl
     refine ⟨ps,x,_,_,hov,e2,rfl,rfl,fun h=>hne h.symm,?_⟩
     unfold backS
     rw [if_neg k1,if_pos k2,hkp,hkx]
     unfold place0
     rw [if_neg (by omega)]
   refine .inr ?_
   rw [if_neg k2] at h1
   by_cases k3:s.kind=3
   · exact .inl ⟨k3,x,rfl,by unfold backS; rw [if_neg k1,if_neg k2,if_pos k3,hkx]⟩
   rw [if_neg k3] at h1
   by_cases k4:s.kind=4
   · exact .inr ⟨k4,x,rfl,by unfold backS; rw [if_neg k1,if_neg k2,if_neg k3,hkx]⟩
   rw [if_neg k4] at h1
   split at h1 <;> cases h1
def BackR (r:Stp × Bool) (o:Out) (st':St):Prop:=∃ l:LT,l.erase=r.1.node∧l.Wf∧o=.ret (.tup [.agg (stpC r.1 l),.bool r.2])∧st'=[poolO l.ents]
set_option maxHeartbeats 8000000 in
theorem implStepBack_acc (t:T) (s:Stp) (ht:t.Small) (hs:s.node.Small) (htx:s.text.length≤1048576):Full Try.prog noY 47 [.agg t.cells,.agg s.cells] [poolO []] (BackR (backT t s)):=by
 have f1:=implStepDo_pure t s ht hs htx
 have f2:=stepDeedOf_pure s hs
 have hb:backT t s=if okT t=true then (match doT t s with
  | some _=>(backS t s,true)
  | none=>(SZ,false)) else (SZ,false):=rfl
 have hst:stepT t s=if okT t=true then (match doT t s with
  | some y=>(y,true)
  | none=>(t,false)) else (TZ,false):=rfl
 have hF:=fun y h1 h2=>back_facts (t:=t) (y:=y) (s:=s) h1 h2
 have hu1:=fun sid at_=>putUndo sid at_ s.node t
 have hu2:=cutUndo s.id t
 have hu3:=fun x h=>textUndo s.id s.text t x ht h
 have hu4:=fun x h=>kindUndo s.id s.text t x ht h
 have hsm:=fun x h=>fT_small t x ht h
 have hkl:∀ ps:T,ps.Small→ps.kids.length≤1048576:=fun ps h=>by cases h with | mk g1 g2 g3 g4 g5=>exact g4
 generalize hdk:deedOk s=dk at *
 generalize hdv:deedV s=dv at *
 unfold deedV at hdv
 generalize backT t s=bk at *
 generalize stepT t s=sd at *
 generalize hbs:backS t s=bs at *
 generalize okT t=okt at *
 generalize doT t s=d at *
 simp only [Stp.cells] at f1 f2 ⊢
 obtain ⟨kind,sid,at_,node,text⟩:=s
 simp only at f1 f2 hF hu1 hu2 hu3 hu4 hdv ⊢
 have hk:∀ y,okt=true→d=some y→(kind=1∧bs=⟨2,node.id,0,TZ,[]⟩∧dv=.iface 112 (.agg ([.int .i64 sid,.int .i64 at_]++node.cells)))∨(kind=2∧∃ (ps x:T) (ov j:Int),treeOver t sid=ov∧fT t ov=some ps∧placeGo sid 0 ps.kids=j∧fT t sid=some x∧t.id≠sid∧bs=⟨1,ov,j,x,[]⟩∧dv=.iface 114 (.agg [.int .i64 sid])) ∨
   (kind=3∧∃ x,fT t sid=some x∧bs=⟨3,sid,0,TZ,x.text⟩∧dv=.iface 117 (.agg [.int .i64 sid,.str text]))∨(kind=4∧∃ x,fT t sid=some x∧bs=⟨4,sid,0,TZ,x.kind⟩∧dv=.iface 119 (.agg [.int .i64 sid,.str text])):=fun y h1 h2=>by
  rcases hF y h1 h2 with ⟨k,h⟩ | ⟨k,ps,x,ov,j,h3,h4,h5,h6,h7,h⟩ | ⟨k,x,h6,h⟩ | ⟨k,x,h6,h⟩
  · exact .inl ⟨k,h,by rw [← hdv,if_pos k]⟩
  · exact .inr (.inl ⟨k,ps,x,ov,j,h3,h4,h5,h6,h7,h,by rw [← hdv,if_neg (by omega),if_pos k]⟩)
  · exact .inr (.inr (.inl ⟨k,x,h6,h,by rw [← hdv,if_neg (by omega),if_neg (by omega),if_pos k]⟩))
  · exact .inr (.inr (.inr ⟨k,x,h6,h,by rw [← hdv,if_neg (by omega),if_neg (by omega),if_neg (by omega),if_pos k]⟩))
 clear hF hdv
 have hnt:∀ (a:T),a=t→t=a:=fun a h=>h.symm
 obtain ⟨tid,tk,tx,tks⟩:=t
 cases okt with
 | false =>
   rw [if_neg (by simp)] at hb hst
   subst hb hst
   obtain ⟨nid,nk,nx,nks⟩:=node
   refine full_of_awp good Try.func47 rfl (by kernel_rfl) (by decide) ?_
   conv=>whnf
   refine .inl (f1.mono ?_)
   rintro r rfl
   conv=>whnf
   refine ⟨[],true,?_⟩
   conv=>whnf
   exact ⟨lz,rfl,by simp [lz,LT.Wf,LT.WfL],rfl,rfl⟩
 | true =>
   rw [if_pos rfl] at hb hst
   cases hdd:d with
   | none =>
     rw [hdd] at hb hst
     simp only at hb hst
     subst hb hst
     obtain ⟨nid,nk,nx,nks⟩:=node
     refine full_of_awp good Try.func47 rfl (by kernel_rfl) (by decide) ?_
     conv=>whnf
     refine .inl (f1.mono ?_)
     rintro r rfl
     conv=>whnf
     refine ⟨[],true,?_⟩
     conv=>whnf
     exact ⟨lz,rfl,by simp [lz,LT.Wf,LT.WfL],rfl,rfl⟩
   | some y =>
     rw [hdd] at hb hst
     simp only at hb hst
     subst hb hst
     have hk:=hk y rfl hdd
     obtain ⟨yid,yk,yx,yks⟩:=y
     rcases hk with ⟨k,rfl,rfl⟩ | ⟨k,ps,x,ov,j,h3,h4,h5,h6,h7,rfl,rfl⟩ | ⟨k,x,h6,rfl,rfl⟩ | ⟨k,x,h6,rfl,rfl⟩
     · have hu1:=hu1 sid at_
       obtain ⟨nid,nk,nx,nks⟩:=node
       refine full_of_awp good Try.func47 rfl (by kernel_rfl) (by decide) ?_
       conv=>whnf
       refine .inl (f1.mono ?_)
       rintro r rfl
       conv=>whnf
       refine .inl (f2.mono ?_)
       rintro r rfl
       conv=>whnf
       refine ⟨111,rfl,?_⟩
       conv=>whnf
       refine .inr (.inl ⟨[],true,?_⟩)
       conv=>whnf
       refine hu1.mono ?_
       rintro o st' ⟨rfl,rfl⟩
       conv=>whnf
       refine ⟨[],true,?_⟩
       conv=>whnf
       exact ⟨lz,rfl,by simp [lz,LT.Wf,LT.WfL],rfl,rfl⟩
     · have hu2:=hu2 ps x ht (hkl ps (hsm _ _ h4)) (hsm _ _ h6) ov j h3 h4 h5 h6 h7 []
       clear h3 h4 h5 h6 h7
       obtain ⟨nid,nk,nx,nks⟩:=node
       obtain ⟨xid,xk,xx,xks⟩:=x
       refine full_of_awp good Try.func47 rfl (by kernel_rfl) (by decide) ?_
       conv=>whnf
       refine .inl (f1.mono ?_)
       rintro r rfl
       conv=>whnf
       refine .inl (f2.mono ?_)
       rintro r rfl
       conv=>whnf
       refine ⟨119,rfl,?_⟩
       conv=>whnf
       refine .inr (.inl ⟨[0],true,?_⟩)
       conv=>whnf
       refine hu2.mono ?_
       rintro o st' ⟨l,l1,l2,rfl,rfl⟩
       obtain ⟨li,lk,lx,lh,lks⟩:=l
       rcases lh with _ | ⟨lb,lc⟩
       all_goals
        conv=>whnf
        refine ⟨[],true,?_⟩
        conv=>whnf
        exact ⟨_,l1,l2,rfl,rfl⟩
     · have hu3:=hu3 x h6
       obtain ⟨nid,nk,nx,nks⟩:=node
       obtain ⟨xid,xk,xx,xks⟩:=x
       refine full_of_awp good Try.func47 rfl (by kernel_rfl) (by decide) ?_
       conv=>whnf
       refine .inl (f1.mono ?_)
       rintro r rfl
       conv=>whnf
       refine .inl (f2.mono ?_)
       rintro r rfl
       conv=>whnf
       refine ⟨122,rfl,?_⟩
       conv=>whnf
       refine .inr (.inl ⟨[],true,?_⟩)
       conv=>whnf
       refine hu3.mono ?_
       rintro o st' ⟨rfl,rfl⟩
       conv=>whnf
       refine ⟨[],true,?_⟩
       conv=>whnf
       exact ⟨lz,rfl,by simp [lz,LT.Wf,LT.WfL],rfl,rfl⟩
     · have hu4:=hu4 x h6
       obtain ⟨nid,nk,nx,nks⟩:=node
       obtain ⟨xid,xk,xx,xks⟩:=x
       refine full_of_awp good Try.func47 rfl (by kernel_rfl) (by decide) ?_
       conv=>whnf
       refine .inl (f1.mono ?_)
       rintro r rfl
       conv=>whnf
       refine .inl (f2.mono ?_)
       rintro r rfl
       conv=>whnf
       refine ⟨124,rfl,?_⟩
       conv=>whnf
       refine .inr (.inl ⟨[],true,?_⟩)
       conv=>whnf
       refine hu4.mono ?_
       rintro o st' ⟨rfl,rfl⟩
       conv=>whnf
       refine ⟨[],true,?_⟩
       conv=>whnf
       exact ⟨lz,rfl,by simp [lz,LT.Wf,LT.WfL],rfl,rfl⟩
def NewQ (r:Stp × Bool) (o:Out) (st':St):Prop:=∃ l:LT,l.erase=r.1.node∧l.Wf∧(l.ents.map labOf).Nodup∧o=.ret (.tup [.agg (stpC r.1 l),.bool r.2])∧st'=[poolO l.ents]
theorem implStepBack_new (t:T) (s:Stp) (ht:t.Small) (hs:s.node.Small) (htx:s.text.length≤1048576):Full Try.prog noY 47 [.agg t.cells,.agg s.cells] [] (NewQ (backT t s)):=by
 refine (Full.givenEnd (Full.start (implStepBack_acc t s ht hs htx))).mono ?_
 rintro o st' ⟨⟨l,h1,h2,rfl,rfl⟩,hl⟩
 exact ⟨l,h1,h2,hl.nodup (k:=0) rfl,rfl,rfl⟩
theorem implStepBack_pure (t:T) (s:Stp) (ht:t.Small) (hs:s.node.Small) (htx:s.text.length≤1048576):Pure Try.prog 47 [.agg t.cells,.agg s.cells] (·=.tup [.agg (backT t s).1.cells,.bool (backT t s).2]):=by
 refine Full.freeze (implStepBack_new t s ht hs htx) ?_
 rintro o st' ⟨l,h1,h2,h3,rfl,rfl⟩
 have hv:=viewL2 (y':=.bool (backT t s).2) (stp_view (backT t s).1 l h1 h2 (es:=l.ents) (fun _ h=>h)) (.same _)
 refine ⟨_,_,.tup [.agg (backT t s).1.cells,.bool (backT t s).2],rfl,rfl,.tup hv.1 hv.2,?_,rfl⟩
 cases l with
 | mk id kind text h kids=>rcases h with _ | ⟨b,c⟩ <;> rfl
end Go.Cod
namespace Go.Cod
open Go Go.Proofs Go.ChangeShapes Go.WideShapes Go.ChangeAt Go.RowKit
set_option maxRecDepth 10000
theorem backS_sm {t:T} (ht:t.Small) (s:Stp):(backS t s).node.Small∧(backS t s).text.length≤1048576:=by
 have hk:=kidOf_small ht s.id
 have hz:(0:Nat)≤1048576:=by omega
 unfold backS
 generalize kidOf t s.id=x at *
 cases hk with
 | @mk id kind text kids g1 g2 g3 g4 g5 =>
 split
 · exact ⟨TZ_small,hz⟩
 split
 · exact ⟨.mk g1 g2 g3 g4 g5,hz⟩
 split
 · exact ⟨TZ_small,by simpa [T.text] using g3⟩
 · exact ⟨TZ_small,by simpa [T.kind] using g2⟩
theorem back_undo {t y:T} {s:Stp} (hok:okT t=true) (hd:doT t s=some y):doT y (backS t s)=some t:=by
 by_cases k1:s.kind=1
 · exact back_put hok hd k1
 by_cases k2:s.kind=2
 · exact back_cut hok hd k2
 by_cases k3:s.kind < 3
 · exfalso
   rcases back_facts hok hd with ⟨k,_⟩ | ⟨k,_⟩ | ⟨k,_⟩ | ⟨k,_⟩ <;> omega
 · exact back_set hok hd k3
end Go.Cod
namespace Go.Cod
open Go Go.Proofs
set_option maxRecDepth 10000
def RevAt (rows:List (List V)) (i:Nat) (rs:List (List V)):Prop:=rs.length=rows.length∧∀ k:Nat,k < rows.length→rs[k]? = if k < i∨rows.length≤k+i then rows[rows.length - 1 - k]? else rows[k]?
theorem RevAt.zero (rows:List (List V)):RevAt rows 0 rows:=⟨rfl,fun k hk=>by rw [if_neg (by omega)]⟩
theorem RevAt.next {rows rs:List (List V)} {i:Nat} (h:RevAt rows i rs) (hi:i+i+1 < rows.length) (a b:List V) (ha:rs[i]? = some a) (hb:rs[rows.length - 1 - i]? = some b) :
  RevAt rows (i+1) ((rs.set i b).set (rows.length - 1 - i) a):=by
 obtain ⟨h1,h2⟩:=h
 have ea:=h2 i (by omega)
 have eb:=h2 (rows.length - 1 - i) (by omega)
 rw [if_neg (by omega),ha] at ea
 rw [if_neg (by omega),hb] at eb
 refine ⟨by simp [h1],fun k hk=>?_⟩
 rw [List.getElem?_set,List.getElem?_set]
 simp only [List.length_set,h1]
 by_cases e1:rows.length - 1 - i=k
 · rw [if_pos e1,if_pos (by omega),if_pos (by omega),ea]
   congr 1; omega
 rw [if_neg e1]
 by_cases e2:i=k
 · rw [if_pos e2,if_pos (by omega),if_pos (by omega),eb]
   congr 1; omega
 rw [if_neg e2,h2 k hk]
 by_cases e3:k < i∨rows.length≤k+i
 · rw [if_pos e3,if_pos (by omega)]
 · rw [if_neg e3,if_neg (by omega)]
theorem RevAt.done {rows rs:List (List V)} {i:Nat} (h:RevAt rows i rs) (hi:rows.length≤i+i+1):rs=rows.reverse:=by
 refine List.ext_getElem? fun k=>?_
 by_cases hk:k < rows.length
 · rw [h.2 k hk,List.getElem?_reverse hk]
   split
   · rfl
   · congr 1; omega
 · rw [List.getElem?_eq_none (by rw [h.1]; omega),List.getElem?_eq_none (by simp; omega)]
def ownS (rows:List (List V)):O:=⟨rows,8,true,true,false,.cell⟩
set_option maxHeartbeats 8000000 in
theorem reverse_full (rows:List (List V)) (hr:∀ r∈rows,∃ s:Stp,r=s.cells) (hl:rows.length≤1048576):Full Try.prog noY 48 [.own 0] [ownS rows] fun o st'=>o=.ret (.tup [])∧st'=[ownS rows.reverse]:=by
 refine full_of_awp good Try.func48 rfl (by kernel_rfl) (by decide) ?_
 conv=>whnf
 refine loop_drop (fun n fr st=>∃ (i:Nat) (rs:List (List V)),n+i=rows.length∧RevAt rows i rs∧(∀ r∈rs,∃ s:Stp,r=s.cells)∧st=[ownS rs]∧Holds fr [(0,.own 0),(2,.int .i64 i),(3,.int .i64 ((rows.length:Int) - 1 - i))]) rows.length none
  ⟨0,rows,rfl,RevAt.zero rows,hr,rfl,rfl,rfl,by
    show V.int .i64 (IntKind.i64.wrap ((rows.length:Int) - 1))=_
    rw [wrap64 (by omega) (by omega)]; simp,trivial⟩ ?_
 rintro n fr st ⟨i,rs,hi,hra,hrs,rfl,hh⟩
 obtain ⟨fr,rfl⟩:=hh.split
 clear hh
 conv=>whnf
 by_cases hlt:(i:Int) < (rows.length:Int) - 1 - i
 · rw [ltB_t hlt]
   have hln:=hra.1
   obtain ⟨a,ha⟩:∃ a,rs[i]? = some a:=⟨rs[i],by rw [List.getElem?_eq_getElem]⟩
   obtain ⟨b,hb⟩:∃ b,rs[rows.length - 1 - i]? = some b:=⟨rs[rows.length - 1 - i],by rw [List.getElem?_eq_getElem]⟩
   have hn:=hra.next (by omega) a b ha hb
   obtain ⟨sa,rfl⟩:=hrs a (List.mem_of_getElem? ha)
   obtain ⟨sb,rfl⟩:=hrs b (List.mem_of_getElem? hb)
   have e1:((rows.length:Int) - 1 - i).toNat=rows.length - 1 - i:=by omega
   have hb':rs[((rows.length:Int) - 1 - i).toNat]? = some sb.cells:=by rw [e1]; exact hb
   have ha':rs[(i:Int).toNat]? = some sa.cells:=ha
   have hb2:∀ X,(rs.set (i:Int).toNat X)[((rows.length:Int) - 1 - i).toNat]? = some sb.cells:=fun X=>by
    rw [e1,show (i:Int).toNat=i from rfl,List.getElem?_set_ne (by omega)]; exact hb
   have hrs2:∀ r∈(rs.set i sb.cells).set (rows.length - 1 - i) sa.cells,∃ s:Stp,r=s.cells:=fun r hr=>by
    rcases List.mem_or_eq_of_mem_set hr with h | h
    · rcases List.mem_or_eq_of_mem_set h with h | h
      · exact hrs r h
      · exact ⟨_,h⟩
    · exact ⟨_,h⟩
   obtain ⟨ak,ai,aa,⟨a1,a2,a3,a4⟩,a5⟩:=sa
   obtain ⟨bk,bi,ba,⟨b1,b2,b3,b4⟩,b5⟩:=sb
   conv=>whnf
   repeat (first
    | (refine And.intro (by
          (conv=>whnf)
          first
           | rfl
           | exact ⟨by omega,rs,_,8,rfl,hb',rfl,rfl,rfl⟩
           | exact ⟨by omega,rs,_,8,rfl,ha',rfl,rfl,rfl⟩
           | exact AtRow_intro _ hb' rfl
           | exact AtRow_intro _ ha' rfl) ?_
       conv=>whnf)
    | (refine ⟨by omega,rs,_,8,rfl,hb',rfl,rfl,?_⟩
       conv=>whnf)
    | (refine ⟨by omega,rs,_,8,rfl,ha',rfl,rfl,?_⟩
       conv=>whnf)
    | (refine AtRow_intro _ hb' ?_
       conv=>whnf)
    | (refine AtRow_intro _ ha' ?_
       conv=>whnf))
   refine ⟨by omega,_,_,8,rfl,hb2 _,rfl,rfl,?_⟩
   conv=>whnf
   refine AtRow_intro _ (hb2 _) ?_
   conv=>whnf
   refine ⟨n - 1,by omega,none,i+1,_,by omega,hn,hrs2,?_,rfl,?_,?_,trivial⟩
   · rw [← e1]
     rfl
   · show V.int .i64 (IntKind.i64.wrap ((i:Int)+1))=_
     rw [wrap64 (by omega) (by omega)]; simp
   · show V.int .i64 (IntKind.i64.wrap ((rows.length:Int) - 1 - i - 1))=_
     rw [wrap64 (by omega) (by omega)]; congr 1; omega
 · rw [ltB_f (by omega)]
   conv=>whnf
   refine ⟨[],false,?_⟩
   conv=>whnf
   exact ⟨rfl,by rw [hra.done (by omega)]; rfl⟩
end Go.Cod
namespace Go.Cod
open Go Go.Proofs
set_option maxRecDepth 10000
def backsGo:T→List Stp→List Stp→Option (List Stp)
 | _,[],acc=>some acc
 | x,s::ls,acc=>match doT x s with
   | some y=>backsGo y ls (backS x s::acc)
   | none=>none
def backsT (t:T) (ls:List Stp):List Stp × Bool:=if okT t=true then (match backsGo t ls [] with
 | some r=>(r,true)
 | none=>([],false)) else ([],false)
theorem backsGo_drop (x:T) (ls acc:List Stp) (i:Nat) (h:i < ls.length):backsGo x (ls.drop i) acc=match doT x ls[i] with
  | some y=>backsGo y (ls.drop (i+1)) (backS x ls[i]::acc)
  | none=>none:=by
 rw [List.drop_eq_getElem_cons h]; rfl
theorem backs_steps (t:T) (ls:List Stp):(backsT t ls).2=(stepsT t ls).2:=by
 have h:∀ (t0:T) (ls:List Stp) (x:T) (acc:List Stp),(backsGo x ls acc).isSome=(goT t0 x ls).2:=by
  intro t0 ls
  induction ls with
  | nil=>intro x acc; rfl
  | cons s ls ih =>
    intro x acc
    simp only [backsGo,goT]
    cases doT x s with
    | none=>rfl
    | some y=>exact ih y _
 unfold backsT stepsT
 split
 · rw [← h t ls t []]
   cases backsGo t ls [] <;> rfl
 · rfl
theorem backsGo_len:∀ (ls:List Stp) (x:T) (acc r:List Stp),backsGo x ls acc=some r→r.length=ls.length+acc.length
 | [],x,acc,r,h=>by cases h; simp
 | s::ls,x,acc,r,h=>by
   simp only [backsGo] at h
   cases hd:doT x s with
   | none=>rw [hd] at h; cases h
   | some y =>
     rw [hd] at h
     have:=backsGo_len ls y _ r h
     simp only [List.length_cons] at this ⊢
     omega
theorem backS_Sm {t:T} (ht:t.Small) (hok:okT t=true) (s:Stp):(backS t s).Sm:=by
 have h:=backS_sm ht s
 refine ⟨h.1,?_,h.2⟩
 have h20:=okT_size hok
 have hz0:TZ.size≤1048577:=by simp [TZ,T.size,T.sizeL]
 have hk:(kidOf t s.id).size≤1048577:=by
  unfold kidOf
  cases h:fT t s.id with
  | none=>exact hz0
  | some x=>have:=fT_size t s.id x h; show x.size≤_; omega
 unfold backS
 split
 · exact hz0
 split
 · exact hk
 split
 · exact hz0
 · exact hz0
theorem backsGo_Sm:∀ (ls:List Stp) (x:T) (acc r:List Stp),x.Small→okT x=true→(∀ s∈ls,s.Sm)→(∀ s∈acc,s.Sm)→backsGo x ls acc=some r→∀ s∈r,s.Sm
 | [],x,acc,r,_,_,_,ha,h=>by cases h; exact ha
 | s::ls,x,acc,r,hx,hok,hl,ha,h=>by
   simp only [backsGo] at h
   cases hd:doT x s with
   | none=>rw [hd] at h; cases h
   | some y =>
     rw [hd] at h
     obtain ⟨y1,y2⟩:=doT_small hx hok (hl s (by simp)) hd
     refine backsGo_Sm ls y _ r y1 y2 (fun u hu=>hl u (List.mem_cons_of_mem _ hu)) (fun u hu=>?_) h
     rcases List.mem_cons.1 hu with rfl | hu
     · exact backS_Sm hx hok s
     · exact ha u hu
def runO:T→List Stp→Option T
 | x,[]=>some x
 | x,s::ls=>match doT x s with
   | some y=>runO y ls
   | none=>none
theorem go_run (t0:T):∀ (ls:List Stp) (x:T),goT t0 x ls=match runO x ls with
  | some y=>(y,true)
  | none=>(t0,false)
 | [],x=>rfl
 | s::ls,x=>by
   simp only [goT,runO]
   cases doT x s with
   | none=>rfl
   | some y=>exact go_run t0 ls y
theorem runO_ok:∀ (ls:List Stp) (x y:T),okT x=true→runO x ls=some y→okT y=true
 | [],x,y,h,e=>by cases e; exact h
 | s::ls,x,y,h,e=>by
   simp only [runO] at e
   cases hd:doT x s with
   | none=>rw [hd] at e; cases e
   | some z=>rw [hd] at e; exact runO_ok ls z y (doT_ok hd).2 e
theorem backs_undo:∀ (ls:List Stp) (x w:T) (acc r:List Stp),okT x=true→backsGo x ls acc=some r→runO x acc=some w→∃ z,runO x ls=some z∧runO z r=some w
 | [],x,w,acc,r,_,h,hw=>by cases h; exact ⟨x,rfl,hw⟩
 | s::ls,x,w,acc,r,hok,h,hw=>by
   simp only [backsGo] at h
   cases hd:doT x s with
   | none=>rw [hd] at h; cases h
   | some y =>
     rw [hd] at h
     have hb:=back_undo hok hd
     obtain ⟨z,h1,h2⟩:=backs_undo ls y w (backS x s::acc) r (doT_ok hd).2 h (by simp only [runO]; rw [hb]; exact hw)
     exact ⟨z,by simp only [runO]; rw [hd]; exact h1,h2⟩
theorem backs_stepsT {t x:T} {ls:List Stp} (h:stepsT t ls=(x,true)):stepsT x (backsT t ls).1=(t,true):=by
 have h2:=backs_steps t ls
 unfold stepsT at h
 split at h
 · rename_i hok
   have hb:backsT t ls=match backsGo t ls [] with
    | some r=>(r,true)
    | none=>([],false):=by unfold backsT; rw [if_pos hok]
   cases hg:backsGo t ls [] with
   | none =>
     rw [hg] at hb
     rw [hb] at h2
     have:(stepsT t ls).2=true:=by unfold stepsT; rw [if_pos hok,h]
     rw [this] at h2; cases h2
   | some r =>
     rw [hg] at hb
     obtain ⟨z,h3,h4⟩:=backs_undo ls t t [] r hok hg rfl
     rw [go_run,h3] at h
     cases h
     rw [hb]
     unfold stepsT
     rw [if_pos (runO_ok ls t _ hok h3),go_run,h4]
 · cases h
theorem prows_rev (ls:List Stp):(prows ls).reverse=prows ls.reverse:=by simp [prows]
theorem prows_cells (ls:List Stp):∀ r∈prows ls,∃ s:Stp,r=s.cells:=fun r hr=>by
 obtain ⟨s,_,rfl⟩:=List.mem_map.1 hr
 exact ⟨s,rfl⟩
end Go.Cod
namespace Go.Cod
open Go Go.Proofs
set_option maxRecDepth 10000
theorem reverse_nil:Pure Try.prog 48 [.sl []] (·=.tup []):=by
 refine pure_of_awp good Try.func48 rfl (by kernel_rfl) (by decide) ?_
 conv=>whnf
 refine loop_drop (fun n fr st=>st=[]∧Holds fr [(2,.int .i64 0),(3,.int .i64 (-1))]) 0 none ⟨rfl,rfl,rfl,trivial⟩ ?_
 rintro n fr st ⟨rfl,hh⟩
 obtain ⟨fr,rfl⟩:=hh.split
 clear hh
 conv=>whnf
 rw [ltB_f (by omega)]
 conv=>whnf
set_option maxHeartbeats 8000000 in
theorem implStepsBack_pure (t:T) (ls:List Stp) (ht:t.Small) (hls:∀ s∈ls,s.Sm) (hl:ls.length≤1048576):Pure Try.prog 18 [.agg t.cells,.sl (prows ls)] (·=.tup [.sl (prows (backsT t ls).1),.bool (backsT t ls).2]):=by
 have f1:=implTreeOk t ht
 have hst:backsT t ls=if okT t=true then (match backsGo t ls [] with
  | some r=>(r,true)
  | none=>([],false)) else ([],false):=rfl
 have hlen:=prows_len ls
 have hget:=prows_get ls
 generalize backsT t ls=res at *
 generalize prows ls=rows at *
 cases hok:okT t with
 | false =>
   rw [hok] at f1 hst
   rw [if_neg (by simp)] at hst
   subst hst
   cases t with
   | mk tid tk tx tks =>
   refine pure_of_awp good Try.func18 rfl (by kernel_rfl) (by decide) ?_
   conv=>whnf
   refine .inl (f1.mono ?_)
   rintro r rfl
   conv=>whnf
   rfl
 | true =>
   rw [hok] at f1 hst
   rw [if_pos rfl] at hst
   have hgo:backsGo t ls []=backsGo t (ls.drop 0) []:=rfl
   rw [hgo] at hst
   have hD:∀ x acc i (h:i < ls.length),backsGo x (ls.drop i) acc=match doT x ls[i] with
     | some y=>backsGo y (ls.drop (i+1)) (backS x ls[i]::acc)
     | none=>none:=fun x acc i h=>backsGo_drop x ls acc i h
   have hE:∀ x acc,backsGo x (ls.drop ls.length) acc=some acc:=fun x acc=>by rw [List.drop_of_length_le (by omega)]; rfl
   have hok':=hok
   have ht':=ht
   cases t with
   | mk tid tk tx tks =>
   refine pure_of_awp good Try.func18 rfl (by kernel_rfl) (by decide) ?_
   conv=>whnf
   refine .inl (f1.mono ?_)
   rintro r rfl
   conv=>whnf
   refine loop_drop (fun n fr st=>∃ (i:Nat) (x:T) (acc:List Stp),n+i=ls.length∧acc.length=i∧x.Small∧okT x=true∧res=(match backsGo x (ls.drop i) acc.reverse with
      | some r=>(r,true)
      | none=>([],false))∧st=[bxO x.cells 4]++lsO acc ∧
     Holds fr [(2,.ptr 0 0 0),(6,lsV acc 1),(14,.sl rows),(15,.int .i64 ls.length),(16,.int .i64 i)]) ls.length none
    ⟨0,_,[],rfl,rfl,ht',hok',hst,rfl,rfl,rfl,rfl,by rw [← hlen]; rfl,rfl,trivial⟩ ?_
   rintro n fr st ⟨i,x,acc,hi,hal,x1,x2,x3,rfl,hh⟩
   obtain ⟨fr,rfl⟩:=hh.split
   clear hh
   have hpl:=prows_len acc
   conv=>whnf
   by_cases hlt:i < ls.length
   · rw [ltB_t (by omega)]
     have hg:=hget i hlt
     have hs:=hls ls[i] (List.getElem_mem _)
     have hd:=hD x acc.reverse i hlt
     have f3:=implStepDo_pure x ls[i] x1 hs.1 hs.2.2
     have f4:=implStepBack_pure x ls[i] x1 hs.1 hs.2.2
     have hsm:=fun y=>doT_small (y:=y) x1 x2 hs
     have hw:V.int .i64 (IntKind.i64.wrap ((i:Int)+1))=.int .i64 ((i+1:Nat):Int):=by rw [wrap64 (by omega) (by omega)]; simp
     have hyes:∀ y,doT x ls[i]=some y→stepT x ls[i]=(y,true)∧backT x ls[i]=(backS x ls[i],true):=fun y h=>by unfold stepT backT; rw [if_pos x2,if_pos x2,h]; exact ⟨rfl,rfl⟩
     have hno:doT x ls[i]=none→stepT x ls[i]=(x,false)∧backT x ls[i]=(SZ,false):=fun h=>by unfold stepT backT; rw [if_pos x2,if_pos x2,h]; exact ⟨rfl,rfl⟩
     generalize backS x ls[i]=bk at *
     generalize ls[i]=s at *
     obtain ⟨sk,sid,sat,sn,stx⟩:=s
     cases sn with
     | mk ni nk nx nks =>
     obtain ⟨bk1,bk2,bk3,⟨b1,b2,b3,b4⟩,bk4⟩:=bk
     have hsn:=lsO_snoc
     cases hdo:doT x ⟨sk,sid,sat,.mk ni nk nx nks,stx⟩ with
     | none =>
       rw [(hno hdo).2] at f4
       rw [hdo] at hd
       rw [hd] at x3
       cases x with
       | mk xi xk xx xks =>
       rcases acc with _ | ⟨a0,acc⟩
       all_goals
        conv=>whnf
        refine ⟨by omega,rows,_,8,rfl,hg,rfl,rfl,?_⟩
        conv=>whnf
        refine .inl (f4.mono ?_)
        rintro r rfl
        conv=>whnf
        rw [x3]
        rfl
     | some y =>
       rw [(hyes y hdo).1] at f3
       rw [(hyes y hdo).2] at f4
       rw [hdo] at hd
       rw [hd] at x3
       obtain ⟨y1,y2⟩:=hsm y hdo
       cases x with
       | mk xi xk xx xks =>
       cases y with
       | mk yi yk yx yks =>
       rcases acc with _ | ⟨a0,acc⟩
       all_goals
        conv=>whnf
        refine ⟨by omega,rows,_,8,rfl,hg,rfl,rfl,?_⟩
        conv=>whnf
        refine .inl (f4.mono ?_)
        rintro r rfl
        conv=>whnf
        refine ⟨fun m hm=>by rw [List.mem_singleton.1 hm]; rfl,?_⟩
        conv=>whnf
        first
         | (refine ⟨by show 1*104≤_; omega,.inr ⟨(by intro e; cases e),?_⟩⟩
            conv=>whnf
            refine .inl (f3.mono ?_)
            rintro r rfl
            conv=>whnf
            refine ⟨n - 1,by omega,some [0,4],?_⟩
            conv=>whnf
            exact ⟨i+1,.mk yi yk yx yks,[⟨bk1,bk2,bk3,.mk b1 b2 b3 b4,bk4⟩],by omega,by simp at hal ⊢; omega,y1,y2,x3,rfl,rfl,rfl,rfl,rfl,hw,trivial⟩)
         | (refine ⟨by
             show ((prows (a0::acc)).length+1)*104≤_
             rw [hpl]; omega,?_⟩
            conv=>whnf
            refine .inl (f3.mono ?_)
            rintro r rfl
            conv=>whnf
            refine ⟨n - 1,by omega,some [0,5],?_⟩
            conv=>whnf
            refine ⟨i+1,.mk yi yk yx yks,(a0::acc)++[⟨bk1,bk2,bk3,.mk b1 b2 b3 b4,bk4⟩],by omega,by rw [List.length_append,hal]; rfl,y1,y2,?_,?_,rfl,rfl,rfl,rfl,hw,trivial⟩
            · rw [List.reverse_append]; exact x3
            · rw [hsn]; rfl)
   · rw [ltB_f (by omega)]
     have hil:i=ls.length:=by omega
     subst hil
     rw [hE] at x3
     have hrv:=prows_rev acc
     rcases acc with _ | ⟨a0,acc⟩
     · cases x with
       | mk xi xk xx xks =>
       conv=>whnf
       refine .inl (reverse_nil.mono ?_)
       rintro r rfl
       conv=>whnf
       rw [x3]
       rfl
     · have hrev:=reverse_full (prows (a0::acc)) (prows_cells _) (by rw [hpl,hal]; omega)
       cases x with
       | mk xi xk xx xks =>
       conv=>whnf
       refine ⟨[1],false,?_⟩
       conv=>whnf
       refine hrev.mono ?_
       rintro o st' ⟨rfl,rfl⟩
       conv=>whnf
       rw [x3,hrv]
       rfl
end Go.Cod
namespace Go.Cod
open Go Go.Proofs Go.ChangeShapes Go.WideShapes Go.ChangeAt Go.RowKit
set_option linter.all false
set_option maxRecDepth 10000
theorem runS_runO:∀ (ls:List Stp) (x:T),runS x ls=runO x ls
 | [],x=>rfl
 | s::ls,x=>by
   simp only [runS,runO]
   cases doT x s with
   | none=>rfl
   | some y=>exact runS_runO ls y
theorem dsT_cases3 (a b:T):(okT a=true∧okT b=true∧a.id=b.id∧dsT a b=(diffT a b,true))∨(dsT a b=([],false)):=by
 unfold dsT
 by_cases h:okT a=true∧okT b=true∧a.id=b.id
 · rw [if_pos h]; exact .inl ⟨h.1,h.2.1,h.2.2,rfl⟩
 · rw [if_neg h]; exact .inr rfl
theorem ids_size3 (t:T) (h:t.size≤10000):t.ids.length≤1048577:=by rw [T.ids_size]; omega
theorem diff_back {a b:T} (oa:okT a=true) (ob:okT b=true) (hab:a.id=b.id) (ha:a.Small) (hs:∀ s∈diffT a b,s.Sm):∃ r,backsT a (diffT a b)=(r,true)∧stepsT b r=(a,true)∧r.length=(diffT a b).length∧∀ s∈r,s.Sm:=by
 have hrun:=diff_run oa ob hab
 rw [runS_runO] at hrun
 have hst:stepsT a (diffT a b)=(b,true):=by
  unfold stepsT
  rw [if_pos oa,go_run,hrun]
 have h1:=backs_stepsT hst
 have h2:(backsT a (diffT a b)).2=true:=by rw [backs_steps,hst]
 cases hg:backsGo a (diffT a b) [] with
 | none =>
   have:backsT a (diffT a b)=([],false):=by unfold backsT; rw [if_pos oa,hg]
   rw [this] at h2; cases h2
 | some r =>
   have hb:backsT a (diffT a b)=(r,true):=by unfold backsT; rw [if_pos oa,hg]
   rw [hb] at h1
   have hl:=backsGo_len _ _ _ _ hg
   exact ⟨r,hb,h1,by simpa using hl,backsGo_Sm _ _ _ _ ha oa hs (fun s h=>by cases h) hg⟩
set_option maxHeartbeats 16000000 in
theorem law_fnDiffBack (bs:List UInt8):Pure Try.prog 5 [.sl (brows bs)] (·=.bool true):=by
 have hl:=brows_len bs
 have hd:=drawDiffSteps_pure bs
 refine pure_of_box good Try.func5 rfl (by kernel_rfl) (by decide) fun A hA=>?_
 generalize brows bs=R at *
 conv=>whnf
 refine box_go hA ?_
 conv=>whnf
 refine box_go hA ?_
 conv=>whnf
 by_cases a0:1048576 < R.length
 · rw [ltB_t (by omega)]
   conv=>whnf
   refine box_go hA ?_
   conv=>whnf
 rw [ltB_f (by omega)]
 conv=>whnf
 refine box_with hA [(0,.sl R)] ⟨rfl,trivial⟩ fun fr=>?_
 conv=>whnf
 refine .inl ((hd (by omega)).mono ?_)
 rintro r ⟨a,b,a1,a2,b1,b2,rfl⟩
 have na:=ids_size3 a a2
 have nb:=ids_size3 b b2
 have i1:=implDiffSteps_plain a b a1 b1
 have i2:=specDiffSteps_plain a b a1 b1 na nb
 rcases dsT_cases3 a b with ⟨oa,ob,hab,hds⟩ | hds
 · rw [hds] at i1 i2
   have ha:=((okT_iff' a).1 oa).2.1
   have hb:=((okT_iff' b).1 ob).2.1
   have hlen80:=diff_few ha hb hab (okT_size oa) (okT_size ob)
   have hsm:=fun s h=>diff_sm a1 b1 s h
   have ws:=wcSteps_self (diffT a b) (fun s h=>(hsm s h).1) (by omega)
   have wt:=wcTree_refl a a1
   have hSm:∀ s∈diffT a b,s.Sm:=fun s h=>by
    obtain ⟨h1,h2,h3⟩:=hsm s h
    exact ⟨h1,by omega,h3⟩
   obtain ⟨rr,e1,e2,e3,e4⟩:=diff_back oa ob hab a1 hSm
   have i3:=implStepsBack_pure a (diffT a b) a1 hSm (by omega)
   have i4:=implStepsDo_pure b rr b1 e4 (by omega)
   rw [e1] at i3
   rw [e2] at i4
   simp only at i3 i4
   generalize diffT a b=L at *
   generalize prows L=rows at *
   generalize prows rr=rows2 at *
   clear e1 e2 e3 e4 hsm hSm hd hl
   obtain ⟨ai,ak,ax,as1⟩:=a
   obtain ⟨bi,bk,bx,bs1⟩:=b
   conv=>whnf
   refine box_with hA [(3,.ptr 0 0 0),(4,.ptr 1 0 0)] ⟨rfl,rfl,trivial⟩ fun fr=>?_
   conv=>whnf
   refine .inl (i1.mono ?_)
   rintro r rfl
   conv=>whnf
   refine box_with hA [(3,.ptr 0 0 0),(4,.ptr 1 0 0),(5,.sl rows),(6,.bool true)] ⟨rfl,rfl,rfl,rfl,trivial⟩ fun fr=>?_
   conv=>whnf
   refine .inl (i2.mono ?_)
   rintro r rfl
   conv=>whnf
   refine box_with hA [(3,.ptr 0 0 0),(4,.ptr 1 0 0),(5,.sl rows),(6,.bool true),(7,.sl rows),(8,.bool true)] ⟨rfl,rfl,rfl,rfl,rfl,rfl,trivial⟩ fun fr=>?_
   conv=>whnf
   refine .inl (ws.mono ?_)
   rintro r rfl
   conv=>whnf
   refine box_with hA [(3,.ptr 0 0 0),(4,.ptr 1 0 0),(5,.sl rows)] ⟨rfl,rfl,rfl,trivial⟩ fun fr=>?_
   conv=>whnf
   refine .inl (i3.mono ?_)
   rintro r rfl
   conv=>whnf
   refine box_with hA [(3,.ptr 0 0 0),(4,.ptr 1 0 0),(9,.sl rows2),(10,.bool true)] ⟨rfl,rfl,rfl,rfl,trivial⟩ fun fr=>?_
   conv=>whnf
   refine .inl (i4.mono ?_)
   rintro r rfl
   conv=>whnf
   refine box_with hA [(3,.ptr 0 0 0),(4,.ptr 1 0 0),(10,.bool true),(11,.ptr 2 0 0),(12,.bool true)] ⟨rfl,rfl,rfl,rfl,rfl,trivial⟩ fun fr=>?_
   conv=>whnf
   refine .inl (wt.mono ?_)
   rintro r rfl
   conv=>whnf
 · rw [hds] at i1 i2
   have ws:=wcSteps_self [] (fun s h=>by cases h) (Nat.zero_le _)
   clear hds
   obtain ⟨ai,ak,ax,as1⟩:=a
   obtain ⟨bi,bk,bx,bs1⟩:=b
   conv=>whnf
   refine box_with hA [(3,.ptr 0 0 0),(4,.ptr 1 0 0)] ⟨rfl,rfl,trivial⟩ fun fr=>?_
   conv=>whnf
   refine .inl (i1.mono ?_)
   rintro r rfl
   conv=>whnf
   refine box_with hA [(3,.ptr 0 0 0),(4,.ptr 1 0 0),(5,.sl []),(6,.bool false)] ⟨rfl,rfl,rfl,rfl,trivial⟩ fun fr=>?_
   conv=>whnf
   refine .inl (i2.mono ?_)
   rintro r rfl
   conv=>whnf
   refine box_with hA [(3,.ptr 0 0 0),(4,.ptr 1 0 0),(5,.sl []),(6,.bool false),(7,.sl []),(8,.bool false)] ⟨rfl,rfl,rfl,rfl,rfl,rfl,trivial⟩ fun fr=>?_
   conv=>whnf
   refine .inl (ws.mono ?_)
   rintro r rfl
   conv=>whnf
   refine box_with hA [(5,.sl []),(6,.bool false),(7,.sl []),(8,.bool false)] ⟨rfl,rfl,rfl,rfl,trivial⟩ fun fr=>?_
   conv=>whnf
   refine .inl (ws.mono ?_)
   rintro r rfl
   conv=>whnf
theorem lawFnDiffBack (bs:List UInt8):Pure Try.prog 5 [.sl (brows bs)] (·=.bool true):=law_fnDiffBack bs
theorem conFnDiffBack (H:Type) (enc:TypeId × Value→H) (W:World) (base:Nat) (args:Array Value) (ds gs:List (DataW H)) (before:List MemPlace)
  (hval:∀ (j:Nat) t v,Try.f5.params[j]? = some t→args[j]? = some v→Value.okWide Try.prog W .any base t v)
  (hW:DataW.Whole enc Try.prog Try.f5.params.toList Ytgnnacognpkgoaa.Rows.fnDiffBackSpec.vars false W args.toList ds gs before) {fresh handsOn again:Bool} :
  Calls Try.prog 5 args W fun e W'=>∃ v,e=.returned v∧Ytgnnacognpkgoaa.Rows.fnDiffBackSpec.post enc Try.prog Try.f5 false fresh handsOn again W args v W':=by
 refine law_calls kids full (tb:=4) rfl Try.underlying4 (by decide +kernel) rfl hW (fun ds h=>by match ds,h with | [_],_=>exact ⟨rfl,rfl,rfl⟩) hval
  (Ss:=[fun x=>∃ bs:List UInt8,x=.sl (brows bs)]) laid0 ?_ ?_
 · rw [Try.params5]
   exact ⟨argBytes,trivial⟩
 · intro xs h
   obtain ⟨_,rfl,⟨t0,rfl⟩⟩:=hold1 h
   exact lawFnDiffBack t0
set_option maxRecDepth 100000 in
theorem overFnDiffBack:Ytgnnacognpkgoaa.Rows.FnDiffBackSaid :=
 OpenClaim.holds_of_wide 5 Try.f5 rfl rfl rfl rfl rfl rfl rfl ⟨rfl,rfl,rfl,rfl,rfl⟩ rfl rfl rfl rfl rfl (by kernel_rfl) Try.func5 (by kernel_rfl)
  (of_decide_eq_true (by kernel_rfl)) (by unfold Func.isWrapper; first | (rw [if_pos (by decide +kernel)]; kernel_rfl) | (rw [if_neg (by decide +kernel)]; exact ⟨rfl,rfl⟩))
  (fun os started H enc _=>returnsInHanded_of_change ownK started (by kernel_rfl) Try.func5
    (ChangeSpec.witness6 (enc:=enc) (C:=Try.checked) false ⟨#[],#[.slice none 0 0],[]⟩ 8 (by kernel_rfl) (by kernel_rfl) (by kernel_rfl) (by kernel_rfl))
    (fun W base args ds gs before hval hW _ _=>conFnDiffBack H enc W base args ds gs before hval hW))
end Go.Cod
