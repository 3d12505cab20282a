import Derived.ReadAgain
import Derived.ChangeSame
import Derived.RowKit
import Derived.ChangeAt
import Derived.OpenShut
import Derived.ChangeArms
import Derived.Deep.Slices
import Derived.JoinedOf
import Derived.Handed
import Derived.Lib.SliceRun
import GoSem.Extern.SlicesOverlaps
import Derived.Stop.LaidErr
import Derived.LaidEql
import Derived.MakeChecks
import Derived.ChangeVars
import Derived.Laws.Small
import Derived.Below
import Derived.Lib.LaidTab
import Derived.Test.YtheokahofeedjaaDoorCodC
namespace Go.Cod
open Go
variable [Lam]
def dstsOk (nt:Nat) (ops:List Oper):Bool:=ops.all fun o=>match o.dst with
 | some d=>decide (d < nt)
 | none=>true
def codeOk (nt:Nat):Code→Bool
 | .region _ ops _=>dstsOk nt ops.toList
 | .seq a b=>codeOk nt a&&codeOk nt b
 | .cond _ a b=>codeOk nt a&&codeOk nt b
 | .block _ c=>codeOk nt c
 | .loop c=>codeOk nt c
 | .scope c=>codeOk nt c
 | .rangeFunc _ ps a b=>codeOk nt a&&codeOk nt b&&ps.toList.all fun p=>decide (p < nt)
 | _=>true
omit [Lam] in
theorem wp_loop_var {F:Fence} {n0:Nat} {P:Program} {c:Code} {Q:Exit→Act→World→Prop} (J:Nat→Act→World→Prop)
  (round:∀ n a w,J n a w→c.wpIn F n0 P (Exit.then (fun a' w'=>∃ n',n' < n∧J n' a' w') Q) a w) {n:Nat} {a:Act} {w:World} (h₀:J n a w):(Code.loop c).wpIn F n0 P Q a w:=by
 intro b k cs hro hb hr
 have key:∀ n a w,J n a w →
   ∃ e a' w',Q e a' w'∧ArrivesIn (Machine.fenced P F) P (lone (b.atR a (.code c::.inLoop c::k)) cs w) b k cs e a' w':=by
  intro n
  induction n using Nat.strongRecOn with
  | _ n ih =>
    intro a w hI
    obtain ⟨e,a₁,w₁,hq,harr⟩:=round n a w hI b (.inLoop c::k) cs hro hb hr
    cases e with
    | normal =>
      obtain ⟨n',hlt,hI₁⟩:=hq
      obtain ⟨e₂,a₂,w₂,hq₂,harr₂⟩:=ih n' hlt a₁ w₁ hI₁
      exact ⟨e₂,a₂,w₂,hq₂,.of_steps (StepsIn.trans harr (.one (fenced_calm (fr:=b.atR a₁ (.inLoop c::k)) hb hr rfl) stepR_inLoop)) harr₂⟩
    | exit id=>exact ⟨_,a₁,w₁,hq,.pass (x:=.inLoop c) rfl (fun _ _=>.inl (by simp)) harr⟩
    | goto l=>exact ⟨_,a₁,w₁,hq,.pass (x:=.inLoop c) rfl (fun _ _=>.inl (by simp)) harr⟩
    | ret=>exact ⟨_,a₁,w₁,hq,.pass (x:=.inLoop c) rfl (fun _ _=>.inl (by simp)) harr⟩
    | panic ch=>exact ⟨_,a₁,w₁,hq,.pass (x:=.inLoop c) rfl (fun _ _=>.inl (by simp)) harr⟩
    | outgrown=>exact ⟨_,a₁,w₁,hq,.pass (x:=.inLoop c) rfl (fun _ _=>.inl (by simp)) harr⟩
 obtain ⟨e,a',w',hq,harr⟩:=key _ a w h₀
 exact ⟨e,a',w',hq,.of_steps (.one (fenced_calm (fr:=b.atR a (.code (.loop c)::k)) hb hr rfl) stepR_loop) harr⟩
variable {P:Program} {ok:OkY} {E:Env P ok} {w0:World} {mod:Nat→Prop} {γ0 γs:List G} {Pr0:Nat→Nat→Prop} {C0:Nat→Prop} {nt:Nat} {ρ:Option Nat}
 {Pr Pr':Nat→Nat→Prop} {γ γ' γc:List G} {C C':Nat→Prop} {fr fr':Nat→V} {st st':St} {a a':Act} {w w':World}
theorem X.drew (H:X P ok E w0 mod γ0 Pr0 C0 nt ρ Pr γ C fr st a w):X P ok E w0 mod γ0 Pr0 C0 nt ρ Pr γ C fr st a { w with drawn:=w.drawn+1 } :=
 H.still rfl rfl rfl (Nat.le_refl _) (fun _ _ _=>rfl) (fun _ _ _=>rfl) (fun _ _=>rfl) (fun _ _=>rfl) (fun l hl=>by obtain ⟨_,L,h,_⟩:=H.ext.round l hl; exact ⟨L,h⟩) (fun _ _ _ _=>rfl)
theorem aOps_sound {τ:Tau} (hτ:TauGood P τ) {ops:Array Oper} {K:(Nat→V)→St→Prop} {Z:V→(Nat→V)→St→Prop} {Q:Exit→Act→World→Prop}
  (hQ:∀ a w fr st Pr γ C,K fr st→X P ok E w0 mod γ0 Pr0 C0 nt ρ Pr γ C fr st a w→Q .normal a w)
  (hZ:∀ a w fr st Pr γ C v cv,Z v fr st→X P ok E w0 mod γ0 Pr0 C0 nt ρ Pr γ C fr st a w→Rep Pr γ w v cv→Q (.panic [{ v:=cv,recovered:=false }]) a w) :
  ∀ (l:List Oper) (is:List Nat),is.map (fun i=>ops[i]?)=l.map some→dstsOk nt l=true→∀ {fr:Nat→V} {st:St} {Pr γ C a w},X P ok E w0 mod γ0 Pr0 C0 nt ρ Pr γ C fr st a w→aOps P ok τ ops l fr st K Z→wpOpsIn (fen ρ) 0 P ops Q is a w
 | [],is,hi,_,fr,st,Pr,γ,C,a,w,A,h=>by
   cases is with
   | nil=>exact hQ a w fr st Pr γ C h A
   | cons i is=>simp at hi
 | o::l,is,hi,hd,fr,st,Pr,γ,C,a,w,A,h=>by
   cases is with
   | nil=>simp at hi
   | cons i is =>
     simp only [List.map_cons,List.cons.injEq] at hi
     obtain ⟨ho,hi⟩:=hi
     simp only [dstsOk,List.all_cons,Bool.and_eq_true] at hd
     have hd1:∀ x,o.dst=some x→x < nt:=by
      intro x hx
      have:=hd.1
      rw [hx] at this
      simpa using this
     simp only [wpOpsIn,ho]
     simp only [aOps_cons] at h
     simp only [force_eq,forceSt_eq] at h
     have go:aOp P ok τ o fr st (fun v st'=>aOps P ok τ ops l (Cod.put fr o.dst v) st' K Z) (fun v st'=>Z v fr st')→o.wpIn (fen ρ) 0 P a w (wpOpsIn (fen ρ) 0 P ops Q is) Q:=fun h =>
      aOp_sound hτ A h (fun v cv st' Pr' γ' C' w' hk hr A'=>aOps_sound hτ hQ hZ l is hi hd.2 (A'.put o.dst hd1 hr) hk) (fun v cv st' Pr' γ' C' w' hk hr A'=>hZ a w' fr st' Pr' γ' C' v cv hk A' hr)
     split at h
     · rename_i hg
       rw [if_pos (by simp [Region.wanted,hg])]
       exact go h
     · rename_i j want hg
       split at h
       · rename_i d hdj
         split at h
         · rename_i b hb
           have hs:=A.fr.slot d
           rw [hb] at hs
           have hy:yielded ops a.tmps j=some b:=by
            generalize hv:a.tmps.getD d undef=u at hs
            cases hs
            unfold yielded
            rw [hdj]
            simp only [Option.bind_some]
            rw [Array.getD_eq_getD_getElem?] at hv
            cases hget:a.tmps[d]? with
            | none=>rw [hget] at hv; simp [undef] at hv
            | some v'=>rw [hget] at hv; simp at hv; subst hv; rfl
           cases b <;> cases want <;> simp only [BC,negB,if_true,if_false,Bool.false_eq_true] at h
           · rw [if_pos (by simp [Region.wanted,hg,hy])]
             exact go h
           · rw [if_neg (by simp [Region.wanted,hg,hy])]
             exact ⟨fun _ _=>trivial,aOps_sound hτ hQ hZ l is hi hd.2 (A.put o.dst hd1 (.raw _)) h⟩
           · rw [if_neg (by simp [Region.wanted,hg,hy])]
             exact ⟨fun _ _=>trivial,aOps_sound hτ hQ hZ l is hi hd.2 (A.put o.dst hd1 (.raw _)) h⟩
           · rw [if_pos (by simp [Region.wanted,hg,hy])]
             exact go h
         · rename_i xs hb
           have hs:=A.fr.slot d
           rw [hb] at hs
           have hy:yielded ops a.tmps j=none:=by
            generalize hv:a.tmps.getD d undef=u at hs
            cases hs
            unfold yielded
            rw [hdj]
            simp only [Option.bind_some]
            rw [Array.getD_eq_getD_getElem?] at hv
            cases hget:a.tmps[d]? with
            | none=>rfl
            | some v'=>rw [hget] at hv; simp at hv; subst hv; rfl
           rw [if_neg (by simp [Region.wanted,hg,hy])]
           exact ⟨fun _ _=>trivial,aOps_sound hτ hQ hZ l is hi hd.2 (A.put o.dst hd1 (.raw _)) h⟩
         · exact h.elim
       · exact h.elim
omit [Lam] in
theorem readyL_mem {ops:Array Oper} {listed:Array Bool} {l:List Nat} (hs:listed.size=ops.size) (hl:∀ i,listed.getD i false=l.contains i) (i:Nat):i∈readyL ops l↔i∈Region.ready .any ops listed:=by
 rw [mem_ready]
 unfold readyL
 rw [List.mem_filter,List.mem_range,Bool.and_eq_true]
 constructor
 · rintro ⟨h1,h2,h3⟩
   refine ⟨?_,ops[i],by simp [h1],fun e he hb=>?_⟩
   · have:listed.getD i true=listed.getD i false:=by simp [Array.getD,hs,h1]
     rw [this,hl]
     simpa using h2
   · rw [hl]
     rw [show ops[i]? = some ops[i] by simp [h1]] at h3
     have:=List.all_eq_true.1 h3 e (by simpa using he)
     rw [hb] at this
     simpa using this
 · rintro ⟨h1,o,h2,h3⟩
   have hi:i < ops.size:=(Array.getElem?_eq_some_iff.1 h2).1
   refine ⟨hi,?_,?_⟩
   · have:listed.getD i true=listed.getD i false:=by simp [Array.getD,hs,hi]
     rw [this,hl] at h1
     simpa using h1
   · rw [h2]
     refine List.all_eq_true.2 fun e he=>?_
     cases hb:Region.binds .any e with
     | false=>rfl
     | true =>
       have:=h3 e (by simpa using he) hb
       rw [hl] at this
       simpa using this
theorem any_sound {τ:Tau} (hτ:TauGood P τ) {ops:Array Oper} (hd:∀ (i:Nat) t,dstOf ops i=some t→t < nt) {K:(Nat→V)→St→Prop} {Z:V→(Nat→V)→St→Prop} {Q:Exit→Act→World→Prop}
  (hQ:∀ a w fr st Pr γ C,K fr st→X P ok E w0 mod γ0 Pr0 C0 nt ρ Pr γ C fr st a w→Q .normal a w)
  (hZ:∀ a w fr st Pr γ C v cv,Z v fr st→X P ok E w0 mod γ0 Pr0 C0 nt ρ Pr γ C fr st a w→Rep Pr γ w v cv→Q (.panic [{ v:=cv,recovered:=false }]) a w) :
  ∀ (n:Nat) (listed:Array Bool) (l:List Nat),listed.size=ops.size→(∀ i,listed.getD i false=l.contains i)→∀ {fr:Nat→V} {st:St} {Pr γ C a w},X P ok E w0 mod γ0 Pr0 C0 nt ρ Pr γ C fr st a w →
    aAny P ok τ ops K Z n l fr st→wpAnyIn (fen ρ) 0 P .any ops Q n listed a w:=by
 intro n
 induction n with
 | zero =>
   intro listed l hs hl fr st Pr γ C a w A h
   simp only [aAny] at h
   split at h
   · rename_i hr
     refine ⟨?_,hQ a w fr st Pr γ C h A⟩
     refine List.eq_nil_iff_forall_not_mem.2 fun i hi=>?_
     have:=(readyL_mem hs hl i).2 hi
     rw [hr] at this; simp at this
   · exact h.elim
 | succ n ih =>
   intro listed l hs hl fr st Pr γ C a w A h
   simp only [aAny] at h
   split at h
   · rename_i hr
     refine ⟨fun _=>hQ a w fr st Pr γ C h A,fun i hi=>?_⟩
     have:=(readyL_mem hs hl i).2 hi
     rw [hr] at this; simp at this
   · rename_i i0 is hr
     refine ⟨fun hn=>?_,fun i hi=>?_⟩
     · have:i0∈Region.ready .any ops listed:=(readyL_mem hs hl i0).1 (by rw [hr]; simp)
       rw [hn] at this; simp at this
     · have hm:=(readyL_mem hs hl i).2 hi
       rw [hr] at hm
       have h:=allL_mem h i hm
       obtain ⟨_,o,ho,_⟩:=mem_ready.1 hi
       have hin:i < ops.size:=(Array.getElem?_eq_some_iff.1 ho).1
       have hdst:dstOf ops i=o.dst:=by simp [dstOf,ho]
       have hl':∀ j,(listed.setIfInBounds i true).getD j false=(i::l).contains j:=by
        intro j
        by_cases e:i=j
        · subst e; simp [Array.getD,hs,hin]
        · rw [getD_set_ne false e,hl j]
          simp [Ne.symm e]
       have next:∀ {Pr' γ' C' cv w' v st'},aAny P ok τ ops K Z n (i::l) (put fr o.dst v) st'→X P ok E w0 mod γ0 Pr0 C0 nt ρ Pr' γ' C' fr st' a w'→Rep Pr' γ' w' v cv→wpAnyIn (fen ρ) 0 P .any ops Q n (listed.setIfInBounds i true) (a.put o.dst cv) w':=fun hk A' hr' =>
        ih (listed.setIfInBounds i true) (i::l) (by simpa using hs) hl' (A'.put o.dst (fun t ht=>hd i t (by rw [hdst]; exact ht)) hr') hk
       have run:aOp P ok τ o fr st (fun v st'=>force v fun v=>forceSt st' fun st'=>aAny P ok τ ops K Z n (i::l) (put fr o.dst v) st') (fun v st'=>Z v fr st')→o.wpIn (fen ρ) 0 P a w (wpAnyIn (fen ρ) 0 P .any ops Q n (listed.setIfInBounds i true)) Q:=fun h =>
        aOp_sound hτ A h (fun v cv st' Pr' γ' C' w' hk hr' A'=>by
         rw [force_eq,forceSt_eq] at hk
         exact next hk A' hr') (fun v cv st' Pr' γ' C' w' hz hr' A'=>hZ a w' fr st' Pr' γ' C' v cv hz A' hr')
       unfold wpOpIn
       rw [ho] at h
       simp only [ho]
       simp only at h
       cases hg:o.guard with
       | none =>
         rw [hg] at h
         rw [if_pos (by simp [Region.wanted,hg])]
         exact run h
       | some q =>
         obtain ⟨j,want⟩:=q
         rw [hg] at h
         simp only at h
         split at h
         · rename_i d hdj
           split at h
           · rename_i b hb
             have hsl:=A.fr.slot d
             rw [hb] at hsl
             have hyb:yielded ops a.tmps j=some b:=by
              generalize hv:a.tmps.getD d undef=u at hsl
              cases hsl
              unfold yielded
              rw [hdj]
              simp only [Option.bind_some]
              rw [Array.getD_eq_getD_getElem?] at hv
              cases hget:a.tmps[d]? with
              | none=>rw [hget] at hv; simp [undef] at hv
              | some v'=>rw [hget] at hv; simp at hv; subst hv; rfl
             cases b <;> cases want <;> simp only [BC,negB,if_true,if_false,Bool.false_eq_true] at h
             · rw [if_pos (by simp [Region.wanted,hg,hyb])]
               exact run h
             · rw [if_neg (by simp [Region.wanted,hg,hyb])]
               exact ⟨fun _ _=>trivial,next h A (.raw _)⟩
             · rw [if_neg (by simp [Region.wanted,hg,hyb])]
               exact ⟨fun _ _=>trivial,next h A (.raw _)⟩
             · rw [if_pos (by simp [Region.wanted,hg,hyb])]
               exact run h
           · exact h.elim
         · exact h.elim
theorem cmp_sound (A:X P ok E w0 mod γ0 Pr0 C0 nt ρ Pr γ C fr st a w) {sel:Option (List Nat)} {K:(Nat→V)→St→Prop} (h:cmp γ0.length sel fr st K) :
  ∃ fr' st' γ',K fr' st'∧X P ok E w0 mod γ0 Pr0 C0 nt ρ Pr γ' C fr' st' a w:=by
 cases sel with
 | none=>exact ⟨fr,st,γ,h,A⟩
 | some sel =>
   obtain ⟨h1,h2⟩:=Chk_iff.1 h
   obtain ⟨γ',A'⟩:=A.compact h1
   exact ⟨_,_,γ',h2,A'⟩
theorem awp_sound {τ:Tau} (hτ:TauGood P τ):∀ (c:Code),codeOk nt c=true→Sound P ok E τ nt c
 | .skip,_,w0,mod,γ0,Pr0,C0,ρ,Qa,Q,hQ,fr,st,Pr,γ,C,a,w,A,h=>wpIn_skip (hQ .normal .normal a w fr st Pr γ C h A .normal)
 | .region id ops d,hc,w0,mod,γ0,Pr0,C0,ρ,Qa,Q,hQ,fr,st,Pr,γ,C,a,w,A,h=>by
   cases d with
   | true =>
     have hd:∀ (i:Nat) t,dstOf ops i=some t→t < nt:=by
      intro i t ht
      unfold dstOf at ht
      obtain ⟨o,h1,h2⟩:=Option.bind_eq_some_iff.1 ht
      have:=List.all_eq_true.1 hc o (by simpa using Array.mem_of_getElem? h1)
      rw [h2] at this
      simpa using this
     have gf:∀ i,(Array.replicate ops.size false).getD i false=false:=fun i=>by simp [Array.getD,Array.getElem_replicate]
     simp only [awp_region] at h
     split at h
     · obtain ⟨CH,h⟩:=withMat_iff h
       obtain ⟨ho,h⟩:=Chk_iff.1 h
       have M:=mix2_spec ho
       have e0:(frS ops (fun _=>undefV) fr fun j=>decide (j < 0)&&!chainC CH ops.size j)=fr:=by
        funext t; exact frS_miss (fun j _ hj=>by simp at hj)
       rw [← e0] at h
       obtain ⟨vs,_,hy,hK⟩:=erun2 M ops.toList 0 (fun _=>undefV) (fun j=>by simp) (by simp) h
       rw [forcePlan_eq] at hK
       refine wpIn_region_any hτ.mixed (mix2_sound hτ M (mat_cert ops) hd (Zf:=fun v st'=>∀ fr',Qa (.pan v) fr' st') (fun a w fr st Pr γ C v cv hk hr A=>hQ (.pan v) _ a w fr st Pr γ C (hk fr) A (.pan hr)) (fun a w fr st Pr γ C hk A=>hQ .normal .normal a w fr st Pr γ C hk A .normal) ops.size (Array.replicate ops.size false) (l:=[]) (n:=planOf (matL ops.size ops.toList 0 0) CH ops) (by simp) ?_ (fun i o ho hi=>?_) (plan_len _ _ _ fun i=>gf i) (fun j _=>?_) (fun t _=>rfl) (fun i o ho hci _=>hy i o (Nat.zero_le _) ho hci) hK (Pr:=Pr) (γ:=γ) (C:=C) ?_)
       · exact Nat.le_trans (List.length_filter_le _ _) (by simp)
       · rw [gf] at hi; cases hi
       · rw [gf]; simp
       · have e1:maskF2 CH ops (fun j=>(Array.replicate ops.size false).getD j false) fr (frS ops vs fr fun j=>decide (j < ops.size)&&!chainC CH ops.size j)=fr:=by
          funext t
          by_cases hm:∃ j,j < ops.size∧chainC CH ops.size j=false∧(Array.replicate ops.size false).getD j false=false∧dstOf ops j=some t
          · rw [maskF2_in hm]
          · rw [maskF2_out hm,frS_miss]
            intro j hj hL hjt
            simp only [Bool.and_eq_true,Bool.not_eq_true'] at hL
            exact hm ⟨j,hj,hL.2,gf j,hjt⟩
         rw [e1]
         exact A.drew
     · split at h
       · rename_i ho
         have O:=orderOk_spec ho
         have e0:frS ops (fun _=>undefV) fr (fun j=>decide (j < 0))=fr:=by
          funext t; exact frS_miss (fun j _ hj=>by simp at hj)
         rw [← e0] at h
         obtain ⟨vs,_,hy,hK⟩:=qrun O.uniq O.quiet ops.toList 0 (fun _=>undefV) (fun j=>by simp) (by simp) h
         refine wpIn_region_any hτ.mixed (draw_sound hτ O hd (fun i o ho=>hy i o (Nat.zero_le _) ho) (fun a w Pr γ C A=>hQ .normal .normal a w _ st Pr γ C hK A .normal) ops.size (Array.replicate ops.size false) (by simp) ?_ (fun i o ho hi=>?_) (Pr:=Pr) (γ:=γ) (C:=C) ?_)
         · exact Nat.le_trans (List.length_filter_le _ _) (by simp)
         · rw [show (Array.replicate ops.size false).getD i false=false by simp [Array.getD,Array.getElem_replicate]] at hi; cases hi
         · have e1:(frS ops vs fr fun j=>(Array.replicate ops.size false).getD j false)=fr:=by
            funext t; exact frS_miss (fun j _ hj=>by
             rw [show (Array.replicate ops.size false).getD j false=false by simp [Array.getD,Array.getElem_replicate]] at hj; cases hj)
           rw [e1]
           exact A.drew
       · split at h
         · rename_i ho
           have M:=mixOk_spec ho
           have e0:(frS ops (fun _=>undefV) fr fun j=>decide (j < 0)&&!chainAt ops j)=fr:=by
            funext t; exact frS_miss (fun j _ hj=>by simp at hj)
           rw [← e0] at h
           obtain ⟨vs,_,hy,hK⟩:=erun M ops.toList 0 (fun _=>undefV) (fun j=>by simp) (by simp) h
           refine wpIn_region_any hτ.mixed (mix_sound hτ M hd (Zf:=fun v st'=>∀ fr',Qa (.pan v) fr' st') (fun a w fr st Pr γ C v cv hk hr A=>hQ (.pan v) _ a w fr st Pr γ C (hk fr) A (.pan hr)) (fun i o ho hci=>hy i o (Nat.zero_le _) ho hci) (fun a w fr st Pr γ C hk A=>hQ .normal .normal a w fr st Pr γ C hk A .normal) ops.size (Array.replicate ops.size false) (rest:=ops.toList) (k:=0) (by simp) ?_ (fun i o ho hi=>?_) (fun j=>by simp) (Nat.zero_le _) (fun j _=>?_) (fun t _=>rfl) (.inr (.refl _)) (.inr rfl) hK (Pr:=Pr) (γ:=γ) (C:=C) ?_)
           · exact Nat.le_trans (List.length_filter_le _ _) (by simp)
           · rw [gf] at hi; cases hi
           · rw [gf]; simp
           · have e1:maskF ops (fun j=>(Array.replicate ops.size false).getD j false) fr (frS ops vs fr fun j=>decide (j < ops.size)&&!chainAt ops j)=fr:=by
              funext t
              by_cases hm:∃ j,j < ops.size∧chainAt ops j=false∧(Array.replicate ops.size false).getD j false=false∧dstOf ops j=some t
              · rw [maskF_in hm]
              · rw [maskF_out hm,frS_miss]
                intro j hj hL hjt
                simp only [Bool.and_eq_true,Bool.not_eq_true'] at hL
                exact hm ⟨j,hj,hL.2,gf j,hjt⟩
             rw [e1]
             exact A.drew
         · obtain ⟨CH,h⟩:=withMat_iff h
           split at h
           · rename_i ho
             have M:=mix2_spec ho
             have e0:(frS ops (fun _=>undefV) fr fun j=>decide (j < 0)&&!chainC CH ops.size j)=fr:=by
              funext t; exact frS_miss (fun j _ hj=>by simp at hj)
             rw [← e0] at h
             obtain ⟨vs,_,hy,hK⟩:=erun2 M ops.toList 0 (fun _=>undefV) (fun j=>by simp) (by simp) h
             rw [forcePlan_eq] at hK
             refine wpIn_region_any hτ.mixed (mix2_sound hτ M (mat_cert ops) hd (Zf:=fun v st'=>∀ fr',Qa (.pan v) fr' st') (fun a w fr st Pr γ C v cv hk hr A=>hQ (.pan v) _ a w fr st Pr γ C (hk fr) A (.pan hr)) (fun a w fr st Pr γ C hk A=>hQ .normal .normal a w fr st Pr γ C hk A .normal) ops.size (Array.replicate ops.size false) (l:=[]) (n:=planOf (matL ops.size ops.toList 0 0) CH ops) (by simp) ?_ (fun i o ho hi=>?_) (plan_len _ _ _ fun i=>gf i) (fun j _=>?_) (fun t _=>rfl) (fun i o ho hci _=>hy i o (Nat.zero_le _) ho hci) hK (Pr:=Pr) (γ:=γ) (C:=C) ?_)
             · exact Nat.le_trans (List.length_filter_le _ _) (by simp)
             · rw [gf] at hi; cases hi
             · rw [gf]; simp
             · have e1:maskF2 CH ops (fun j=>(Array.replicate ops.size false).getD j false) fr (frS ops vs fr fun j=>decide (j < ops.size)&&!chainC CH ops.size j)=fr:=by
                funext t
                by_cases hm:∃ j,j < ops.size∧chainC CH ops.size j=false∧(Array.replicate ops.size false).getD j false=false∧dstOf ops j=some t
                · rw [maskF2_in hm]
                · rw [maskF2_out hm,frS_miss]
                  intro j hj hL hjt
                  simp only [Bool.and_eq_true,Bool.not_eq_true'] at hL
                  exact hm ⟨j,hj,hL.2,gf j,hjt⟩
               rw [e1]
               exact A.drew
           · refine wpIn_region_any hτ.mixed (any_sound hτ hd (fun a w fr st Pr γ C hk A=>hQ .normal .normal a w fr st Pr γ C hk A .normal) (fun a w fr st Pr γ C v cv hk A hr=>hQ (.pan v) _ a w fr st Pr γ C hk A (.pan hr)) ops.size (Array.replicate ops.size false) [] (by simp) (fun i=>by rw [gf]; rfl) A.drew h)
   | false =>
     refine wpIn_region (aOps_sound hτ (fun a w fr st Pr γ C hk A=>hQ .normal .normal a w fr st Pr γ C hk A .normal) (fun a w fr st Pr γ C v cv hk A hr=>hQ (.pan v) _ a w fr st Pr γ C hk A (.pan hr)) ops.toList (List.range ops.size) ?_ hc A h)
     apply List.ext_getElem?
     intro i
     simp only [List.getElem?_map]
     by_cases hi:i < ops.size
     · simp [hi]
     · simp [hi]
 | .seq x y,hc,w0,mod,γ0,Pr0,C0,ρ,Qa,Q,hQ,fr,st,Pr,γ,C,a,w,A,h=>by
   simp only [codeOk,Bool.and_eq_true] at hc
   refine wpIn_seq (awp_sound hτ x hc.1 w0 mod γ0 Pr0 C0 ρ (AThen (awp P ok τ γ0.length y Qa) Qa) _ (fun e x' a w fr st Pr γ C hq A hx=>?_) _ _ _ _ _ _ _ A h)
   cases hx with
   | normal=>exact awp_sound hτ y hc.2 w0 mod γ0 Pr0 C0 ρ Qa _ hQ _ _ _ _ _ _ _ A hq
   | exit id=>exact hQ (.exit id) _ a w fr st Pr γ C hq A (.exit id)
   | ret=>exact hQ .ret _ a w fr st Pr γ C hq A .ret
   | pan hv=>exact hQ (.pan _) _ a w fr st Pr γ C hq A (.pan hv)
 | .cond c x y,hc,w0,mod,γ0,Pr0,C0,ρ,Qa,Q,hQ,fr,st,Pr,γ,C,a,w,A,h=>by
   simp only [codeOk,Bool.and_eq_true] at hc
   have hs:=A.fr.ev c
   simp only [awp_cond] at h
   generalize hv:ev fr c=v at hs h
   generalize hu:a.eval c=u at hs
   unfold ACond at h
   split at h
   · rename_i b
     cases hs
     cases b
     · exact wpIn_cond_false hu (awp_sound hτ y hc.2 w0 mod γ0 Pr0 C0 ρ Qa _ hQ _ _ _ _ _ _ _ A h)
     · exact wpIn_cond_true hu (awp_sound hτ x hc.1 w0 mod γ0 Pr0 C0 ρ Qa _ hQ _ _ _ _ _ _ _ A h)
   · exact h.elim
 | .block id c,hc,w0,mod,γ0,Pr0,C0,ρ,Qa,Q,hQ,fr,st,Pr,γ,C,a,w,A,h=>by
   refine wpIn_block (awp_sound hτ c hc w0 mod γ0 Pr0 C0 ρ (ABlock id Qa) _ (fun e x a w fr st Pr γ C hq A hx=>?_) _ _ _ _ _ _ _ A h)
   cases hx with
   | normal=>exact hQ .normal .normal a w fr st Pr γ C hq A .normal
   | exit j =>
     simp only [ABlock] at hq
     simp only [Exit.inBlock]
     split
     · rename_i e; rw [if_pos e] at hq; exact hQ .normal .normal a w fr st Pr γ C hq A .normal
     · rename_i e; rw [if_neg e] at hq; exact hQ (.exit j) (.exit j) a w fr st Pr γ C hq A (.exit j)
   | ret=>exact hQ .ret .ret a w fr st Pr γ C hq A .ret
   | pan hv=>exact hQ (.pan _) _ a w fr st Pr γ C hq A (.pan hv)
 | .loop c,hc,w0,mod,γ0,Pr0,C0,ρ,Qa,Q,hQ,fr,st,Pr,γ,C,a,w,A,h=>by
   obtain ⟨J,n,flag,s0,hI,hr⟩:=h
   obtain ⟨fr1,st1,γ1,hI1,A1⟩:=cmp_sound A hI
   refine wp_loop_var (fun n a w=>∃ fr st Pr γ C,J n fr st∧X P ok E w0 mod γ0 Pr0 C0 nt ρ Pr γ C fr st a w) (fun n a w hJ=>?_) ⟨fr1,st1,Pr,γ1,C,hI1,A1⟩
   obtain ⟨fr,st,Pr,γ,C,hI,A⟩:=hJ
   refine awp_sound hτ c hc w0 mod γ0 Pr0 C0 ρ (AThen (ALoop γ0.length flag J n) Qa) _ (fun e x a w fr st Pr γ C hq A hx=>?_) _ _ _ _ _ _ _ A (hr n fr st hI)
   cases hx with
   | normal =>
     cases flag with
     | false =>
       obtain ⟨n',hlt,hJ'⟩:=hq
       exact ⟨n',hlt,fr,st,Pr,γ,C,hJ',A⟩
     | true =>
       obtain ⟨n',hlt,sel,hJ'⟩:=hq
       obtain ⟨fr2,st2,γ2,hI2,A2⟩:=cmp_sound A hJ'
       exact ⟨n',hlt,fr2,st2,Pr,γ2,C,hI2,A2⟩
   | exit id=>exact hQ (.exit id) _ a w fr st Pr γ C hq A (.exit id)
   | ret=>exact hQ .ret _ a w fr st Pr γ C hq A .ret
   | pan hv=>exact hQ (.pan _) _ a w fr st Pr γ C hq A (.pan hv)
 | .rangeFunc f ps x y,hc,w0,mod,γ0,Pr0,C0,ρ,Qa,Q,hQ,fr,st,Pr,γ,C,a,w,A,h=>by
   simp only [codeOk,Bool.and_eq_true,List.all_eq_true,decide_eq_true_eq] at hc
   simp only [awp_rangeFunc] at h
   split at h
   · rename_i g cap hf
     exact range_sound (awp_sound hτ x hc.1.1) (awp_sound hτ y hc.1.2) hc.2 A hf h hQ
   · exact h.elim
 | .exit id,_,w0,mod,γ0,Pr0,C0,ρ,Qa,Q,hQ,fr,st,Pr,γ,C,a,w,A,h=>wpIn_exit (hQ (.exit id) (.exit id) a w fr st Pr γ C h A (.exit id))
 | .ret,_,w0,mod,γ0,Pr0,C0,ρ,Qa,Q,hQ,fr,st,Pr,γ,C,a,w,A,h=>wpIn_ret (hQ .ret .ret a w fr st Pr γ C h A .ret)
 | .scope _,_,_,_,_,_,_,_,_,_,_,_,_,_,_,_,_,_,_,h=>h.elim
 | .label _,_,_,_,_,_,_,_,_,_,_,_,_,_,_,_,_,_,_,h=>h.elim
 | .goto _,_,_,_,_,_,_,_,_,_,_,_,_,_,_,_,_,_,_,h=>h.elim
 | .refuse _,_,_,_,_,_,_,_,_,_,_,_,_,_,_,_,_,_,_,h=>h.elim
end Go.Cod
namespace Go.Cod
open Go
variable [Lam]
def aResults (τ:Tau) (fr:Nat→V) (st:St):List ResultVar→(List V→Prop)→Prop
 | [],K=>K []
 | .tmp t::rest,K=>aResults τ fr st rest fun vs=>K (fr t::vs)
 | .cell a t::rest,K=>aLoad τ t (fr a) st fun v=>aResults τ fr st rest fun vs=>K (v::vs)
def oneOr:List V→V
 | [v]=>v
 | vs=>.tup vs
def AEnd (τ:Tau) (rs:List ResultVar) (R:V→Prop):Ex→(Nat→V)→St→Prop
 | .normal=>fun fr st=>aResults τ fr st rs fun vs=>force (share st (oneOr vs)) fun r=>Chk (V.clean 0 r) (R r)
 | .ret=>fun fr st=>aResults τ fr st rs fun vs=>force (share st (oneOr vs)) fun r=>Chk (V.clean 0 r) (R r)
 | _=>fun _ _=>False
def AOut (n:Nat) (R:V→St→Prop) (v:V) (st:St):Prop:=∃ (extra:List Nat) (kn:Bool),
 Chk (selOk n (List.range n++extra) st) (force (renV (List.range n++extra) (shr (List.range n++extra) kn st v)) fun r =>
  forceSt (cmpSt (List.range n++extra) (lend st ((owns v).filter fun k=>!(List.range n++extra).contains k))) fun st'=>R r st')
def AEndF (τ:Tau) (rs:List ResultVar) (n:Nat) (R:Out→St→Prop):Ex→(Nat→V)→St→Prop
 | .normal=>fun fr st=>aResults τ fr st rs fun vs=>AOut n (fun r st'=>R (.ret r) st') (oneOr vs) st
 | .ret=>fun fr st=>aResults τ fr st rs fun vs=>AOut n (fun r st'=>R (.ret r) st') (oneOr vs) st
 | .pan v=>fun _ st=>AOut n (fun r st'=>R (.pan r) st') v st
 | .exit _=>fun _ _=>False
def initFr (args:List V):Nat→V:=fun t=>args.getD t undefV
def rvRun (tmps:Array Value):ResultVar→Sem Value
 | .tmp t=>pure (tmps.getD t undef)
 | .cell x t=>do loadVar t (← asAddr (tmps.getD x undef))
def oneOrC:List Value→Value
 | [v]=>v
 | vs=>.tuple vs.toArray
variable {P:Program} {ok:OkY} {E:Env P ok} {w0:World} {mod:Nat→Prop} {γ0 γs:List G} {Pr0:Nat→Nat→Prop} {C0:Nat→Prop} {nt:Nat} {ρ:Option Nat}
 {Pr Pr':Nat→Nat→Prop} {γ γ' γc:List G} {C C':Nat→Prop} {fr fr':Nat→V} {st st':St} {a a':Act} {w w':World}
theorem aLoad_mono {τ t p st} {K K':V→Prop} (hk:∀ v,K v→K' v) (h:aLoad τ t p st K):aLoad τ t p st K':=by
 obtain ⟨v,h1,h2⟩:=aLoad_det h
 exact h2 K' (hk v h1)
theorem aResults_mono {τ:Tau}:∀ (rs:List ResultVar) {K K':List V→Prop},(∀ v,K v→K' v)→aResults τ fr st rs K→aResults τ fr st rs K'
 | [],_,_,hk,h=>hk _ h
 | .tmp _::rs,_,_,hk,h=>aResults_mono rs (fun _=>hk _) h
 | .cell _ _::rs,_,_,hk,h=>aLoad_mono (fun _ hv=>aResults_mono rs (fun _=>hk _) hv) h
theorem aResults_run {τ:Tau} (hτ:TauOk P τ) (F:FrOk Pr γ w fr a nt) (S:StOk Pr γ w st) (hpl:∀ (k:Nat) e,e∈poolEs st k→EntOk Pr w e) :
  ∀ (rs:List ResultVar) {K:List V→Prop},aResults τ fr st rs K→∃ vs cvs,K vs∧RepL Pr γ w vs cvs ∧
    (rs.mapM (rvRun a.tmps):Sem (List Value)).run P w=.ok cvs w
 | [],K,h=>⟨[],[],h,RepL.nil,rfl⟩
 | .tmp t::rs,K,h=>by
   obtain ⟨vs,cvs,h1,h2,h3⟩:=aResults_run hτ F S hpl rs h
   refine ⟨_,a.tmps.getD t undef::cvs,h1,RepL.cons (F.slot t) h2,?_⟩
   rw [List.mapM_cons,Sem.run_bind,show (rvRun a.tmps (.tmp t)).run P w=.ok (a.tmps.getD t undef) w from rfl,Result.andThen_ok,Sem.run_bind,h3]
   rfl
 | .cell x t::rs,K,h=>by
   simp only [aResults] at h
   obtain ⟨v,cv,h1,h2,h3⟩:=aLoad_sound hτ S hpl h (F.slot x)
   obtain ⟨vs,cvs,k1,k2,k3⟩:=aResults_run hτ F S hpl rs h1
   refine ⟨_,cv::cvs,k1,RepL.cons h2 k2,?_⟩
   have hrun:(rvRun a.tmps (.cell x t)).run P w=.ok cv w:=by
    unfold rvRun
    have hs:=F.slot x
    simp only
    generalize a.tmps.getD x undef=u at hs h3 ⊢
    rw [← h3]
    cases u with
    | pointer q =>
      cases q with
      | some q=>simp [asAddr,Instr.loadAt,Instr.sureAddr]
      | none=>simp [Instr.loadAt,Instr.sureAddr] at h3
    | _=>simp [Instr.loadAt,Instr.sureAddr] at h3
   rw [List.mapM_cons,Sem.run_bind,hrun,Result.andThen_ok,Sem.run_bind,k3]
   rfl
omit [Lam] in
theorem run_results {fn:Func} {cvs:List Value}
  (h:(fn.results.toList.mapM (rvRun a.tmps):Sem (List Value)).run P w=.ok cvs w) :
  (results fn a.tmps).run P w=.ok (oneOrC cvs) w:=by
 have hres:results fn a.tmps=(do let vs ← fn.results.mapM (rvRun a.tmps); pure (if h:vs.size=1 then vs[0] else .tuple vs)):=by
  unfold results
  congr 1
 rw [hres,Sem.run_bind]
 have:(fn.results.mapM (rvRun a.tmps):Sem (Array Value)).run P w=.ok cvs.toArray w:=by
  rw [← Array.toArray_toList (xs:=fn.results),List.mapM_toArray,Sem.run_map,h]
  rfl
 rw [this,Result.andThen_ok]
 match cvs with
 | []=>rfl
 | [v]=>rfl
 | v::u::vs=>simp [oneOrC]
theorem X.unmark (H:X P ok E w0 mod γ0 Pr0 C0 nt none Pr γ C fr st a w) {r:Nat} {rs:List Nat} (hd:a.defers=(r::rs).map mark) :
  (Instr.takeDeferred r).run P w=.ok [] (w.putObj r (.deferred none))∧Keep Pr Pr γ γ w (w.putObj r (.deferred none))∧X P ok E w0 mod γ0 Pr0 C0 nt none Pr γ C fr st { a with defers:=rs.map mark } (w.putObj r (.deferred none)):=by
 obtain ⟨rs',m1,m2,m3⟩:=H.ext.marks
 have e:rs'=r::rs:=List.map_inj_right (by intro x y h; simpa [mark] using h) |>.1 (m1.symm.trans hd)
 subst e
 rw [List.nodup_cons] at m2
 obtain ⟨q1,q2,q3⟩:=m3 r (by simp)
 have hlt:=(Array.getElem?_eq_some_iff.1 q1).1
 have hold:∀ b,b≠r→(w.putObj r (.deferred none)).heap[b]? = w.heap[b]? := fun b hb=>World.putObj_heap_other hb
 have hnew:(w.putObj r (.deferred none)).heap[r]? = some (.deferred none):=World.putObj_heap_same hlt
 have D:=H.ext
 have H':X P ok E w0 mod γ0 Pr0 C0 nt none Pr γ C fr st { a with defers:=rs.map mark } w :=
  ⟨H.mine,⟨D.clow,D.apart,D.prC,D.maps,D.mone,D.mmine,D.yld,D.yone,⟨rs,rfl,m2.2,fun x hx=>m3 x (by simp [hx])⟩,fun l h=>(by cases h),D.pools⟩,⟨H.fr.size,H.fr.slot⟩,H.st,H.base⟩
 have hcell:∀ b n,(w.putObj r (.deferred none)).cell? ⟨b,n,none⟩=w.cell? ⟨b,n,none⟩:=by
  intro b n
  by_cases e:b=r
  · rw [e]; simp only [World.cell?,hnew,q1]
  · exact cell_of_block (hold b e) n
 refine ⟨run_takeDeferred q1,⟨fun _ _ h=>h,fun b n _=>hcell b n,fun _ _ h=>h⟩,H'.still rfl rfl rfl (by simp) (fun b n _=>hcell b n) (fun k b ho=>hold _ fun e=>?_) (fun b hb=>hold b fun e=>q2 (e ▸ hb)) (fun x hx=>hold x fun e=>?_) (fun l h=>by cases h) (fun b h1 h2 h3=>hold b fun e=>by omega)⟩
 · subst e
   rcases H.owns_obj ho with ⟨cur,ty,f,h⟩ | ⟨es,c,h⟩ <;> exact absurd (q1.symm.trans h) (by simp)
 · obtain ⟨x',hx',he⟩:=List.mem_map.1 hx
   have:x'=x:=by simpa [mark] using he
   subst this
   exact m2.1 (e ▸ hx')
theorem leaves_marks {fn:Func} {R:Ending→World→Prop} {u:FrameMode} (hu:u≠.run):∀ (rs:List Nat) {a:Act} {w:World},X P ok E w0 mod γ0 Pr0 C0 nt none Pr γ C fr st a w→a.defers=rs.map mark →
  (∀ w',Keep Pr Pr γ γ w w'→X P ok E w0 mod γ0 Pr0 C0 nt none Pr γ C fr st { a with defers:=[] } w'→LeavesIn Fence.wide 0 P fn a.tmps R [] u w')→LeavesInM Fence.wide 0 P fn a.tmps R (rs.map mark) u w
 | [],a,w,H,hd,hfin=>hfin w (Keep.refl _ _ _) (by rw [← show a.defers=[] from hd]; exact H)
 | r::rs,a,w,H,hd,hfin=>by
   obtain ⟨h1,K,h2⟩:=H.unmark hd
   exact ⟨hu,.inl ⟨r,_,rfl,h1,leaves_marks hu rs (a:={ a with defers:=rs.map mark }) h2 rfl fun w' K'=>hfin w' (K.trans K')⟩⟩
theorem AOut_sound {n:Nat} {R:V→St→Prop} {v:V} {cv:Value} (H:X P ok E w0 mod γ0 Pr0 C0 nt ρ Pr γ C fr st a w) (hn:γ0.length=n) (h:AOut n R v st) (hv:Rep Pr γ w v cv) :
  ∃ r st' Pr' γ' fr',R r st'∧Rep Pr' γ' w r cv∧X P ok E w0 mod γ0 Pr0 C0 nt ρ Pr' γ' C fr' st' a w:=by
 subst hn
 obtain ⟨extra,kn,h⟩:=h
 obtain ⟨hs,h⟩:=Chk_iff.1 h
 rw [force_eq,forceSt_eq] at h
 obtain ⟨Pr1,K1,H1,R1⟩:=H.lend ((owns v).filter fun k=>!(List.range γ0.length++extra).contains k)
 have hv1:=shr_rep (σ:=List.range γ0.length++extra) (kn:=kn) (st:=st) K1 v cv (fun k hk hc=>R1 k (List.mem_filter.2 ⟨hk,by rw [hc]; rfl⟩)) hv
 have hs':selOk γ0.length (List.range γ0.length++extra) (lend st ((owns v).filter fun k=>!(List.range γ0.length++extra).contains k))=true:=by
  unfold selOk at hs ⊢
  rw [lend_len]; exact hs
 obtain ⟨γ',hr,H2⟩:=H1.compact' hs'
 exact ⟨_,_,Pr1,γ',_,h,hr _ _ hv1,H2⟩
theorem full_of_awp' {τ:Tau} (hτ:TauGood P τ) {f:FuncId} {fn:Func} {c:Code} {args:List V} {st0:St} {R:Out→St→Prop} {Qa:Ex→(Nat→V)→St→Prop}
  (hf : P.funcs[f]? = some fn) (hb : fn.body = some c) (hname : (fn.name == "runtime.NumGoroutine") = false) (hc : codeOk fn.ntmps c = true)
  (hsub:∀ e fr st,Qa e fr st→AEndF τ fn.results.toList st0.length R e fr st)
  (h:awp P ok τ st0.length c Qa (initFr args) st0):Full P ok f args st0 R:=by
 refine ⟨⟨fn,hf,hname,by rw [hb]; rfl⟩,fun E C Pr γ w cargs hr hst hext=>?_⟩
 have hγ:γ.length=st0.length:=hst.len
 have A0:X P ok E w (modOf st0 γ) γ Pr C fn.ntmps none Pr γ C (initFr args) st0 { tmps:=cargs.toArray++Array.replicate (fn.ntmps - cargs.toArray.size) undef,defers:=[] } w:=by
  refine ⟨fun k o g h1 h2 h3=>.inr ⟨k,own_owns h1 h2 (own_iff.2 (.inl h3))⟩,hext,⟨by simp; omega,fun t=>?_⟩,hst,⟨rfl,rfl,rfl,Nat.le_refl _,fun _ _ _ _=>rfl,fun _ _ h=>h,fun _ _ h=>.inl h,fun _ _ h=>h,fun _ _ _=>rfl,fun _ h=>h,fun _ h=>.inl h⟩⟩
  by_cases ht:t < args.length
  · have ht':t < cargs.length:=by rw [← hr.1]; exact ht
    have e1:initFr args t=args[t]:=by simp [initFr,List.getD,ht]
    have e2:(cargs.toArray++Array.replicate (fn.ntmps - cargs.toArray.size) undef).getD t undef=cargs[t]:=by
     rw [Array.getD_eq_getD_getElem?,Array.getElem?_append_left (by simpa using ht')]
     simp [ht']
    rw [e1,e2]
    exact hr.2 t _ _ (by simp [ht]) (by simp [ht'])
  · have ht':¬ t < cargs.length:=by rw [← hr.1]; exact ht
    have e1:initFr args t=.raw undef:=by simp [initFr,List.getD,ht,undefV]
    have e2:(cargs.toArray++Array.replicate (fn.ntmps - cargs.toArray.size) undef).getD t undef=undef:=by
     rw [Array.getD_eq_getD_getElem?,Array.getElem?_append_right (by simpa using ht'),Array.getElem?_replicate]
     split <;> rfl
    rw [e1,e2]; exact .raw _
 refine (callsIn_wide (n:=0)).1 (callsIn_of_wp_marks hf hb trivial (awp_sound hτ c hc w (modOf st0 γ) γ Pr C none Qa _ (fun e x a w' fr st Pr1 γ1 C1 hq A hx=>?_) _ _ _ _ _ _ _ A0 (by rw [hγ]; exact h)))
 have hq:=hsub _ _ _ hq
 have fin:∀ {o:Out} {e:Ending} {st':St} {Pr':Nat→Nat→Prop} {γ':List G} {fr':Nat→V} {a':Act} {w'':World},RepO Pr' γ' w'' o e→R o st'→a'.defers=[]→X P ok E w (modOf st0 γ) γ Pr C fn.ntmps none Pr' γ' C1 fr' st' a' w'' →
   ∃ o st' γ' Pr' C',RepO Pr' γ' w'' o e∧R o st'∧StOk Pr' γ' w'' st'∧Mine w (modOf st0 γ) γ' st'∧Ext P ok E w (modOf st0 γ) C' none Pr' γ' st' [] w''∧Base2 w (modOf st0 γ) γ Pr C Pr' γ' C' w'' :=
  fun h1 h2 h3 HX=>⟨_,_,_,_,_,h1,h2,HX.st,HX.mine,by have:=HX.ext; rw [h3] at this; exact this,HX.base⟩
 have done:aResults τ fr st fn.results.toList (fun vs=>AOut st0.length (fun r st'=>R (.ret r) st') (oneOr vs) st)→LeavesInM Fence.wide 0 P fn a.tmps (fun e w'=>∃ o st' γ' Pr' C',RepO Pr' γ' w' o e∧R o st'∧StOk Pr' γ' w' st'∧Mine w (modOf st0 γ) γ' st'∧Ext P ok E w (modOf st0 γ) C' none Pr' γ' st' [] w'∧Base2 w (modOf st0 γ) γ Pr C Pr' γ' C' w') a.defers .returning w':=by
  intro hret
  obtain ⟨rs,m1,_⟩:=A.ext.marks
  rw [m1]
  refine leaves_marks (by simp) rs A m1 fun w'' K A'=>?_
  obtain ⟨vs,cvs,hK,hrep,hrun⟩:=aResults_run hτ.ok A'.fr A'.st A'.poolEnt _ hret
  have hone:Rep Pr1 γ1 w'' (oneOr vs) (oneOrC cvs):=by
   match vs,cvs,hrep with
   | [],[],_=>exact .tup rfl (by simp)
   | [v],[cv],hrep=>exact hrep.2 0 v cv rfl rfl
   | v::u::vs,cv::cu::cvs,hrep=>exact .tup hrep.1 hrep.2
   | [],_::_,hrep=>simp [RepL] at hrep
   | _::_,[],hrep=>simp [RepL] at hrep
   | [_],_::_::_,hrep=>simp [RepL] at hrep
   | _::_::_,[_],hrep=>simp [RepL] at hrep
  obtain ⟨r,st',Pr',γ',fr',h1,h2,h3⟩:=AOut_sound A' hγ hK hone
  exact ⟨_,run_results hrun,fin (.ret h2) h1 rfl h3⟩
 cases hx with
 | normal=>exact done hq
 | ret=>exact done hq
 | exit id=>exact hq.elim
 | pan hv =>
   obtain ⟨rs,m1,_⟩:=A.ext.marks
   show LeavesInM Fence.wide 0 P fn a.tmps _ a.defers (.panicking _) w'
   rw [m1]
   refine leaves_marks (by simp) rs A m1 fun w'' K A'=>?_
   obtain ⟨r,st',Pr',γ',fr',h1,h2,h3⟩:=AOut_sound A' hγ hq (hv.keep K)
   exact fin (.pan h2) h1 rfl h3
theorem full_of_awp {τ:Tau} (hτ:TauGood P τ) {f:FuncId} {fn:Func} {c:Code} {args:List V} {st0:St} {R:Out→St→Prop}
  (hf : P.funcs[f]? = some fn) (hb : fn.body = some c) (hname : (fn.name == "runtime.NumGoroutine") = false) (hc : codeOk fn.ntmps c = true)
  (h:awp P ok τ st0.length c (AEndF τ fn.results.toList st0.length R) (initFr args) st0):Full P ok f args st0 R :=
 full_of_awp' hτ hf hb hname hc (fun _ _ _ h=>h) h
omit [Lam] in
mutual
theorem shr_nil (st:St):∀ x:V,shr [] false st x=share st x
 | .own k=>rfl
 | .nils=>rfl
 | .agg cs=>by simp only [shr,share]; rw [shrL_nil st cs]
 | .tup cs=>by simp only [shr,share]; rw [shrL_nil st cs]
 | .fn f cs=>by simp only [shr,share]; rw [shrL_nil st cs]
 | .iface t y=>by simp only [shr,share]; rw [shr_nil st y]
 | .meth n y=>by simp only [shr,share]; rw [shr_nil st y]
 | .bnd n y=>by simp only [shr,share]; rw [shr_nil st y]
 | .bool _ | .int _ _ | .str _ | .sl _ | .ptr _ _ _ | .win _ _ _ _ | .cptr _ _ | .rptr _ | .raw _ | .any | .map _ | .yld _ | .dref _ _ _ | .dptr _ _ _ _=>rfl
theorem shrL_nil (st:St):∀ cs:List V,shr.go [] false st cs=share.go st cs
 | []=>rfl
 | y::ys=>by simp only [shr.go,share.go]; rw [shr_nil st y,shrL_nil st ys]
end
omit [Lam] in
mutual
theorem renV_clean (sel:List Nat):∀ x:V,x.clean 0=true→renV sel x=x
 | .own _,h=>by simp [V.clean] at h
 | .ptr _ _ _,h | .win _ _ _ _,h | .cptr _ _,h | .map _,h | .yld _,h=>by simp [V.clean] at h
 | .agg cs,h | .tup cs,h | .rptr cs,h | .fn _ cs,h=>by simp only [V.clean] at h; simp only [renV]; rw [renL_clean sel cs h]
 | .iface _ x,h=>by simp only [V.clean] at h; simp only [renV]; rw [renV_clean sel x h]
 | .meth _ x,h=>by simp only [V.clean] at h; simp only [renV]; rw [renV_clean sel x h]
 | .bnd _ x,h=>by simp only [V.clean] at h; simp only [renV]; rw [renV_clean sel x h]
 | .bool _,_ | .int _ _,_ | .str _,_ | .nils,_ | .sl _,_ | .raw _,_ | .any,_ | .dref _ _ _,_ | .dptr _ _ _ _,_=>rfl
theorem renL_clean (sel:List Nat):∀ cs:List V,V.clean.cleanL 0 cs=true→renV.go sel cs=cs
 | [],_=>rfl
 | x::xs,h=>by
   simp only [V.clean.cleanL,Bool.and_eq_true] at h
   simp only [renV.go]; rw [renV_clean sel x h.1,renL_clean sel xs h.2]
end
theorem pure_of_awp {τ:Tau} (hτ:TauGood P τ) {f:FuncId} {fn:Func} {c:Code} {args:List V} {R:V→Prop}
  (hf : P.funcs[f]? = some fn) (hb : fn.body = some c) (hname : (fn.name == "runtime.NumGoroutine") = false) (hc : codeOk fn.ntmps c = true)
  (h:awp P noY τ 0 c (AEnd τ fn.results.toList R) (initFr args) []):Pure P f args R:=by
 have key:∀ (fr:Nat→V) (st:St),aResults τ fr st fn.results.toList (fun vs=>force (share st (oneOr vs)) fun r=>Chk (V.clean 0 r) (R r)) →
   aResults τ fr st fn.results.toList (fun vs=>AOut 0 (fun r st'=>(fun (o:Out) (st':St)=>st'=[]∧∃ r,o=.ret r∧R r) (.ret r) st') (oneOr vs) st):=by
  intro fr st h
  refine aResults_mono _ (fun vs hv=>?_) h
  rw [force_eq] at hv
  obtain ⟨h1,h2⟩:=Chk_iff.1 hv
  refine ⟨[],false,Chk_iff.2 ⟨by simp [selOk],?_⟩⟩
  rw [force_eq,forceSt_eq]
  simp only [List.range_zero,List.append_nil]
  rw [shr_nil,renV_clean _ _ h1]
  exact ⟨rfl,_,rfl,h2⟩
 refine full_of_awp' (st0:=[]) hτ hf hb hname hc (fun e fr st hq=>?_) h
 cases e with
 | normal=>exact key fr st hq
 | ret=>exact key fr st hq
 | exit id=>exact hq.elim
 | pan v=>exact hq.elim
end Go.Cod
namespace Go.Cod
open Go
variable [Lam]
def notAgg:TypeDesc→Bool
 | .struct _ | .array _ _=>false
 | _=>true
def fieldsOk (P:Program):List Field→List (Nat × Nat × Bool)→Bool
 | [],[]=>true
 | f::fs,(off,size,b)::qs=>(match P.info? f.type,P.underlying f.type with
   | some fi,some d=>decide (f.offset=off)&&decide (fi.size=size)&&(b == !notAgg d)
   | _,_=>false)&&fieldsOk P fs qs
 | _,_=>false
def isPtr:TypeDesc→Bool
 | .pointer _=>true
 | _=>false
def methOk (P:Program) (t:TypeId) (name:String) (f:FuncId):Bool:=match P.info? t,P.underlying t with
 | some i,some d=>(match i.methods.find? (·.name == name) with
   | some m=>m.path.isEmpty&&(match m.func with
     | some (f',pr)=>decide (f'=f)&&(pr == isPtr d)
     | none=>false)
   | none=>false)
 | _,_=>false
def tiOk (P:Program) (t:TypeId) (ti:TI):Bool :=
 (match P.info? t with
   | some i=>decide (i.size=ti.size)&&decide (i.bytes=ti.bytes)&&(match i.zero with | some z=>zrep ti.zero z | none=>false)
   | none=>false) &&
 (match P.underlying t with
   | some d=>(match ti.kind with
     | .bool=>(match d with | .bool=>true | _=>false)
     | .int k=>(match d with | .int j=>decide (j=k) | _=>false)
     | .str=>(match d with | .string=>true | _=>false)
     | .slice e=>(match d with | .slice e'=>decide (e'=e) | _=>false)
     | .agg=>!notAgg d
     | .map k e=>(match d with | .map k' e'=>decide (k'=k)&&decide (e'=e) | _=>false)
     | .iface=>(match d with | .interface _=>true | _=>false)
     | .ptr=>(match d with | .pointer _=>true | _=>false)
     | .other=>notAgg d&&(match d with | .interface _=>false | _=>true))&&(ti.meths.all fun q=>methOk P t q.1 q.2) &&
     (match ti.arr with | some n=>(match d with | .array n' e=>decide (n'=n)&&(match P.info? e,P.underlying e with | some i,some (.int _)=>decide (i.size=1) | _,_=>false) | _=>false) | none=>true) &&
     (!ti.pair||(match d with | .array n e=>decide (n=2)&&(match P.info? e,P.underlying e with | some i,some (.int .i64)=>decide (i.size=1) | _,_=>false) | _=>false)) &&
     (ti.fields.isEmpty||(match d with | .struct fs=>fieldsOk P fs.toList ti.fields | _=>false))
   | none=>false)
omit [Lam] in
theorem fieldsOk_spec {P:Program}:∀ {fs:List Field} {qs:List (Nat × Nat × Bool)},fieldsOk P fs qs=true→fs.length=qs.length ∧
  ∀ (i:Nat) f,fs[i]? = some f→∃ fi:TypeInfo,∃ b:Bool,P.info? f.type=some fi∧qs[i]? = some (f.offset,fi.size,b)∧∃ d,P.underlying f.type=some d∧(match d with | .struct _ | .array _ _=>b=true | _=>b=false)
 | [],[],_=>⟨rfl,fun i f h=>by simp at h⟩
 | [],_::_,h=>by simp [fieldsOk] at h
 | _::_,[],h=>by simp [fieldsOk] at h
 | f::fs,(off,size,b)::qs,h=>by
   simp only [fieldsOk,Bool.and_eq_true] at h
   obtain ⟨h1,h2⟩:=h
   obtain ⟨k1,k2⟩:=fieldsOk_spec h2
   refine ⟨by simp [k1],fun i g hg=>?_⟩
   cases i with
   | succ i=>exact k2 i g (by simpa using hg)
   | zero =>
     simp at hg; subst hg
     split at h1
     · rename_i fi d e1 e2
       simp only [Bool.and_eq_true,decide_eq_true_eq,beq_iff_eq] at h1
       obtain ⟨⟨rfl,rfl⟩,rfl⟩:=h1
       refine ⟨fi,_,e1,rfl,d,e2,?_⟩
       cases d <;> rfl
     · cases h1
omit [Lam] in
theorem tiOk_spec {P:Program} {t:TypeId} {ti:TI} (h:tiOk P t ti=true):TIok P t ti:=by
 unfold tiOk at h
 simp only [Bool.and_eq_true] at h
 obtain ⟨h1,h2⟩:=h
 split at h1
 · rename_i i hi
   simp only [Bool.and_eq_true,decide_eq_true_eq] at h1
   obtain ⟨⟨e1,e2⟩,e3⟩:=h1
   split at e3
   · rename_i z hz
     split at h2
     · rename_i d hd
       simp only [Bool.and_eq_true] at h2
       obtain ⟨⟨⟨⟨k1,k3⟩,k5⟩,k4⟩,k2⟩:=h2
       refine ⟨fun n hp=>?_,fun hp=>?_,⟨i,z,hi,e1,e2,hz,e3⟩,?_,fun hne=>?_,fun name f hm=>?_⟩
       · rw [hp] at k5
         simp only at k5
         split at k5
         · rename_i n' e
           simp only [Bool.and_eq_true,decide_eq_true_eq] at k5
           obtain ⟨rfl,k5⟩:=k5
           split at k5
           · rename_i i1 k1' hi1 hu1
             exact ⟨e,i1,_,hd,hi1,by simpa using k5,hu1⟩
           · cases k5
         · cases k5
       · rw [hp] at k4
         simp only [Bool.not_true,Bool.false_or] at k4
         split at k4
         · rename_i n e
           simp only [Bool.and_eq_true,decide_eq_true_eq] at k4
           obtain ⟨rfl,k4⟩:=k4
           split at k4
           · rename_i i1 hi1 hu1
             exact ⟨e,i1,hd,hi1,by simpa using k4,hu1⟩
           · cases k4
         · cases k4
       · cases hk:ti.kind <;> rw [hk] at k1 <;> simp only at k1 ⊢
         · cases d <;> simp at k1; exact hd
         · cases d <;> simp at k1; subst k1; exact hd
         · cases d <;> simp at k1; exact hd
         · cases d <;> simp at k1; subst k1; exact hd
         · cases d <;> simp [notAgg] at k1
           · exact .inr ⟨_,_,hd⟩
           · exact .inl ⟨_,hd⟩
         · cases d <;> simp at k1; obtain ⟨rfl,rfl⟩:=k1; exact hd
         · cases d <;> simp at k1; exact ⟨_,hd⟩
         · cases d <;> simp at k1; exact ⟨_,hd⟩
         · refine ⟨d,hd,fun fs=>?_,fun n e=>?_,fun ms=>?_⟩ <;> (intro e; subst e; simp [notAgg] at k1)
       · simp only [Bool.or_eq_true] at k2
         rcases k2 with k2 | k2
         · simp at k2; exact absurd k2 hne
         · split at k2
           · rename_i fs
             obtain ⟨q1,q2⟩:=fieldsOk_spec k2
             exact ⟨fs,hd,by simpa using q1,fun i f hf=>q2 i f (by simpa using hf)⟩
           · cases k2
       · have hmem:(name,f)∈ti.meths:=by
          have:∀ l:List (String × FuncId),l.lookup name=some f→(name,f)∈l:=by
           intro l
           induction l with
           | nil=>intro h; simp at h
           | cons p l ih =>
             intro h
             obtain ⟨k,v⟩:=p
             rw [List.lookup_cons] at h
             by_cases e:name=k
             · subst e; simp at h; subst h; exact List.mem_cons_self
             · have:(name == k)=false:=by simpa using e
               rw [this] at h
               exact List.mem_cons_of_mem _ (ih h)
          exact this _ hm
         have:=List.all_eq_true.1 k3 _ hmem
         unfold methOk at this
         simp only [hi,hd] at this
         split at this
         · rename_i m hfm
           simp only [Bool.and_eq_true] at this
           obtain ⟨p1,p2⟩:=this
           split at p2
           · rename_i f' pr hfn
             simp only [Bool.and_eq_true,decide_eq_true_eq,beq_iff_eq] at p2
             obtain ⟨rfl,p3⟩:=p2
             refine ⟨i,m,pr,hi,hfm,by simpa using p1,hfn,?_⟩
             cases pr with
             | true=>left; refine ⟨rfl,?_⟩; cases d <;> simp [isPtr] at p3; exact ⟨_,hd⟩
             | false=>right; exact ⟨rfl,d,hd,fun e he=>by rw [he] at p3; simp [isPtr] at p3⟩
           · cases p2
         · cases this
     · cases h2
   · cases e3
 · cases h1
def tauOf (l:List (Nat × TI)):Tau:=fun t=>l.lookup t
omit [Lam] in
theorem tauGood {P:Program} {l:List (Nat × TI)} (hm:P.follows .mixedOrders=true) (h:(l.all fun p=>tiOk P p.1 p.2)=true) (h8:(l.all fun p=>decide (p.2.kind≠.int .u8)||decide (p.2.size=1))=true):TauGood P (tauOf l):=by
 have mem:∀ t ti,tauOf l t=some ti→(t,ti)∈l:=by
  intro t ti
  unfold tauOf
  clear h h8
  induction l with
  | nil=>intro h; simp at h
  | cons p l ih =>
    intro h
    obtain ⟨k,v⟩:=p
    rw [List.lookup_cons] at h
    by_cases e:t=k
    · subst e; simp at h; subst h; exact List.mem_cons_self
    · have:(t == k)=false:=by simpa using e
      rw [this] at h
      exact List.mem_cons_of_mem _ (ih h)
 refine ⟨fun t ti ht=>tiOk_spec (List.all_eq_true.1 h _ (mem t ti ht)),hm,fun t ti ht hk=>?_⟩
 have:=List.all_eq_true.1 h8 _ (mem t ti ht)
 simpa [hk] using this
end Go.Cod
namespace Go.Cod
open Go
variable [Lam]
def setL (base:Nat→V):List (Nat × V)→(Nat→V)
 | []=>base
 | (k,v)::l=>upd (setL base l) k v
def Holds (fr:Nat→V):List (Nat × V)→Prop
 | []=>True
 | (k,v)::l=>fr k=v∧Holds fr l
omit [Lam] in
theorem setL_self {fr:Nat→V}:∀ {l:List (Nat × V)},Holds fr l→setL fr l=fr
 | [],_=>rfl
 | (k,v)::l,h=>by
   simp only [setL,setL_self h.2]
   funext t
   unfold upd
   split
   · rename_i e; rw [e]; exact h.1.symm
   · rfl
omit [Lam] in
theorem Holds.split {fr:Nat→V} {l:List (Nat × V)} (h:Holds fr l):∃ b,fr=setL b l:=⟨fr,(setL_self h).symm⟩
omit [Lam] in
theorem loop_intro {nb:Nat} {B:(Ex→(Nat→V)→St→Prop)→(Nat→V)→St→Prop} {Q:Ex→(Nat→V)→St→Prop} {fr:Nat→V} {st:St} (J:Nat→(Nat→V)→St→Prop) (n:Nat) (h0:J n fr st)
  (h:∀ n fr st,J n fr st→B (AThen (fun fr' st'=>∃ n',n' < n∧J n' fr' st') Q) fr st):∃ (J:Nat→(Nat→V)→St→Prop) (n:Nat) (flag:Bool) (s0:Option (List Nat)),cmp nb s0 fr st (J n)∧∀ n fr st,J n fr st→B (AThen (ALoop nb flag J n) Q) fr st:=⟨J,n,false,none,h0,h⟩
omit [Lam] in
theorem loop_drop {nb:Nat} {B:(Ex→(Nat→V)→St→Prop)→(Nat→V)→St→Prop} {Q:Ex→(Nat→V)→St→Prop} {fr:Nat→V} {st:St} (J:Nat→(Nat→V)→St→Prop) (n:Nat) (s0:Option (List Nat)) (h0:cmp nb s0 fr st (J n))
  (h:∀ n fr st,J n fr st→B (AThen (fun fr' st'=>∃ n',n' < n∧∃ sel,cmp nb sel fr' st' (J n')) Q) fr st):∃ (J:Nat→(Nat→V)→St→Prop) (n:Nat) (flag:Bool) (s0:Option (List Nat)),cmp nb s0 fr st (J n)∧∀ n fr st,J n fr st→B (AThen (ALoop nb flag J n) Q) fr st:=⟨J,n,true,s0,h0,h⟩
omit [Lam] in
theorem ltB_t {a b:Int} (h:a < b):ltB a b=true:=by rw [ltB_def]; simpa using h
omit [Lam] in
theorem ltB_f {a b:Int} (h:b≤a):ltB a b=false:=by rw [ltB_def]; simpa using h
omit [Lam] in
theorem leB_t {a b:Int} (h:a≤b):leB a b=true:=by rw [leB_def]; simpa using h
omit [Lam] in
theorem leB_f {a b:Int} (h:b < a):leB a b=false:=by rw [leB_def]; simpa using h
omit [Lam] in
theorem eqB_t {a b:Int} (h:a=b):eqB a b=true:=by rw [eqB_def]; simpa using h
omit [Lam] in
theorem eqB_f {a b:Int} (h:a≠b):eqB a b=false:=by rw [eqB_def]; simpa using h
omit [Lam] in
theorem eqS_t {a b:List UInt8} (h:a=b):eqS a b=true:=by rw [eqS_def]; simpa using h
omit [Lam] in
theorem eqS_f {a b:List UInt8} (h:a≠b):eqS a b=false:=by rw [eqS_def]; simpa using h
omit [Lam] in
theorem wrap64 {a:Int} (h0:-9223372036854775808≤a) (h1:a≤9223372036854775807):IntKind.i64.wrap a=a:=by
 rw [IntKind.wrap_i64]; omega
end Go.Cod
namespace Go.Cod
open Go Go.ChangeShapes Go.WideShapes Go.RowKit Go.ChangeAt
variable [Lam]
def oldP (w:World):Nat→Nat→Prop:=fun b _=>b < w.heap.size
section
variable {H:Type} {enc:TypeId × Value→H} {P:Program}
omit [Lam] in
theorem sameAt_old {w w':World} (h:∀ b,b < w.heap.size→w'.heap[b]? = w.heap[b]?) {p:MemPlace} (hp:p.block < w.heap.size):w.sameAt w' p:=by
 cases p with
 | cell b off =>
   show w'.cell? _=w.cell? _
   unfold World.cell?
   rw [h b hp]
 | map b=>exact h b hp
omit [Lam] in
theorem trodAll_old (K:Kids P (· < P.types.size)) (hz:∀ t e,t < P.types.size→P.underlying t=some (.slice e)→0 < P.cellsOf e) {w w':World} (h:∀ b,b < w.heap.size→w'.heap[b]? = w.heap[b]?) {sp:Nat→Bool} :
  ∀ {ts:List TypeId} {vs:List Value} {ds:List (DataW H)} {ps:List MemPlace},(∀ t∈ts,t < P.types.size)→(∀ p∈ps,p.block < w.heap.size)→(∀ p∈ps,sp p.block=true) →
    DataW.TrodAll enc P w 0 (fun _=>true) true ts vs ds ps→DataW.TrodAll enc P w' 0 sp true ts vs ds ps
 | [],[],[],_,_,_,_,h0=>h0
 | t::_,_::_,_::_,_,hT,hl,hs,⟨p,q,⟨n,h1⟩,h2,e⟩=>by
   subst e
   refine ⟨p,q,?_,trodAll_old K hz h (fun t ht=>hT t (List.mem_cons.2 (Or.inr ht))) (fun p hp=>hl p (List.mem_append_right _ hp)) (fun p hp=>hs p (List.mem_append_right _ hp)) h2,rfl⟩
   have h3:=DataW.trod_carry (w':=w') n _ _ _ h1 (fun p hp=>sameAt_old h (hl p (List.mem_append_left _ hp)))
   exact ⟨n,DataW.trod_respare K hz n _ _ _ (hT t (List.mem_cons.2 (Or.inl rfl))) h3 (fun p hp=>hs p (List.mem_append_left _ hp))⟩
end
end Go.Cod
namespace Go.Cod
open Go Go.ChangeShapes Go.WideShapes
variable [Lam]
section
variable {H:Type} (enc:TypeId × Value→H) (P:Program) (w:World)
def Reads (n:Nat) (t:TypeId) (S:List V→Prop):Prop:=∀ cs x,DataW.trod enc P w 0 (fun _=>true) true n t cs=some x →
 ∃ vs,S vs∧RepL (oldP w) [] w vs cs∧(∀ v∈vs,v.leaf=true)∧V.clean.cleanL 0 vs=true
variable {enc P w}
omit [Lam] in
theorem reads_str {n:Nat} {t:TypeId} (ht:P.underlying t=some .string):Reads enc P w n t fun vs=>∃ s,vs=[.str s]∧s.length≤maxLen:=by
 intro cs x h
 obtain ⟨s,rfl,_,hw⟩:=DataW.trod_string ht h
 refine ⟨_,⟨s.data.toList,rfl,hw⟩,⟨rfl,?_⟩,by simp [V.leaf],rfl⟩
 intro j a b h1 h2
 cases j with
 | zero =>
   simp at h1 h2; subst h1 h2
   have:=Rep.str (Pr:=oldP w) (γ:=[]) (w:=w) s.data.toList
   simpa using this
 | succ j=>simp at h1
end
end Go.Cod
namespace Go.Cod
open Go Go.ChangeShapes Go.WideShapes
variable [Lam]
section
variable {H:Type} (enc:TypeId × Value→H) (P:Program) (W:World)
def ReadsA (t:TypeId) (S:V→Prop):Prop:=∀ base v d p,Value.okWide P W .any base t v→DataW.Trod enc P W 0 (fun _=>true) true t v d p→∃ x,S x∧Rep (oldP W) [] W x v
def ReadsAll:List TypeId→List (V→Prop)→Prop
 | [],[]=>True
 | t::ts,S::Ss=>ReadsA enc P W t S∧ReadsAll ts Ss
 | _,_=>False
def HoldAll:List (V→Prop)→List V→Prop
 | [],[]=>True
 | S::Ss,x::xs=>S x∧HoldAll Ss xs
 | _,_=>False
omit [Lam] in
theorem hold_nil {xs:List V} (h:HoldAll [] xs):xs=[]:=by
 cases xs with
 | nil=>rfl
 | cons _ _=>exact h.elim
omit [Lam] in
theorem hold_cons {S:V→Prop} {Ss:List (V→Prop)} {xs:List V} (h:HoldAll (S::Ss) xs):∃ a as,xs=a::as∧S a∧HoldAll Ss as:=by
 cases xs with
 | nil=>exact h.elim
 | cons a as=>exact ⟨a,as,rfl,h⟩
omit [Lam] in
theorem hold1 {S1:V→Prop} {xs:List V} (h:HoldAll [S1] xs):∃ a,xs=[a]∧S1 a:=by
 obtain ⟨a,_,rfl,h1,h⟩:=hold_cons h
 obtain rfl:=hold_nil h
 exact ⟨a,rfl,h1⟩
omit [Lam] in
theorem hold2 {S1 S2:V→Prop} {xs:List V} (h:HoldAll [S1,S2] xs):∃ a b,xs=[a,b]∧S1 a∧S2 b:=by
 obtain ⟨a,_,rfl,h1,h⟩:=hold_cons h
 obtain ⟨b,rfl,h2⟩:=hold1 h
 exact ⟨a,b,rfl,h1,h2⟩
variable {enc P W}
omit [Lam] in
theorem readsA_one {t:TypeId} {S:List V→Prop} (h:∀ n,Reads enc P W n t S) (hc:∀ base v,Value.okWide P W .any base t v→v.cells.toList=[v]):ReadsA enc P W t fun x=>S [x]:=by
 intro base v d p hv ⟨n,h0⟩
 obtain ⟨vs,hS,hr,hlf⟩:=h n _ _ h0
 rw [hc base v hv] at hr
 obtain ⟨x,rfl⟩:∃ x,vs=[x]:=by
  have:=hr.1
  cases vs with
  | nil=>simp at this
  | cons x xs=>cases xs with
    | nil=>exact ⟨x,rfl⟩
    | cons y ys=>simp at this
 exact ⟨x,hS,hr.2 0 x v rfl rfl⟩
omit [Lam] in
theorem readsA_str {t:TypeId} (ht:P.underlying t=some .string):ReadsA enc P W t fun x=>∃ s,[x]=[.str s]∧s.length≤maxLen :=
 readsA_one (fun _=>reads_str ht) fun base v hv=>by obtain ⟨n,rfl⟩:=okWide_string ht hv; rfl
omit [Lam] in
theorem args_of:∀ {ts:List TypeId} {Ss:List (V→Prop)} {args:List Value} {ds:List (DataW H)} {ps:List MemPlace} {base:Nat},ReadsAll enc P W ts Ss→DataW.TrodAll enc P W 0 (fun _=>true) true ts args ds ps →
  (∀ (j:Nat) t v,ts[j]? = some t→args[j]? = some v→Value.okWide P W .any base t v)→∃ xs,HoldAll Ss xs∧RepL (oldP W) [] W xs args
 | [],[],args,ds,ps,base,_,hA,_=>by
   obtain ⟨rfl,rfl,rfl⟩:=trodAll_nil hA
   exact ⟨[],trivial,rfl,by simp⟩
 | t::ts,S::Ss,args,ds,ps,base,hR,hA,hv=>by
   obtain ⟨v,vs',d,ds',p,q,rfl,rfl,rfl,h0,h1⟩:=trodAll_cons hA
   obtain ⟨x,hx,hr⟩:=hR.1 _ _ _ _ (hv 0 t v rfl rfl) h0
   obtain ⟨xs,hxs,hl,hrs⟩:=args_of hR.2 h1 fun j t v a b=>hv (j+1) t v a b
   refine ⟨x::xs,⟨hx,hxs⟩,by simp [hl],fun i a u e1 e2=>?_⟩
   cases i with
   | zero=>simp at e1 e2; subst e1 e2; exact hr
   | succ i=>exact hrs i a u (by simpa using e1) (by simpa using e2)
 | [],_::_,_,_,_,_,h,_,_=>h.elim
 | _::_,[],_,_,_,_,h,_,_=>h.elim
omit [Lam] in
theorem trodAll_len:∀ {ts:List TypeId} {args:List Value} {ds:List (DataW H)} {ps:List MemPlace},DataW.TrodAll enc P W 0 (fun _=>true) true ts args ds ps→ds.length=ts.length
 | [],_,_,_,h=>by obtain ⟨rfl,rfl,rfl⟩:=trodAll_nil h; rfl
 | _::_,_,_,_,h=>by
   obtain ⟨v,vs',d,ds',p,q,rfl,rfl,rfl,h0,h1⟩:=trodAll_cons h
   simp [trodAll_len h1]
end
end Go.Cod
namespace Go.Cod
open Go
variable [Lam]
variable {P:Program} {ok:OkY}
theorem Full.start {f:FuncId} {args:List V} {st0:St} {R:Out→St→Prop} (h:Full P ok f args (st0++[poolO []]) R):Full P ok f args st0 R:=by
 refine ⟨h.1,fun E C Pr γ w cargs hr hst hext=>?_⟩
 let d:G:=⟨0,0,0,0,0⟩
 have hγ:γ.length=st0.length:=hst.len
 have K:Keep Pr Pr γ (γ++[d]) w w:=⟨fun _ _ h=>h,fun _ _ _=>rfl,fun k g h=>by rw [List.getElem?_append_left (List.getElem?_eq_some_iff.1 h).1]; exact h⟩
 have get:∀ {j:Nat} {p:O} {q:G},(st0++[poolO []])[j]? = some p→(γ++[d])[j]? = some q→(p=poolO [])∨(st0[j]? = some p∧γ[j]? = some q):=by
  intro j p q hj hq
  by_cases hlt:j < st0.length
  · rw [List.getElem?_append_left hlt] at hj
    rw [List.getElem?_append_left (by omega)] at hq
    exact .inr ⟨hj,hq⟩
  · have:j=st0.length:=by
     have:=(List.getElem?_eq_some_iff.1 hj).1
     simp at this; omega
    subst this
    simp at hj
    exact .inl hj.symm
 have get1:∀ {j:Nat} {p:O},(st0++[poolO []])[j]? = some p→(p=poolO [])∨st0[j]? = some p:=by
  intro j p hj
  by_cases hlt:j < st0.length
  · rw [List.getElem?_append_left hlt] at hj; exact .inr hj
  · have:j=st0.length:=by
     have:=(List.getElem?_eq_some_iff.1 hj).1
     simp at this; omega
    subst this
    simp at hj
    exact .inl hj.symm
 have hmod:∀ b,modOf (st0++[poolO []]) (γ++[d]) b↔modOf st0 γ b:=by
  intro b
  constructor
  · rintro ⟨k,o,h1,⟨g,h2,h3,h4⟩ | ⟨h2,e,h3,h4⟩⟩
    · rcases get h1 h2 with rfl | ⟨a1,a2⟩
      · cases h3
      · exact ⟨k,o,a1,.inl ⟨g,a2,h3,h4⟩⟩
    · rcases get1 h1 with rfl | a1
      · simp [poolO] at h3
      · exact ⟨k,o,a1,.inr ⟨h2,e,h3,h4⟩⟩
  · rintro ⟨k,o,h1,h2⟩
    have hk:k < st0.length:=(List.getElem?_eq_some_iff.1 h1).1
    refine ⟨k,o,by rw [List.getElem?_append_left hk]; exact h1,?_⟩
    rcases h2 with ⟨g,h2,h3⟩ | h2
    · exact .inl ⟨g,K.names k g h2,h3⟩
    · exact .inr h2
 have hmodE:modOf (st0++[poolO []]) (γ++[d])=modOf st0 γ:=funext fun b=>propext (hmod b)
 have hS:StOk Pr (γ++[d]) w (st0++[poolO []]):=by
  refine ⟨by simp [hγ],fun k o g h1 h2 hl=>?_,fun k k' o o' g g' h1 h1' h2 h2' hl hl' he=>?_,hst.low,hst.laid⟩
  · rcases get h1 h2 with rfl | ⟨a1,a2⟩
    · cases hl
    · exact (hst.obj k o g a1 a2 hl).same K rfl fun _ h=>h
  · rcases get h1 h2 with rfl | ⟨a1,a2⟩
    · cases hl
    · rcases get h1' h2' with rfl | ⟨b1,b2⟩
      · cases hl'
      · exact hst.one k k' o o' g g' a1 b1 a2 b2 hl hl' he
 have hE:Ext P ok E w (modOf (st0++[poolO []]) (γ++[d])) C none Pr (γ++[d]) (st0++[poolO []]) [] w:=by
  rw [hmodE]
  have D:=hext
  refine ⟨D.clow,fun k o g h1 h2 hl=>?_,D.prC,fun k o g h1 h2 hl=>?_,fun k k' o o' g g' h1 h1' h2 h2' hl hl' he=>?_,fun k o g h1 h2 hl=>?_,fun k o g h1 h2 hl=>?_,fun k k' o o' h1 h1' hl hl'=>?_,D.marks,D.round,?_⟩
  · rcases get h1 h2 with rfl | ⟨a1,a2⟩
    · cases hl
    · exact D.apart k o g a1 a2 hl
  · rcases get h1 h2 with rfl | ⟨a1,a2⟩
    · cases hl
    · exact (D.maps k o g a1 a2 hl).keep K rfl
  · rcases get h1 h2 with rfl | ⟨a1,a2⟩
    · cases hl
    · rcases get h1' h2' with rfl | ⟨b1,b2⟩
      · cases hl'
      · exact D.mone k k' o o' g g' a1 b1 a2 b2 hl hl' he
  · rcases get h1 h2 with rfl | ⟨a1,a2⟩
    · cases hl
    · exact D.mmine k o g a1 a2 hl
  · rcases get h1 h2 with rfl | ⟨a1,a2⟩
    · cases hl
    · exact D.yld k o g a1 a2 hl
  · rcases get1 h1 with rfl | a1
    · cases hl
    · rcases get1 h1' with rfl | b1
      · cases hl'
      · exact D.yone k k' o o' a1 b1 hl hl'
  · have Q:=D.pools
    refine ⟨fun k o h1 h2 e he=>?_,fun k o e h1 h2 he=>?_,fun k k' o o' i i' e e' h1 h1' h2 h2' he he' hl=>?_,fun k k' o o' g e h1 h2 he h1' h2' hl hq=>?_,fun k o h1 h2=>?_⟩
    · rcases get1 h1 with rfl | a1
      · simp [poolO] at he
      · exact Q.ent k o a1 h2 e he
    · rcases get1 h1 with rfl | a1
      · simp [poolO] at he
      · exact Q.free k o e a1 h2 he
    · rcases get1 h1 with rfl | a1
      · simp [poolO] at he
      · rcases get1 h1' with rfl | b1
        · simp [poolO] at he'
        · exact Q.one k k' o o' i i' e e' a1 b1 h2 h2' he he' hl
    · rcases get1 h1 with rfl | a1
      · simp [poolO] at he
      · rcases get h1' h2' with rfl | ⟨b1,b2⟩
        · cases hl
        · exact Q.sep k k' o o' g e a1 h2 he b1 b2 hl hq
    · rcases get1 h1 with rfl | a1
      · rfl
      · exact Q.bx k o a1 h2
 refine (h.2 E C Pr (γ++[d]) w cargs (hr.keep K) hS hE).mono fun e w' hh=>?_
 obtain ⟨o,st',γ',Pr',C',h1,h2,h3,h4,h5,B⟩:=hh
 rw [hmodE] at h4 h5 B
 exact ⟨o,st',γ',Pr',C',h1,h2,h3,h4,h5,⟨B.os,B.tape,B.output,B.size,B.old,B.sub,B.new,fun k g hk=>B.names k g (K.names k g hk),B.cell,B.csub,B.cnew⟩⟩
end Go.Cod
namespace Go.Cod
open Go
variable [Lam]
variable {P:Program} {ok:OkY}
theorem Full.freeze {f:FuncId} {args:List V} {R:Out→St→Prop} {R':V→Prop} (h:Full P noY f args [] R)
  (hR:∀ o st',R o st'→∃ v es v',o=.ret v∧st'=[poolO es]∧View es v v'∧v.clean 0=true∧R' v'):Pure P f args R':=by
 refine ⟨h.1,fun E C Pr γ w cargs hr hst hext=>(h.2 E C Pr γ w cargs hr hst hext).mono fun e w' hh=>?_⟩
 obtain ⟨o,st',γ',Pr',C',h1,h2,S,M,X,B⟩:=hh
 obtain ⟨v,es,v',rfl,rfl,hv,hcl,hR'⟩:=hR o st' h2
 cases h1 with
 | ret h1 =>
 have hγ0:γ=[]:=by have:=hst.len; simpa using this
 subst hγ0
 have nomod:∀ b,¬ modOf [] [] b:=fun b ⟨k,o,h1,_⟩=>by simp at h1
 have Q:=X.pools
 let Pr2:Nat→Nat→Prop:=fun b n=>Pr' b n∨∃ e∈es,labOf e=b
 have hlab:∀ {e:List V},e∈es→Lab [poolO es] (labOf e):=fun h=>⟨0,poolO es,_,rfl,rfl,h,rfl⟩
 have rv:Rep Pr2 [] w' v' _:=hv.rep (fun e he=>Q.ent 0 (poolO es) rfl rfl e he) (fun _ _ h=>.inl h) (fun e he n=>.inr ⟨e,he,rfl⟩) _ (h1.names (n:=0) (fun k hk=>absurd hk (Nat.not_lt_zero _)) hcl)
 refine ⟨_,[],[],Pr2,C',.ret rv,⟨rfl,v',rfl,hR'⟩,⟨rfl,fun k o g h=>by simp at h,fun k k' o o' g g' h=>by simp at h,fun b n hb=>?_,S.laid.keep (γ:=[]) (γ':=[]) ⟨fun _ _ h=>.inl h,fun _ _ _=>rfl,fun _ _ h=>h⟩⟩,fun k o g h=>by simp at h,⟨X.clow,fun k o g h=>by simp at h,fun b n hb=>?_,fun k o g h=>by simp at h,fun k k' o o' g g' h=>by simp at h,fun k o g h=>by simp at h,fun k o g h=>by simp at h,fun k k' o o' h=>by simp at h,X.marks,X.round,Pools.none fun k o h=>by simp at h⟩,
  ⟨B.os,B.tape,B.output,B.size,B.old,fun b n hb=>.inl (B.sub b n hb),fun b n hb=>?_,fun k g h=>by simp at h,B.cell,B.csub,B.cnew⟩⟩
 · rcases hb with hb | ⟨e,he,rfl⟩
   · exact S.low b n hb
   · exact Q.lt (hlab he)
 · rcases hb with hb | ⟨e,he,rfl⟩
   · exact X.prC b n hb
   · exact .inr (Q.at (hlab he)).1
 · rcases hb with hb | ⟨e,he,rfl⟩
   · exact B.new b n hb
   · rcases (Q.at (hlab he)).2 with h | h
     · exact .inr (.inl h)
     · exact absurd h (nomod _)
end Go.Cod
namespace Go.Cod
open Go
variable [Lam]
variable {P:Program} {ok:OkY}
end Go.Cod
namespace Go.Cod
open Go
variable [Lam]
variable {P:Program} {ok:OkY}
end Go.Cod
namespace Go.Cod
open Go
variable [Lam]
variable {P:Program} {ok:OkY} {E:Env P ok} {w0:World} {mod:Nat→Prop} {γ0:List G} {Pr0:Nat→Nat→Prop} {C0:Nat→Prop} {nt:Nat} {ρ:Option Nat}
 {Pr Pr':Nat→Nat→Prop} {γ γ' γc:List G} {C C':Nat→Prop} {fr fr':Nat→V} {st st':St} {a a':Act} {w w':World}
theorem X.putBlk (H:X P ok E w0 mod γ0 Pr0 C0 nt ρ Pr γ C fr st a w) {k b cap sz:Nat} {o:O} {rows rows':List (List V)}
  (hk:st[k]? = some o) (hp:o.kind=.pool) (hm:ent b cap sz rows∈o.es) (hO:OnlyB b w w') (hE:EntOk Pr w' (ent b cap sz rows')) :
  X P ok E w0 mod γ0 Pr0 C0 nt ρ Pr γ C fr (st.set k (poolO (putEnt b rows' o.es))) a w':=by
 have Q:=H.ext.pools
 have hlab:Lab st b:=⟨k,o,_,hk,hp,hm,rfl⟩
 have hcell:∀ x n,Pr x n→w'.cell? ⟨x,n,none⟩=w.cell? ⟨x,n,none⟩:=fun x n hx=>by
  by_cases e:x=b
  · subst e; exact absurd hx (Q.unp hlab)
  · exact cell_of_block (hO.old x e) n
 have K:Keep Pr Pr γ γ w w':=⟨fun _ _ h=>h,hcell,fun _ _ h=>h⟩
 have hsz:w.heap.size≤w'.heap.size:=Nat.le_of_eq hO.size.symm
 have B1:Base w (fun x=>x=b) γ Pr Pr γ w':=⟨hO.os,hO.tape,hO.output,hsz,fun x _ h2=>hO.old x h2,fun _ _ h=>h,fun _ _ h=>.inl h,fun _ _ h=>h⟩
 have hold:∀ x,x < w.heap.size→x≠b→w'.heap[x]? = w.heap[x]? := fun x _ h2=>hO.old x h2
 obtain ⟨curb,tyb,fb,hbh⟩:=Q.cells hlab
 have hC:¬ C b:=(Q.at hlab).1
 have hkind:∀ {x:Nat} {ob:Obj},w.heap[x]? = some ob→(∀ cur ty fz,ob≠.cells cur ty fz)→w'.heap[x]? = w.heap[x]? := fun h1 h2=>hold _ (Array.getElem?_eq_some_iff.1 h1).1 fun e=>by
  rw [e,hbh] at h1; exact h2 _ _ _ (Option.some.inj h1).symm
 have hdead:o.live=false:=by
  cases hl:o.live with
  | false=>rfl
  | true=>have:=live_kind H.st hk hl; rw [hp] at this; cases this
 have hklt:k < st.length:=(List.getElem?_eq_some_iff.1 hk).1
 generalize ho':poolO (putEnt b rows' o.es)=o'
 have ho'k:o'.kind=.pool:=by rw [← ho']; rfl
 have ho'l:o'.live=false:=by rw [← ho']; rfl
 have ho'es:o'.es=putEnt b rows' o.es:=by rw [← ho']; rfl
 have get:∀ {m:Nat} {p:O},(st.set k o')[m]? = some p→(m=k∧p=o')∨(m≠k∧st[m]? = some p):=by
  intro m p hj
  rw [List.getElem?_set] at hj
  by_cases e:k=m
  · subst e; simp [hklt] at hj; exact .inl ⟨rfl,hj.symm⟩
  · rw [if_neg e] at hj; exact .inr ⟨Ne.symm e,hj⟩
 have own:∀ {m:Nat} {p:O},(st.set k o')[m]? = some p→p.own=true→st[m]? = some p:=by
  intro m p hj hp'
  rcases get hj with ⟨_,rfl⟩ | ⟨_,hj⟩
  · rcases own_iff.1 hp' with h | h
    · rw [ho'l] at h; cases h
    · rw [ho'k] at h; cases h
  · exact hj
 have liveB:∀ {m:Nat} {p:O} {q:G},st[m]? = some p→γ[m]? = some q→p.live=true→q.blk≠b:=fun h1 h2 h3 e=>Q.notLive hlab ⟨_,_,_,h1,h2,h3,e⟩
 have D:=H.ext
 have B:=H.base
 have pget:∀ {m:Nat} {p:O} {n:Nat} {x:List V},(st.set k o')[m]? = some p→p.kind=.pool→p.es[n]? = some x→∃ p0 x0,st[m]? = some p0∧p0.kind=.pool∧p0.es[n]? = some x0∧labOf x=labOf x0∧(labOf x0≠b→x=x0)∧(labOf x0=b→x=ent b cap sz rows'):=by
  intro m p n x hj hp' hx
  rcases get hj with ⟨rfl,rfl⟩ | ⟨hne,hj⟩
  · rw [ho'es] at hx
    obtain ⟨x0,h1,h2,h3,h4⟩:=putEnt_get hx
    refine ⟨o,x0,hk,hp,h1,h2,h4,fun hb=>?_⟩
    obtain ⟨n',hn'⟩:=List.getElem?_of_mem hm
    have:=(Q.one m m o o n n' x0 _ hk hk hp hp h1 hn' hb).2
    subst this
    rw [h1] at hn'; cases hn'
    exact h3 hb
  · refine ⟨p,x,hj,hp',hx,rfl,fun _=>rfl,fun hb=>?_⟩
    obtain ⟨n',hn'⟩:=List.getElem?_of_mem hm
    exact absurd (Q.one m k p o n n' x _ hj hk hp' hp hx hn' hb).1 hne
 refine ⟨fun m p q h1 h2 h3=>?_,⟨fun x hx=>Nat.lt_of_lt_of_le (D.clow x hx) B1.size,fun m p q h1 h2 h3=>D.apart m p q (own h1 h3) h2 h3,D.prC,fun m p q h1 h2 h3=>?_,fun m m' p p' q q' h1 h1' h2 h2' h3 h3'=>D.mone m m' p p' q q' (own h1 (own_iff.2 (.inr h3))) (own h1' (own_iff.2 (.inr h3'))) h2 h2' h3 h3',fun m p q h1 h2 h3=>D.mmine m p q (own h1 (own_iff.2 (.inr h3))) h2 h3,fun m p q h1 h2 h3=>?_,fun m m' p p' h1 h1' h3 h3'=>?_,?_,fun l hl=>?_,?_⟩,H.fr.keep K,⟨by simp [H.st.len],fun m p q h1 h2 h3=>?_,fun m m' p p' q q' h1 h1' h2 h2' h3 h3'=>H.st.one m m' p p' q q' (own h1 (own_iff.2 (.inl h3))) (own h1' (own_iff.2 (.inl h3'))) h2 h2' h3 h3',fun x n hx=>Nat.lt_of_lt_of_le (H.st.low x n hx) B1.size,H.st.laid.keep K⟩,
  ⟨B1.os.trans B.os,B1.tape.trans B.tape,B1.output.trans B.output,Nat.le_trans B.size B1.size,fun x h1 h2 h3=>?_,B.sub,B.new,B.names,fun x n hx=>(K.cell x n (B.sub x n hx)).trans (B.cell x n hx),B.csub,B.cnew⟩⟩
 · exact H.mine m p q (own h1 (own_iff.2 (.inl h3))) h2 h3
 · have h1':=own h1 (own_iff.2 (.inr h3))
   obtain ⟨ents,clock,e1,_⟩:=(D.maps m p q h1' h2 h3).ex
   exact (D.maps m p q h1' h2 h3).keep K (hkind e1 (by simp))
 · rcases get h1 with ⟨rfl,rfl⟩ | ⟨_,h1⟩
   · rw [ho'k] at h3; cases h3
   · obtain ⟨y1,y0,y2⟩:=D.yld m p q h1 h2 h3
     exact ⟨y1,y0,E.stable y2 ⟨B1.os,B1.tape,B1.output,B1.size,fun x hx=>hold x (D.clow x hx) (fun e=>hC (e ▸ hx)),K.cell⟩⟩
 · have key:∀ {m:Nat} {p:O},(st.set k o')[m]? = some p→p.kind=.yld→st[m]? = some p:=by
    intro m p hj hy
    rcases get hj with ⟨rfl,rfl⟩ | ⟨_,hj⟩
    · rw [ho'k] at hy; cases hy
    · exact hj
   exact D.yone m m' p p' (key h1 h3) (key h1' h3') h3 h3'
 · obtain ⟨rs,m1,m2,m3⟩:=D.marks
   refine ⟨rs,m1,m2,fun r hr=>?_⟩
   obtain ⟨m4,m5,m6⟩:=m3 r hr
   exact ⟨by rw [hkind m4 (by simp)]; exact m4,m5,m6⟩
 · obtain ⟨l0,L,l1,l2⟩:=D.round l hl
   exact ⟨l0,L,by rw [hkind l1 (by simp)]; exact l1,l2⟩
 · refine ⟨fun m p h1 h2 x hx=>?_,fun m p x h1 h2 hx=>?_,fun m m' p p' n n' x x' h1 h1' h2 h2' hx hx' hl=>?_,fun m m' p p' q x h1 h2 hx h1' hq hl he'=>?_,fun m p h1 h2=>?_⟩
   · obtain ⟨n,hn⟩:=List.getElem?_of_mem hx
     obtain ⟨p0,x0,a1,a2,a3,a4,a5,a6⟩:=pget h1 h2 hn
     by_cases hb:labOf x0=b
     · rw [a6 hb]
       exact hE
     · rw [a5 hb]
       have hE:=Q.ent m p0 a1 a2 x0 (List.mem_of_getElem? a3)
       exact hE.move (hold _ (Q.lt ⟨m,p0,x0,a1,a2,List.mem_of_getElem? a3,rfl⟩) hb) (fun _ _ h=>h) K.cell hE.lab.2
   · obtain ⟨n,hn⟩:=List.getElem?_of_mem hx
     obtain ⟨p0,x0,a1,a2,a3,a4,_⟩:=pget h1 h2 hn
     rw [a4]
     exact Q.free m p0 x0 a1 a2 (List.mem_of_getElem? a3)
   · obtain ⟨p0,x0,a1,a2,a3,a4,_⟩:=pget h1 h2 hx
     obtain ⟨p0',x0',b1,b2,b3,b4,_⟩:=pget h1' h2' hx'
     exact Q.one m m' p0 p0' n n' x0 x0' a1 b1 a2 b2 a3 b3 (a4.symm.trans (hl.trans b4))
   · obtain ⟨n,hn⟩:=List.getElem?_of_mem hx
     obtain ⟨p0,x0,a1,a2,a3,a4,_⟩:=pget h1 h2 hn
     exact Q.sep m m' p0 p' q x0 a1 a2 (List.mem_of_getElem? a3) (own h1' (own_iff.2 (.inl hl))) hq hl (he'.trans a4)
   · rcases get h1 with ⟨rfl,rfl⟩ | ⟨_,h1⟩
     · rw [← ho']; rfl
     · exact Q.bx m p h1 h2
 · have h1':=own h1 (own_iff.2 (.inl h3))
   have M:=H.st.obj m p q h1' h2 h3
   exact M.same K (hold _ M.lt (liveB h1' h2 h3)) (fun _ h=>h)
 · rw [hold x (Nat.lt_of_lt_of_le h1 B.size) (fun e=>?_)]
   · exact B.old x h1 h2 h3
   · subst e
     rcases (Q.at hlab).2 with h | h
     · omega
     · exact h2 h
end Go.Cod
namespace Go.Cod
open Go
variable [Lam]
variable {P:Program} {ok:OkY} {E:Env P ok} {w0:World} {mod:Nat→Prop} {γ0:List G} {Pr0:Nat→Nat→Prop} {C0:Nat→Prop} {nt:Nat} {ρ:Option Nat}
 {Pr Pr':Nat→Nat→Prop} {γ γ' γc:List G} {C C':Nat→Prop} {fr fr':Nat→V} {st st':St} {a a':Act} {w w':World}
def PPart (x:V) (b sz o n c:Nat):Prop:=x=subD b sz o n c∨(x=.dref b n c∧o=0)
def PSrc (st:St) (x:V) (ms:List (List V)):Prop:=elems st x=some ms ∨
 (∃ b sz o n c k cap rows,PPart x b sz o n c∧ent b cap sz rows∈poolEs st k∧o+n≤rows.length∧ms=(rows.drop o).take n) ∨
 ∃ s:List UInt8,x=.str s∧ms=s.map fun b=>[.int .u8 b.toNat]
omit [Lam] in
theorem PPart.rep {x:V} {b sz o n c:Nat} {cx:Value} (h:PPart x b sz o n c) (hx:Rep Pr γ w x cx):cx=.slice (some ⟨b,o*sz,none⟩) n c:=by
 rcases h with rfl | ⟨rfl,rfl⟩
 · cases hx; rfl
 · cases hx; rw [Nat.zero_mul]
omit [Lam] in
theorem flat.names {c:Nat} {es:List (List V)} {us:List Value} (hc:V.clean.cleanLL 0 es=true) (h:flat c es us Pr γ w):flat c es us Pr γ' w :=
 ⟨h.1,fun i e j x a b=>by
   obtain ⟨u,h1,h2⟩:=h.2 i e j x a b
   exact ⟨u,h1,h2.names (n:=0) (fun k hk=>absurd hk (Nat.not_lt_zero _)) (V.cleanL_mem (V.cleanLL_mem hc e (List.mem_of_getElem? a)) x (List.mem_of_getElem? b))⟩⟩
theorem PSrc.run (H:X P ok E w0 mod γ0 Pr0 C0 nt ρ Pr γ C fr st a w) {x:V} {cx:Value} {ms:List (List V)} {size:Nat} (h:PSrc st x ms) (hs:∀ m∈ms,m.length=size) (hx:Rep Pr γ w x cx) :
  V.clean.cleanLL 0 ms=true∧(∀ e∈ms,∀ y∈e,y.leaf=true)∧∃ news,flat size ms news Pr [] w∧(∀ u∈news,u.oneCell'=true)∧(∀ w1:World,(Builtin.lenOf cx).run P w1=.ok ms.length w1) ∧
   ∀ m,m≤ms.length→∀ w1:World,(∀ a,w1.cell? a=w.cell? a)→(Builtin.firstCells size m cx).run P w1=.ok (news.take (m*size)).toArray w1:=by
 have nil:ms=[]→∀ (a:Option Addr) (n c:Nat),cx=.slice a n c→n=0→V.clean.cleanLL 0 ms=true∧(∀ e∈ms,∀ y∈e,y.leaf=true)∧∃ news,flat size ms news Pr [] w∧(∀ u∈news,u.oneCell'=true)∧(∀ w1:World,(Builtin.lenOf cx).run P w1=.ok ms.length w1) ∧
   ∀ m,m≤ms.length→∀ w1:World,(∀ a,w1.cell? a=w.cell? a)→(Builtin.firstCells size m cx).run P w1=.ok (news.take (m*size)).toArray w1:=by
  intro hz a n c e e0
  subst hz; subst e; subst e0
  refine ⟨rfl,by simp,[],⟨by simp,fun i e j x a=>by simp at a⟩,by simp,fun w1=>by simp [Builtin.lenOf],fun m hm w1 _=>?_⟩
  have:m=0:=by simpa using hm
  subst this
  cases a <;> simp [Builtin.firstCells,loadCells,loadCellsFrom]
 have some:∀ (b off n c:Nat),cx=.slice (.some ⟨b,off,none⟩) n c→n=ms.length→SRows Pr γ w ms b off size→V.clean.cleanLL 0 ms=true→V.clean.cleanLL 0 ms=true∧(∀ e∈ms,∀ y∈e,y.leaf=true)∧∃ news,flat size ms news Pr [] w∧(∀ u∈news,u.oneCell'=true)∧(∀ w1:World,(Builtin.lenOf cx).run P w1=.ok ms.length w1) ∧
   ∀ m,m≤ms.length→∀ w1:World,(∀ a,w1.cell? a=w.cell? a)→(Builtin.firstCells size m cx).run P w1=.ok (news.take (m*size)).toArray w1:=by
  intro b off n c e en R hc
  subst e; subst en
  obtain ⟨us,f1,f2,f3⟩:=R.flat
  refine ⟨hc,R.lf,us,f1.names hc,f2,fun w1=>by simp [Builtin.lenOf],fun m hm w1 hw1=>?_⟩
  have hle:m*size≤ms.length*size:=Nat.mul_le_mul_right _ hm
  refine run_firstCells_some w1 size m ⟨b,off,none⟩ _ _ (us.take (m*size)) (by rw [List.length_take,f1.1,Nat.min_eq_left hle]) (fun j v hv=>?_)
  rw [addr_add,hw1]
  refine f3 j v ?_
  have hj:j < m*size:=by
   have:=(List.getElem?_eq_some_iff.1 hv).1
   rw [List.length_take] at this; omega
  rw [List.getElem?_take_of_lt hj] at hv
  exact hv
 rcases h with h | ⟨b,sz,o,n,c,k,cap,rows,hp,hm,hon,rfl⟩ | ⟨s,rfl,rfl⟩
 · obtain ⟨a,cap,rfl,_,hR⟩:=elems_rows H.st h hx
   by_cases hz:ms=[]
   · exact nil hz a _ cap rfl (by rw [hz]; rfl)
   · obtain ⟨b,off,c,rfl,R⟩:=hR hz
     have hc:c=size:=by
      obtain ⟨e,he⟩:=List.exists_mem_of_ne_nil _ hz
      rw [← R.wid e he,hs e he]
     subst hc
     exact some b off _ cap rfl rfl R (elems_clean H.st h hx)
 · have hcx:=hp.rep hx
   have hlen:((rows.drop o).take n).length=n:=by rw [List.length_take,List.length_drop]; omega
   by_cases hz:(rows.drop o).take n=[]
   · exact nil hz _ n c hcx (by rw [← hlen,hz]; rfl)
   · obtain ⟨ty,hO⟩:=(H.poolEnt k _ hm).obj
     have M:=hO γ
     have hsub:∀ e∈(rows.drop o).take n,e∈rows:=fun e he=>List.mem_of_mem_drop (List.mem_of_mem_take he)
     have hc:sz=size:=by
      obtain ⟨e,he⟩:=List.exists_mem_of_ne_nil _ hz
      rw [← hs e he]; exact (M.sz e (hsub e he)).symm
     subst hc
     have hcl:V.clean.cleanLL 0 ((rows.drop o).take n)=true:=by
      have:=M.cl rfl
      rw [cleanLL_iff] at this ⊢
      exact fun e he=>this e (hsub e he)
     refine some b (o*sz) n c hcx hlen.symm ⟨fun e he=>M.sz e (hsub e he),fun e he=>M.lf e (hsub e he),fun i e hi j x hx=>?_⟩ hcl
     have hin:i < n:=by
      have:=(List.getElem?_eq_some_iff.1 hi).1
      rw [List.length_take] at this; omega
     rw [List.getElem?_take_of_lt hin,List.getElem?_drop] at hi
     obtain ⟨u,hu,hr⟩:=M.cells hi j x hx
     exact ⟨u,by rw [show o*sz+i*sz+j=(o+i)*sz+j by rw [Nat.add_mul]]; exact hu,hr⟩
 · cases hx
   have hcl:∀ l:List UInt8,V.clean.cleanLL 0 (l.map fun b=>[V.int .u8 b.toNat])=true:=by
    intro l
    induction l with
    | nil=>rfl
    | cons b l ih =>
      show (V.clean.cleanL 0 [V.int .u8 b.toNat]&&V.clean.cleanLL 0 (l.map fun b=>[V.int .u8 b.toNat]))=true
      rw [ih]; rfl
   refine ⟨hcl s,fun e he y hy=>?_,?_⟩
   · obtain ⟨b,_,rfl⟩:=List.mem_map.1 he
     rw [List.mem_singleton.1 hy]; rfl
   · rcases s with _ | ⟨b0,s⟩
     · refine ⟨[],⟨by simp,fun i e j x a=>by simp at a⟩,by simp,fun w1=>?_,fun m hm w1 _=>?_⟩
       · simp [Builtin.lenOf]; rfl
       · have:m=0:=by simpa using hm
         subst this
         simp [Builtin.firstCells]
     · have h1:=hs [V.int .u8 b0.toNat] (by simp)
       have h1:size=1:=h1.symm
       subst h1
       refine ⟨(b0::s).map fun b=>Value.int .u8 b.toNat,⟨by simp,fun i e j x p q=>?_⟩,fun u hu=>?_,fun w1=>?_,fun m hm w1 _=>?_⟩
       · rw [List.getElem?_map] at p
         obtain ⟨b,hb,rfl⟩:=Option.map_eq_some_iff.1 p
         have hj:j=0:=by
          have:=(List.getElem?_eq_some_iff.1 q).1
          simpa using this
         subst hj
         cases q
         exact ⟨Value.int .u8 b.toNat,by rw [Nat.mul_one,Nat.add_zero,List.getElem?_map,hb]; rfl,.int _ _⟩
       · obtain ⟨b,_,rfl⟩:=List.mem_map.1 hu
         rfl
       · simp [Builtin.lenOf,ByteArray.size]
       · have he:(ByteArray.mk (b0::s).toArray |>.extract 0 m).data=((b0::s).take m).toArray:=by
          rw [ByteArray.data_extract]; simp
         show (pure _:Sem (Array Value)).run P w1=_
         rw [he]
         simp [List.map_take]
omit [Lam] in
theorem clean_app {n:Nat} {xs ys:List (List V)} (h1:V.clean.cleanLL n xs=true) (h2:V.clean.cleanLL n ys=true):V.clean.cleanLL n (xs++ys)=true:=by
 rw [cleanLL_iff] at *
 intro e he
 rcases List.mem_append.1 he with h | h
 · exact h1 e h
 · exact h2 e h
def laidRows (rows ms:List (List V)) (o:Nat):List (List V):=rows.take o++(ms++rows.drop (o+ms.length))
omit [Lam] in
theorem laidRows_get {rows ms:List (List V)} {o i:Nat} (ho:o≤rows.length):(laidRows rows ms o)[i]? = if i < o then rows[i]? else if i < o+ms.length then ms[i - o]? else rows[i]? := by
 unfold laidRows
 have hl:(rows.take o).length=o:=by rw [List.length_take]; omega
 by_cases h1:i < o
 · rw [if_pos h1,List.getElem?_append_left (by omega),List.getElem?_take_of_lt h1]
 · rw [if_neg h1,List.getElem?_append_right (by omega),hl]
   by_cases h2:i < o+ms.length
   · rw [if_pos h2,List.getElem?_append_left (by omega)]
   · rw [if_neg h2,List.getElem?_append_right (by omega),List.getElem?_drop]
     congr 1; omega
omit [Lam] in
theorem EntOk.place {b cap sz:Nat} {rows ms:List (List V)} {news:List Value} (hE:EntOk Pr w (ent b cap sz rows)) (F:flat sz ms news Pr [] w) (h1:∀ u∈news,u.oneCell'=true) (hw:∀ m∈ms,m.length=sz)
  (hlf:∀ e∈ms,∀ y∈e,y.leaf=true) (hcl:V.clean.cleanLL 0 ms=true) {o:Nat} (ho:o≤rows.length) (hfit:o+ms.length≤cap) :
  ∃ w',(storeCells ⟨b,o*sz,none⟩ news).run P w=.ok () w'∧OnlyB b w w'∧EntOk Pr w' (ent b cap sz (laidRows rows ms o)):=by
 have hlab:=hE.lab.2
 obtain ⟨ty,hO⟩:=hE.obj
 have M:=hO []
 obtain ⟨cur,f,⟨c1,c2⟩,c3,c4⟩:=M.row
 have hle:(o+ms.length)*sz≤cap*sz:=Nat.mul_le_mul_right _ hfit
 rw [Nat.add_mul] at hle
 have c3:cur.size=cap*sz:=c3
 obtain ⟨w',cur',s1,s2,s3,s4,s5⟩:=run_storeRow P b (o*sz) ty f news 0 cur w c1 (fun n hn=>c2 n (.inl hn)) (by rw [F.1]; omega) h1
 have hcell:∀ x n,Pr x n→w'.cell? ⟨x,n,none⟩=w.cell? ⟨x,n,none⟩:=fun x n hx=>by
  by_cases e:x=b
  · subst e; exact absurd hx (hlab n)
  · exact cell_of_block (s2.old x e) n
 have K:Keep Pr Pr ([]:List G) [] w w':=⟨fun _ _ h=>h,hcell,fun _ _ h=>h⟩
 have hlen:(laidRows rows ms o).length≤cap:=by
  have:=M.le
  simp only [laidRows,List.length_append,List.length_take,List.length_drop]
  have:rows.length≤cap:=M.le
  omega
 have hmem:∀ e∈laidRows rows ms o,e∈rows∨e∈ms:=fun e he=>by
  simp only [laidRows,List.mem_append] at he
  rcases he with h | h | h
  · exact .inl (List.mem_of_mem_take h)
  · exact .inr h
  · exact .inl (List.mem_of_mem_drop h)
 have hold:∀ (i:Nat) e (j:Nat) x,(i < o∨o+ms.length≤i)→rows[i]? = some e→e[j]? = some x→∃ u,cur'[i*sz+j]? = some u∧Rep Pr [] w' x u:=by
  intro i e j x hi a b
  obtain ⟨u,u1,u2⟩:=c4 i e j x a b
  have hj:j < sz:=by
   have hs:e.length=sz:=M.sz e (List.mem_of_getElem? a)
   rw [← hs]; exact (List.getElem?_eq_some_iff.1 b).1
  refine ⟨u,?_,u2.keep K⟩
  rw [s5,if_neg]
  · exact u1
  · rw [F.1]
    rcases hi with hi | hi
    · have:=idx_lt hi hj; omega
    · have:(o+ms.length)*sz≤i*sz:=Nat.mul_le_mul_right _ hi
      rw [Nat.add_mul] at this; omega
 refine ⟨w',s1,s2,b,cap,sz,_,ty,rfl,rfl,rfl,hlen,M.max,fun e he=>?_,fun e he=>?_,⟨cur',f,⟨s3,fun n hn=>c2 n (by rw [← s4]; exact hn)⟩,by rw [s4]; exact c3,fun i e j x p q=>?_⟩,fun n _=>hlab n,fun _=>hlab,fun _=>?_,rfl⟩
 · rcases hmem e he with h | h
   · exact M.sz e h
   · exact hw e h
 · rcases hmem e he with h | h
   · exact M.lf e h
   · exact hlf e h
 · show ∃ u,cur'[i*sz+j]? = some u∧Rep Pr [] w' x u
   have p:(laidRows rows ms o)[i]? = some e:=p
   rw [laidRows_get ho] at p
   by_cases i1:i < o
   · rw [if_pos i1] at p
     exact hold i e j x (.inl i1) p q
   · rw [if_neg i1] at p
     by_cases i2:i < o+ms.length
     · rw [if_pos i2] at p
       obtain ⟨u,u1,u2⟩:=F.2 (i - o) e j x p q
       have hj:j < sz:=by rw [← hw e (List.mem_of_getElem? p)]; exact (List.getElem?_eq_some_iff.1 q).1
       have hlt:=idx_lt (show i - o < ms.length by omega) hj
       have e1:i*sz+j=o*sz+((i - o)*sz+j):=by
        rw [Nat.sub_mul]
        have:o*sz≤i*sz:=Nat.mul_le_mul_right _ (by omega)
        omega
       refine ⟨u,?_,u2.keep K⟩
       rw [e1,s5,if_pos (by rw [F.1]; omega),show o*sz+((i - o)*sz+j) - (o*sz+0)=(i - o)*sz+j by omega]
       exact u1
     · rw [if_neg i2] at p
       exact hold i e j x (.inr (by omega)) p q
 · have:=M.cl rfl
   have cl:=this
   rw [cleanLL_iff] at cl hcl ⊢
   intro e he
   rcases hmem e he with h | h
   · exact cl e h
   · exact hcl e h
end Go.Cod
namespace Go.Cod
open Go
variable [Lam]
variable {P:Program} {ok:OkY} {E:Env P ok} {w0:World} {mod:Nat→Prop} {γ0:List G} {Pr0:Nat→Nat→Prop} {C0:Nat→Prop} {nt:Nat} {ρ:Option Nat}
 {Pr Pr':Nat→Nat→Prop} {γ γ' γc:List G} {C C':Nat→Prop} {fr fr':Nat→V} {st st':St} {a a':Act} {w w':World}
omit [Lam] in
theorem RepL.two {x y:V} {us:List Value} {u v:Value} (h:RepL Pr γ w [x,y] us) (e:us=[u,v]):Rep Pr γ w x u∧Rep Pr γ w y v:=by
 subst e; exact ⟨h.2 0 x u rfl rfl,h.2 1 y v rfl rfl⟩
end Go.Cod
namespace Go.Cod
open Go
variable [Lam]
variable {P:Program} {ok:OkY} {E:Env P ok} {w0:World} {mod:Nat→Prop} {γ0:List G} {Pr0:Nat→Nat→Prop} {C0:Nat→Prop} {nt:Nat} {ρ:Option Nat}
 {Pr Pr':Nat→Nat→Prop} {γ γ' γc:List G} {C C':Nat→Prop} {fr fr':Nat→V} {st st':St} {a a':Act} {w w':World}
theorem X.newEnt (H:X P ok E w0 mod γ0 Pr0 C0 nt ρ Pr γ C fr st a w) {k cap sz:Nat} {o:O} {rows:List (List V)}
  (hk:st[k]? = some o) (hp:o.kind=.pool) (hw:Grew w w') (hE:EntOk Pr w' (ent w.heap.size cap sz rows)) :
  X P ok E w0 mod γ0 Pr0 C0 nt ρ Pr γ C fr (st.set k (poolO (o.es++[ent w.heap.size cap sz rows]))) a w'∧∀ j e,e∈poolEs st j→labOf e≠w.heap.size:=by
 have Q:=H.ext.pools
 have D:=H.ext
 have B:=H.base
 have hnew:∀ j e,e∈poolEs st j→labOf e≠w.heap.size:=fun j e he=>by
  obtain ⟨p,h1,h2,_,h3⟩:=poolEs_some he
  have:=Q.lt ⟨j,p,e,h1,h2,h3,rfl⟩
  omega
 refine ⟨?_,hnew⟩
 have hsz:w.heap.size≤w'.heap.size:=by rw [hw.size]; omega
 have hcell:∀ x n,Pr x n→w'.cell? ⟨x,n,none⟩=w.cell? ⟨x,n,none⟩:=fun x n hx=>cell_of_block (hw.old x (H.st.low x n hx)) n
 have K:Keep Pr Pr γ γ w w':=⟨fun _ _ h=>h,hcell,fun _ _ h=>h⟩
 have hkind:∀ {x:Nat} {ob:Obj},w.heap[x]? = some ob→w'.heap[x]? = w.heap[x]? := fun h1=>hw.old _ (Array.getElem?_eq_some_iff.1 h1).1
 have hdead:o.live=false:=by
  cases hl:o.live with
  | false=>rfl
  | true=>have:=live_kind H.st hk hl; rw [hp] at this; cases this
 have hklt:k < st.length:=(List.getElem?_eq_some_iff.1 hk).1
 generalize ho':poolO (o.es++[ent w.heap.size cap sz rows])=o'
 have ho'k:o'.kind=.pool:=by rw [← ho']; rfl
 have ho'l:o'.live=false:=by rw [← ho']; rfl
 have ho'es:o'.es=o.es++[ent w.heap.size cap sz rows]:=by rw [← ho']; rfl
 have get:∀ {m:Nat} {p:O},(st.set k o')[m]? = some p→(m=k∧p=o')∨(m≠k∧st[m]? = some p):=by
  intro m p hj
  rw [List.getElem?_set] at hj
  by_cases e:k=m
  · subst e; simp [hklt] at hj; exact .inl ⟨rfl,hj.symm⟩
  · rw [if_neg e] at hj; exact .inr ⟨Ne.symm e,hj⟩
 have own:∀ {m:Nat} {p:O},(st.set k o')[m]? = some p→p.own=true→st[m]? = some p:=by
  intro m p hj hp'
  rcases get hj with ⟨_,rfl⟩ | ⟨_,hj⟩
  · rcases own_iff.1 hp' with h | h
    · rw [ho'l] at h; cases h
    · rw [ho'k] at h; cases h
  · exact hj
 have pget:∀ {m:Nat} {p:O} {n:Nat} {x:List V},(st.set k o')[m]? = some p→p.kind=.pool→p.es[n]? = some x→(∃ p0,st[m]? = some p0∧p0.kind=.pool∧p0.es[n]? = some x)∨(m=k∧n=o.es.length∧x=ent w.heap.size cap sz rows):=by
  intro m p n x hj hp' hx
  rcases get hj with ⟨rfl,rfl⟩ | ⟨hne,hj⟩
  · rw [ho'es] at hx
    by_cases hn:n < o.es.length
    · rw [List.getElem?_append_left hn] at hx
      exact .inl ⟨o,hk,hp,hx⟩
    · have:n=o.es.length:=by
       have:=(List.getElem?_eq_some_iff.1 hx).1
       simp at this; omega
      subst this
      simp at hx
      exact .inr ⟨rfl,rfl,hx.symm⟩
  · exact .inl ⟨p,hj,hp',hx⟩
 refine ⟨fun m p q h1 h2 h3=>H.mine m p q (own h1 (own_iff.2 (.inl h3))) h2 h3,⟨fun x hx=>Nat.lt_of_lt_of_le (D.clow x hx) hsz,fun m p q h1 h2 h3=>D.apart m p q (own h1 h3) h2 h3,D.prC,fun m p q h1 h2 h3=>?_,fun m m' p p' q q' h1 h1' h2 h2' h3 h3'=>D.mone m m' p p' q q' (own h1 (own_iff.2 (.inr h3))) (own h1' (own_iff.2 (.inr h3'))) h2 h2' h3 h3',fun m p q h1 h2 h3=>D.mmine m p q (own h1 (own_iff.2 (.inr h3))) h2 h3,fun m p q h1 h2 h3=>?_,fun m m' p p' h1 h1' h3 h3'=>?_,?_,fun l hl=>?_,?_⟩,H.fr.keep K,⟨by simp [H.st.len],fun m p q h1 h2 h3=>?_,fun m m' p p' q q' h1 h1' h2 h2' h3 h3'=>H.st.one m m' p p' q q' (own h1 (own_iff.2 (.inl h3))) (own h1' (own_iff.2 (.inl h3'))) h2 h2' h3 h3',fun x n hx=>Nat.lt_of_lt_of_le (H.st.low x n hx) hsz,H.st.laid.keep K⟩,
  ⟨hw.os.trans B.os,hw.tape.trans B.tape,hw.output.trans B.output,Nat.le_trans B.size hsz,fun x h1 h2 h3=>?_,B.sub,B.new,B.names,fun x n hx=>(hcell x n (B.sub x n hx)).trans (B.cell x n hx),B.csub,B.cnew⟩⟩
 · have h1':=own h1 (own_iff.2 (.inr h3))
   obtain ⟨ents,clock,e1,_⟩:=(D.maps m p q h1' h2 h3).ex
   exact (D.maps m p q h1' h2 h3).keep K (hkind e1)
 · rcases get h1 with ⟨rfl,rfl⟩ | ⟨_,h1⟩
   · rw [ho'k] at h3; cases h3
   · obtain ⟨y1,y0,y2⟩:=D.yld m p q h1 h2 h3
     exact ⟨y1,y0,E.stable y2 ⟨hw.os,hw.tape,hw.output,hsz,fun x hx=>hw.old x (D.clow x hx),hcell⟩⟩
 · have key:∀ {m:Nat} {p:O},(st.set k o')[m]? = some p→p.kind=.yld→st[m]? = some p:=by
    intro m p hj hy
    rcases get hj with ⟨rfl,rfl⟩ | ⟨_,hj⟩
    · rw [ho'k] at hy; cases hy
    · exact hj
   exact D.yone m m' p p' (key h1 h3) (key h1' h3') h3 h3'
 · obtain ⟨rs,m1,m2,m3⟩:=D.marks
   refine ⟨rs,m1,m2,fun r hr=>?_⟩
   obtain ⟨m4,m5,m6⟩:=m3 r hr
   exact ⟨by rw [hkind m4]; exact m4,m5,m6⟩
 · obtain ⟨l0,L,l1,l2⟩:=D.round l hl
   exact ⟨l0,L,by rw [hkind l1]; exact l1,l2⟩
 · refine ⟨fun m p h1 h2 x hx=>?_,fun m p x h1 h2 hx=>?_,fun m m' p p' n n' x x' h1 h1' h2 h2' hx hx' hl=>?_,fun m m' p p' q x h1 h2 hx h1' hq hl he'=>?_,fun m p h1 h2=>?_⟩
   · obtain ⟨n,hn⟩:=List.getElem?_of_mem hx
     rcases pget h1 h2 hn with ⟨p0,a1,a2,a3⟩ | ⟨_,_,rfl⟩
     · have hE0:=Q.ent m p0 a1 a2 x (List.mem_of_getElem? a3)
       exact hE0.move (hw.old _ (Q.lt ⟨m,p0,x,a1,a2,List.mem_of_getElem? a3,rfl⟩)) (fun _ _ h=>h) hcell hE0.lab.2
     · exact hE
   · obtain ⟨n,hn⟩:=List.getElem?_of_mem hx
     rcases pget h1 h2 hn with ⟨p0,a1,a2,a3⟩ | ⟨_,_,rfl⟩
     · exact Q.free m p0 x a1 a2 (List.mem_of_getElem? a3)
     · refine ⟨fun hc=>?_,.inl B.size⟩
       have:=D.clow _ hc
       simp [labOf_ent] at this
   · rcases pget h1 h2 hx with ⟨p0,a1,a2,a3⟩ | ⟨e1,e2,rfl⟩ <;> rcases pget h1' h2' hx' with ⟨p0',b1,b2,b3⟩ | ⟨e1',e2',rfl⟩
     · exact Q.one m m' p0 p0' n n' x x' a1 b1 a2 b2 a3 b3 hl
     · have:=Q.lt ⟨m,p0,x,a1,a2,List.mem_of_getElem? a3,rfl⟩
       rw [hl,labOf_ent] at this; omega
     · have:=Q.lt ⟨m',p0',x',b1,b2,List.mem_of_getElem? b3,rfl⟩
       rw [← hl,labOf_ent] at this; omega
     · exact ⟨e1.trans e1'.symm,e2.trans e2'.symm⟩
   · obtain ⟨n,hn⟩:=List.getElem?_of_mem hx
     have h1'':=own h1' (own_iff.2 (.inl hl))
     rcases pget h1 h2 hn with ⟨p0,a1,a2,a3⟩ | ⟨_,_,rfl⟩
     · exact Q.sep m m' p0 p' q x a1 a2 (List.mem_of_getElem? a3) h1'' hq hl he'
     · have:=(H.st.obj m' p' q h1'' hq hl).lt
       rw [he',labOf_ent] at this; omega
   · rcases get h1 with ⟨rfl,rfl⟩ | ⟨_,h1⟩
     · rw [← ho']; rfl
     · exact Q.bx m p h1 h2
 · have h1':=own h1 (own_iff.2 (.inl h3))
   have M:=H.st.obj m p q h1' h2 h3
   exact M.same K (hw.old _ M.lt) (fun _ h=>h)
 · rw [hw.old x (Nat.lt_of_lt_of_le h1 B.size)]
   exact B.old x h1 h2 h3
end Go.Cod
namespace Go.Cod
open Go
variable [Lam]
variable {P:Program} {ok:OkY} {E:Env P ok} {w0:World} {mod:Nat→Prop} {γ0:List G} {Pr0:Nat→Nat→Prop} {C0:Nat→Prop} {nt:Nat} {ρ:Option Nat}
 {Pr Pr':Nat→Nat→Prop} {γ γ' γc:List G} {C C':Nat→Prop} {fr fr':Nat→V} {st st':St} {a a':Act} {w w':World}
omit [Lam] in
theorem EntOk.made {cap sz:Nat} {ms:List (List V)} {us:List Value} {rest:Array Value} {e:TypeId} {cur:Array Value} (hlow:∀ b n,Pr b n→b < w.heap.size) (hw:Grew w w') (hcur:w'.heap[w.heap.size]? = some (.cells cur e (0,0)))
  (hc:cur=us.toArray++rest) (hcs:cur.size=cap*sz) (F:flat sz ms us Pr [] w) (hwid:∀ m∈ms,m.length=sz) (hlf:∀ e∈ms,∀ y∈e,y.leaf=true) (hcl:V.clean.cleanLL 0 ms=true)
  (hle:ms.length≤cap) (hmax:cap≤maxLen):EntOk Pr w' (ent w.heap.size cap sz ms):=by
 have hcell:∀ x n,Pr x n→w'.cell? ⟨x,n,none⟩=w.cell? ⟨x,n,none⟩:=fun x n hx=>cell_of_block (hw.old x (hlow x n hx)) n
 have K:Keep Pr Pr ([]:List G) [] w w':=⟨fun _ _ h=>h,hcell,fun _ _ h=>h⟩
 have hno:∀ n,¬ Pr w.heap.size n:=fun n hn=>by have:=hlow _ _ hn; omega
 refine ⟨w.heap.size,cap,sz,ms,e,rfl,rfl,rfl,hle,hmax,hwid,hlf,⟨cur,(0,0),⟨hcur,fun n _ h=>by simp at h⟩,hcs,fun i e' j y p q=>?_⟩,fun n _=>hno n,fun _=>hno,fun _=>hcl,rfl⟩
 obtain ⟨u,h1,h2⟩:=F.2 i e' j y p q
 refine ⟨u,?_,h2.keep K⟩
 have hlt:=(List.getElem?_eq_some_iff.1 h1).1
 rw [hc,Array.getElem?_append_left (by simpa using hlt)]
 simpa using h1
theorem semAppend {τ:Tau} (hτ:TauGood P τ) {o:Oper} {s x:Operand} {t u e:TypeId} {ti:TI} (ho:o.op=.call { callee:=.builtin .append,args:=#[s,x],argTypes:=#[t,u] }) (hk:kindOf τ t=some (.slice e)) (hti:τ e=some ti) (hu:notInt (kindOf τ u)=true)
  (hz:ti.zero.cells.length=ti.size) (hby:0 < ti.bytes) {vs:List V} {vx:V} {b n c k:Nat} {rows ms:List (List V)} {K:V→St→Prop} (hvs:vs=[.dref b n c,vx]) (hm:ent b c ti.size rows∈poolEs st k) (hsrc:PSrc st vx ms) (hw:∀ m∈ms,m.length=ti.size)
  (hn:n≤rows.length) (hfit:(n+ms.length)*ti.bytes≤140737488355328)
  (h1:n+ms.length≤c→K (.dref b (n+ms.length) c) (st.set k (poolO (putEnt b (laidRows rows ms n) (poolEs st k)))))
  (h2:c < n+ms.length→∀ b' c',n+ms.length≤c'→(∀ j e,e∈poolEs st j→labOf e≠b')→K (.dref b' (n+ms.length) c') (st.set k (poolO (poolEs st k++[ent b' c' ti.size (rows.take n++ms)])))):SemOp P o vs st K:=by
 subst hvs
 unfold SemOp
 refine ⟨by simp [ho],fun ok E w0 mod γ0 Pr0 C0 nt ρ Pr γ C fr a w H hr=>?_⟩
 obtain ⟨hs,hx⟩:=hr.two (u:=a.eval s) (v:=a.eval x) (by simp [ho,Op.operands,Call.operands])
 have hcs:a.eval s=.slice (some ⟨b,0,none⟩) n c:=by
  generalize a.eval s=cs at hs
  cases hs; rfl
 have ht:=kind_slice hτ.ok hk
 obtain ⟨ie,z,g1,g2,g3,g4,g5⟩:=(hτ.ok _ _ hti).info
 obtain ⟨d,hud,hd⟩:=notInt_desc hτ.ok hu
 obtain ⟨hcl,hlf,news,F,n1,n2,n3⟩:=hsrc.run H hw hx
 have n4:∀ w1:World,(∀ a,w1.cell? a=w.cell? a)→(Builtin.firstCells ie.size ms.length (a.eval x)).run P w1=.ok news.toArray w1:=fun w1 hw1=>by
  have:=n3 ms.length (Nat.le_refl _) w1 hw1
  rw [← F.1,List.take_length] at this
  rw [g2]; exact this
 obtain ⟨o',q1,q2,q3,q4⟩:=poolEs_some hm
 have hE:=H.poolEnt k _ hm
 by_cases hroom:n+ms.length≤c
 · obtain ⟨w',s1,s2,s3⟩:=hE.place (P:=P) F n1 hw hlf hcl hn hroom
   have HX:=H.putBlk q1 q2 q4 s2 s3
   rw [q3] at HX
   refine ⟨_,.slice (some ⟨b,0,none⟩) (n+ms.length) c,_,Pr,γ,C,w',h1 hroom,.dref _ _ _,HX,?_⟩
   have run:=run_append_place (P:=P) (ty:=o.type) (w:=w) (w':=w') ht g1 hud hd (base:=some ⟨b,0,none⟩) (sLen:=n) (sCap:=c) (n2 w) (n4 w (fun _=>rfl)) hroom
    (fun a ha=>by cases ha; rw [addr_add,g2,Nat.zero_add]; exact s1) (fun h=>by cases h)
   rw [← hcs] at run
   simp [execOp,ho,resolve,invoke,builtin,run]
 · obtain ⟨ty,hO⟩:=hE.obj
   have M:=hO []
   have hwr:∀ m∈rows.take n,m.length=ti.size:=fun m hm=>M.sz m (List.mem_of_mem_take hm)
   have hsrc0:PSrc st (.dref b n c) (rows.take n):=.inr (.inl ⟨b,ti.size,0,n,c,k,c,rows,.inr ⟨rfl,rfl⟩,hm,by omega,rfl⟩)
   obtain ⟨hcl0,hlf0,olds,F0,o1,o2,o3⟩:=hsrc0.run H hwr hs
   have hln:(rows.take n).length=n:=by rw [List.length_take]; omega
   have hold:∀ w1:World,(∀ a,w1.cell? a=w.cell? a)→(Builtin.firstCells ie.size n (.slice (some ⟨b,0,none⟩) n c)).run P w1=.ok olds.toArray w1:=fun w1 hw1=>by
    have:=o3 n (by rw [hln]; exact Nat.le_refl _) w1 hw1
    rw [hcs] at this
    have e0:olds.length=n*ti.size:=by rw [F0.1,hln]
    rw [← e0,List.take_length] at this
    rw [g2]; exact this
   have hmax:n+ms.length≤maxLen:=by
    simp only [maxLen]
    have:n+ms.length≤(n+ms.length)*ti.bytes:=Nat.le_mul_of_pos_right _ hby
    omega
   have run:=run_append_grows (P:=P) (ty:=o.type) (w:=w) ht g1 g4 hud hd (base:=some ⟨b,0,none⟩) (sLen:=n) (sCap:=c) (olds:=olds) (n2 w) n4 hold (by omega) (by rw [g3]; exact hby) (by rw [g3]; exact hfit)
   have hgc:=grownCap_ge w (n+ms.length) c e
   have hzs:z.cells.size=ti.size:=by rw [zrep_size g5,hz]
   have hqs:olds.length=n*ti.size:=by rw [F0.1,hln]
   generalize hc0:olds.toArray++news.toArray++Builtin.zeroCells z.cells (grownCap w (n+ms.length) c e - (n+ms.length))=cur0 at run
   have hEn:EntOk Pr (w.drew.alloc (.cells cur0 e)) (ent w.heap.size (grownCap w (n+ms.length) c e) ti.size (rows.take n++ms)):=by
    refine EntOk.made (cur:=cur0) (w':=w.drew.alloc (.cells cur0 e)) (us:=olds++news) (rest:=Builtin.zeroCells z.cells (grownCap w (n+ms.length) c e - (n+ms.length))) (e:=e) H.st.low (grew_drew_alloc w _) (by simp [World.alloc,World.drew,-World.alloc_eq,-World.drew_eq]) ?_ ?_ (F0.append F) ?_ ?_ (clean_app hcl0 hcl) ?_ (grownCap_le_maxLen w _ _ e hmax)
    · rw [← hc0]; simp
    · rw [← hc0]
      simp only [Array.size_append,List.size_toArray,zeroCells_size,hzs,F.1,hqs,← Nat.add_mul]; congr 1; omega
    · intro m hm
      rcases List.mem_append.1 hm with h | h
      · exact hwr m h
      · exact hw m h
    · intro m hm
      rcases List.mem_append.1 hm with h | h
      · exact hlf0 m h
      · exact hlf m h
    · rw [List.length_append,hln]; exact hgc
   obtain ⟨HX,hfresh⟩:=H.newEnt q1 q2 (grew_drew_alloc w _) hEn
   rw [q3] at HX
   refine ⟨_,.slice (some ⟨w.heap.size,0,none⟩) (n+ms.length) (grownCap w (n+ms.length) c e),_,Pr,γ,C,_,h2 (by omega) _ _ hgc hfresh,.dref _ _ _,HX,?_⟩
   rw [← hcs] at run
   simp [execOp,ho,resolve,invoke,builtin,run]
end Go.Cod
namespace Go.Cod
open Go
variable [Lam]
variable {P:Program} {ok:OkY} {E:Env P ok} {w0:World} {mod:Nat→Prop} {γ0:List G} {Pr0:Nat→Nat→Prop} {C0:Nat→Prop} {nt:Nat} {ρ:Option Nat}
 {Pr Pr':Nat→Nat→Prop} {γ γ' γc:List G} {C C':Nat→Prop} {fr fr':Nat→V} {st st':St} {a a':Act} {w w':World}
end Go.Cod
namespace Go.Cod
open Go
variable [Lam]
variable {P:Program} {ok:OkY} {E:Env P ok} {w0:World} {mod:Nat→Prop} {γ0:List G} {Pr0:Nat→Nat→Prop} {C0:Nat→Prop} {nt:Nat} {ρ:Option Nat}
 {Pr Pr':Nat→Nat→Prop} {γ γ' γc:List G} {C C':Nat→Prop} {fr fr':Nat→V} {st st':St} {a a':Act} {w w':World}
end Go.Cod
namespace Go.Cod
open Go
variable [Lam]
variable {P:Program}
end Go.Cod
namespace Go.Cod
open Go
variable [Lam]
variable {P:Program}
theorem semAppendE {τ:Tau} (hτ:TauGood P τ) {o:Oper} {s x:Operand} {t u e:TypeId} {ti:TI} (ho:o.op=.call { callee:=.builtin .append,args:=#[s,x],argTypes:=#[t,u] }) (hk:kindOf τ t=some (.slice e)) (hti:τ e=some ti) (hu:notInt (kindOf τ u)=true)
  (hz:ti.zero.cells.length=ti.size) (hby:0 < ti.bytes) {vs:List V} {vx:V} {b n c k m:Nat} {rows ms es es1:List (List V)} {st:St} {K:V→St→Prop} (hvs:vs=[.dref b n c,vx]) (hpe:poolEs st k=es) (hm:ent b c ti.size rows∈es) (hsrc:PSrc st vx ms) (hw:∀ m∈ms,m.length=ti.size)
  (hml:ms.length=m) (hn:n≤rows.length) (hfit:(n+m)*ti.bytes≤140737488355328) (hes1:es1=putEnt b (laidRows rows ms n) es)
  (h1:n+m≤c→K (.dref b (n+m) c) (st.set k (poolO es1)))
  (h2:c < n+m→∀ b' c',n+m≤c'→(∀ e∈es,labOf e≠b')→K (.dref b' (n+m) c') (st.set k (poolO (es++[ent b' c' ti.size (rows.take n++ms)])))):SemOp P o vs st K:=by
 subst hes1; subst hml; subst hpe
 exact semAppend hτ ho hk hti hu hz hby hvs hm hsrc hw hn hfit h1 fun a b' c' d f=>h2 a b' c' d fun e he=>f k e he
end Go.Cod
namespace Go.Cod
open Go
variable [Lam]
variable {P:Program} {ok:OkY} {E:Env P ok} {w0:World} {mod:Nat→Prop} {γ0:List G} {Pr0:Nat→Nat→Prop} {C0:Nat→Prop} {nt:Nat} {ρ:Option Nat}
 {Pr Pr':Nat→Nat→Prop} {γ γ' γc:List G} {C C':Nat→Prop} {fr fr':Nat→V} {st st':St} {a a':Act} {w w':World}
end Go.Cod
namespace Go.Cod
open Go
variable [Lam]
variable {P:Program} {ok:OkY}
end Go.Cod
namespace Go.Cod
open Go
variable [Lam]
end Go.Cod
set_option linter.all false
namespace Go.Cod
open Go Go.ChangeShapes Go.WideShapes Go.RowKit Go.ChangeAt
class Adr where
 a:Nat→Addr
def sentCells [Adr] (tp:TypeId) (g:Nat):List V:=[.raw (.iface tp (.pointer (some (Adr.a g))))]
theorem laid_cell {W:World} {P:Program} {n:String} {g:Nat} {x:Value} (hg:P.globalNamed n=some g) (h:W.var? P n=some #[x]):W.cell? ⟨g,0,none⟩=some x∧g < W.heap.size∧W.cell? ⟨g,1,none⟩=none:=by
 unfold World.var? at h
 rw [hg] at h
 simp only [Option.bind_some] at h
 cases hh:W.heap[g]? with
 | none=>simp [hh] at h
 | some o =>
   cases o with
   | cells c t f =>
     simp only [hh,Option.some.injEq] at h
     subst h
     refine ⟨?_,(Array.getElem?_eq_some_iff.1 hh).1,?_⟩
     · simp [World.cell?,hh]
     · simp [World.cell?,hh]
   | _=>simp [hh] at h
theorem rep_var {W:World} {g:Nat} {x:Value} (hc:W.cell? ⟨g,0,none⟩=some x) (hlt:g < W.heap.size∧W.cell? ⟨g,1,none⟩=none) (h1:x.oneCell'=true):Rep (oldP W) [] W (.rptr [.raw x]) (.pointer (some ⟨g,0,none⟩))∧W.cell? ⟨g,[V.raw x].length,none⟩=none∧oldP W g [V.raw x].length:=by
 refine ⟨.rptr (off:=0) (fun _=>x) ?_ ?_ ?_,hlt.2,hlt.1⟩
 · intro v hv
   simp at hv
   subst hv
   simpa [V.leaf] using h1
 · intro j v hv
   cases j with
   | zero=>simp at hv; subst hv; exact ⟨by simpa using hc,hlt.1⟩
   | succ j=>simp at hv
 · intro j v hv
   cases j with
   | zero=>simp at hv; subst hv; exact .raw x
   | succ j=>simp at hv
variable {H:Type} {enc:TypeId × Value→H} {P:Program}
theorem trodVars_old (K:Kids P (· < P.types.size)) (hz:∀ t e,t < P.types.size→P.underlying t=some (.slice e)→0 < P.cellsOf e) (hgt:∀ (g:Nat) x,P.globals[g]? = some x→x.type < P.types.size)
  {w w':World} (h:∀ b,b < w.heap.size→w'.heap[b]? = w.heap[b]?) {sp:Nat→Bool} :
  ∀ {ns:List String} {ds:List (DataW H)} {ps:List MemPlace},(∀ p∈ps,p.block < w.heap.size)→(∀ p∈ps,sp p.block=true) →
    DataW.TrodVars enc P w (fun _=>true) ns ds ps→DataW.TrodVars enc P w' sp ns ds ps
 | [],[],_,_,_,h0=>h0
 | n::ns,d::ds,_,hl,hs,⟨g,t,cs,fuel,p,q,h1,h2,h3,h4,h5,e⟩=>by
   subst e
   have ht:t < P.types.size:=by
    cases hx:P.globals[g]? with
    | none=>simp [hx] at h2
    | some x=>simp [hx] at h2; subst h2; exact hgt g x hx
   have hv:w'.var? P n=w.var? P n:=by
    unfold World.var?
    rw [h1]
    simp only [Option.bind_some]
    have hlt:g < w.heap.size:=by
     unfold World.var? at h3
     rw [h1] at h3
     simp only [Option.bind_some] at h3
     rcases Nat.lt_or_ge g w.heap.size with h' | h'
     · exact h'
     · simp [Array.getElem?_eq_none h'] at h3
    rw [h g hlt]
   refine ⟨g,t,cs,fuel,p,q,h1,h2,hv.trans h3,?_,trodVars_old K hz hgt h (fun p hp=>hl p (by simp [hp])) (fun p hp=>hs p (by simp [hp])) h5,rfl⟩
   have h6:=DataW.trod_carry (w':=w') fuel _ _ _ h4 (fun p hp=>sameAt_old h (hl p (by simp only [List.mem_append]; exact .inl (.inr hp))))
   exact DataW.trod_respare K hz fuel _ _ _ ht h6 (fun p hp=>hs p (by simp only [List.mem_append]; exact .inl (.inr hp)))
 | [],_::_,_,_,_,h0=>by simp [DataW.TrodVars] at h0
 | _::_,[],_,_,_,h0=>by simp [DataW.TrodVars] at h0
variable [Lam]
theorem change_of_pureV {f:FuncId} {F:Func} {s:ChangeSpec} {apart fresh handsOn again:Bool} {tb:TypeId} (K:Kids P (· < P.types.size)) (hz:∀ t e,t < P.types.size→P.underlying t=some (.slice e)→0 < P.cellsOf e)
  (hgt:∀ (g:Nat) x,P.globals[g]? = some x→x.type < P.types.size)
  (hres:F.resultTypes=#[tb]) (htb:P.underlying tb=some .bool) (hpar:∀ t∈F.params.toList,t < P.types.size)
  {W:World} {args:Array Value} {ds gs:List (DataW H)} {before:List MemPlace} (hW:DataW.Whole enc P F.params.toList s.vars apart W args.toList ds gs before)
  (hs1:(s.fn H (ds++gs)).results=[.lit (.bool true)]) (hs2:(s.fn H (ds++gs)).args=ds) (hs3:(s.fn H (ds++gs)).vars=gs)
  {vs:List V} (hrep:RepL (oldP W) [] W vs args.toList) (hlaid:Laid (oldP W) W) (hp:Pure P f vs (·=.bool true)) :
  Calls P f args W fun e W'=>∃ v,e=.returned v∧s.post enc P F apart fresh handsOn again W args v W':=by
 have hW':=hW
 obtain ⟨p',q,hA,hV,hpq,hnf,hnd⟩:=hW
 have hc:=hp.2 (Env.none P noY) (fun _=>False) (oldP W) [] W args.toList hrep ⟨rfl,fun k o g h=>by simp at h,fun k k' o o' g g' h=>by simp at h,fun b n h=>h,hlaid⟩ (Ext.nil _ _ _ _)
 refine hc.mono ?_
 rintro e W' ⟨o,st',γ',Pr',C',hr,⟨rfl,r,rfl,rfl⟩,hst,hmine,hext,hbase⟩
 cases hr with
 | ret hr =>
 cases hr
 refine ⟨_,rfl,?_⟩
 have hold:∀ b,b < W.heap.size→W'.heap[b]? = W.heap[b]? := fun b hb=>hbase.old b hb (fun ⟨k,o,h,_⟩=>by simp at h) (fun h=>h)
 have hlt:∀ p∈before,p.block < W.heap.size:=hW'.lt
 have hread:∀ (sp:Nat→Bool),(∀ p∈before,sp p.block=true)→DataW.TrodAll enc P W' 0 sp true F.params.toList args.toList ds p':=by
  intro sp hsp
  rw [hpq] at hsp hlt
  exact trodAll_old K hz hold hpar (fun p hp=>hlt p (List.mem_append_left _ hp)) (fun p hp=>hsp p (List.mem_append_left _ hp)) hA
 have hreadV:∀ (sp:Nat→Bool),(∀ p∈before,sp p.block=true)→DataW.TrodVars enc P W' sp s.vars gs q:=by
  intro sp hsp
  rw [hpq] at hsp hlt
  exact trodVars_old K hz hgt hold (fun p hp=>hlt p (List.mem_append_right _ hp)) (fun p hp=>hsp p (List.mem_append_right _ hp)) hV
 have hresd:∀ (b:Nat) (sp:Nat→Bool) (hd:Bool),DataW.TrodAll enc P W' b sp hd F.resultTypes.toList ((Value.bool true).resultList F.resultTypes.size) (s.fn H (ds++gs)).results []:=by
  intro b sp hd
  rw [hs1,hres]
  exact (trodAll_cons_mk (shut_bool htb _) trodAll_mk0)
 have hok:=ok_one (P:=P) (W':=W') (f:=F) (v:=.bool true) hres rfl (okWide_bool_mk htb _)
 have hold':∀ p∈before,(fun b=>decide (b < W.heap.size)) p.block=true:=fun p hp=>by simpa using hlt p hp
 have hkept:W.keptBut W' (fun p=>p∈before∧(p∈([]:List MemPlace)∨p∈p'∨p∈q)):=by
  refine ⟨hbase.os,hbase.output,fun i hi=>?_⟩
  rw [hold i hi]
  cases hh:W.heap[i]? with
  | none=>simp
  | some o=>cases o <;> simp
 refine ⟨ds,gs,before,[],p',q,hW',hresd _ _ _,?_,?_,hkept,fun _=>⟨hok,[.lit (.bool true)]++ds,gs,p'++q,⟨p',q,?_,hreadV _ (fun _ _=>rfl),rfl,?_,?_⟩,?_⟩⟩
 · rw [hs2]; exact hread _ hold'
 · rw [hs3]; exact hreadV _ hold'
 · have:=hresd 0 (fun _=>true) true
   rw [hs1] at this
   exact trodAll_append (hread _ (fun _ _=>rfl)) this
 · intro b off hp
   have:=hnf b off (by rw [hpq]; exact hp)
   unfold World.frozen? at this ⊢
   have hb:b < W.heap.size:=hlt (.cell b off) (by rw [hpq]; exact hp)
   simp only [hold b hb]
   exact this
 · intro ha
   rw [← hpq]; exact hnd ha
 · intro p hp _
   rw [hpq]; exact hp
omit [Lam] in
theorem trodVars_len {P:Program} {w:World} {sp:Nat→Bool}:∀ {ns:List String} {ds:List (DataW H)} {ps:List MemPlace},DataW.TrodVars enc P w sp ns ds ps→ds.length=ns.length
 | [],[],_,_=>rfl
 | [],_::_,_,h=>by simp [DataW.TrodVars] at h
 | _::_,[],_,h=>by simp [DataW.TrodVars] at h
 | _::_,_::_,_,⟨_,_,_,_,_,_,_,_,_,_,h,_⟩=>by simp [trodVars_len h]
theorem law_callsV {W:World} {f:FuncId} {F:Func} {s:ChangeSpec} {apart fresh handsOn again:Bool} {tb:TypeId} (K:Kids P (· < P.types.size)) (hz:∀ t e,t < P.types.size→P.underlying t=some (.slice e)→0 < P.cellsOf e)
  (hgt:∀ (g:Nat) x,P.globals[g]? = some x→x.type < P.types.size)
  (hres:F.resultTypes=#[tb]) (htb:P.underlying tb=some .bool) (hpar:∀ t∈F.params.toList,t < P.types.size)
  {args:Array Value} {ds gs:List (DataW H)} {before:List MemPlace} (hW:DataW.Whole enc P F.params.toList s.vars apart W args.toList ds gs before)
  (hs:∀ ds gs:List (DataW H),ds.length=F.params.toList.length→gs.length=s.vars.length→(s.fn H (ds++gs)).results=[.lit (.bool true)]∧(s.fn H (ds++gs)).args=ds∧(s.fn H (ds++gs)).vars=gs)
  {base:Nat} (hval:∀ (j:Nat) t v,F.params[j]? = some t→args[j]? = some v→Value.okWide P W .any base t v)
  {Ss:List (V→Prop)} (hlaid:Laid (oldP W) W) (hR:ReadsAll enc P W F.params.toList Ss) (hp:∀ xs,HoldAll Ss xs→Pure P f xs (·=.bool true)) :
  Calls P f args W fun e W'=>∃ v,e=.returned v∧s.post enc P F apart fresh handsOn again W args v W':=by
 have hW':=hW
 obtain ⟨p,q,hA,hV,rfl,hfz,hnd⟩:=hW'
 obtain ⟨xs,h1,h2⟩:=args_of hR hA (base:=base) fun j t v a b=>hval j t v (by simpa using a) (by simpa using b)
 obtain ⟨q1,q2,q3⟩:=hs ds gs (trodAll_len hA) (trodVars_len hV)
 exact change_of_pureV K hz hgt hres htb hpar hW q1 q2 q3 h2 hlaid (hp xs h1)
theorem pure_of_still {f:FuncId} {xs:List V} {r:V} {R:V→Prop} (hc:Callable P f) (hR:R r)
  (h:∀ (Pr:Nat→Nat→Prop) (γ:List G) (w:World) (cargs:List Value),RepL Pr γ w xs cargs→∃ v,(∀ w1:World,Rep Pr γ w1 r v)∧Calls P f cargs.toArray w fun e w'=>e=.returned v∧w'=w):Pure P f xs R:=by
 refine ⟨hc,fun E C Pr γ w cargs ha hst hx=>?_⟩
 obtain ⟨v,h1,h2⟩:=h Pr γ w cargs ha
 refine h2.mono ?_
 rintro e w' ⟨rfl,rfl⟩
 obtain rfl:γ=[]:=by
  have:=hst.len
  simpa using this
 exact ⟨.ret r,[],[],Pr,C,.ret (h1 _),⟨rfl,r,rfl,hR⟩,hst,fun k o g h=>by simp at h,hx,⟨rfl,rfl,rfl,Nat.le_refl _,fun _ _ _ _=>rfl,fun _ _ h=>h,fun _ _ h=>.inl h,fun _ _ h=>h,fun _ _ _=>rfl,fun _ h=>h,fun _ h=>.inl h⟩⟩
end Go.Cod
set_option linter.all false
namespace Go.Cod
open Go
variable [Lam]
end Go.Cod
set_option linter.all false
namespace Go.Cod
open Go
structure Grew2 (w w':World):Prop where
 os:w'.os=w.os
 tape:w'.tape=w.tape
 output:w'.output=w.output
 size:w'.heap.size=w.heap.size+2
 old:∀ b,b < w.heap.size→w'.heap[b]? = w.heap[b]?
theorem heap_alloc (w:World) (o:Obj) (b:Nat):(w.alloc o).heap[b]? = if b=w.heap.size then some o else w.heap[b]? := by
 show (w.heap.push o)[b]? = _
 rw [Array.getElem?_push]
theorem size_alloc (w:World) (o:Obj):(w.alloc o).heap.size=w.heap.size+1:=by
 show (w.heap.push o).size=_
 simp
theorem grew2_alloc (w:World) (o p:Obj):Grew2 w ((w.alloc o).alloc p) :=
 ⟨rfl,rfl,rfl,by rw [size_alloc,size_alloc],fun b hb=>by rw [heap_alloc,size_alloc,if_neg (by omega),heap_alloc,if_neg (by omega)]⟩
theorem alloc2_at0 (w:World) (o p:Obj):((w.alloc o).alloc p).heap[w.heap.size]? = some o:=by
 rw [heap_alloc,size_alloc,if_neg (by omega),heap_alloc,if_pos rfl]
theorem alloc2_at1 (w:World) (o p:Obj):((w.alloc o).alloc p).heap[w.heap.size+1]? = some p:=by
 rw [heap_alloc,size_alloc,if_pos rfl]
structure Sets (N:Nat) (w w':World):Prop where
 os:w'.os=w.os
 tape:w'.tape=w.tape
 output:w'.output=w.output
 size:w'.heap.size=w.heap.size
 old:∀ b,b≠N→b≠N+1→w'.heap[b]? = w.heap[b]?
theorem Sets.refl (N:Nat) (w:World):Sets N w w:=⟨rfl,rfl,rfl,rfl,fun _ _ _=>rfl⟩
theorem Sets.set {N:Nat} {w w':World} (h:Sets N w w') (a:Addr) (v:Value) (ha:a.block=N∨a.block=N+1):Sets N w (w'.setCell a v):=by
 refine ⟨h.os,h.tape,h.output,by simp [World.setCell,h.size],fun b h1 h2=>?_⟩
 rw [← h.old b h1 h2]
 simp only [World.setCell,Array.getElem?_modify]
 rw [if_neg (by rcases ha with ha | ha <;> omega)]
theorem run_store_cell {P:Program} {w:World} {a:Addr} {v x:Value} (hv:v.oneCell'=true) (hc:w.cell? a=some x) (hf:w.frozen? a=false):(store a v).run P w=.ok () (w.setCell a v):=by
 rw [run_store P w a v _ hv]
 simp [stored,hc,hf]
variable [Lam]
theorem X.older {P ok} {E:Env P ok} {w0 w1 mod γ0 Pr0 C0 nt ρ Pr γ C fr st a w} (H:X P ok E w1 mod γ0 Pr0 C0 nt ρ Pr γ C fr st a w) (hos:w1.os=w0.os) (htape:w1.tape=w0.tape) (hout:w1.output=w0.output) (hsz:w0.heap.size≤w1.heap.size)
  (hold:∀ b,b < w0.heap.size→w1.heap[b]? = w0.heap[b]?) (hPr:∀ b n,Pr0 b n→b < w0.heap.size):X P ok E w0 mod γ0 Pr0 C0 nt ρ Pr γ C fr st a w:=by
 have D:=H.ext
 have B:=H.base
 refine ⟨fun k o g a1 a2 a3=>(H.mine k o g a1 a2 a3).imp (Nat.le_trans hsz) id,⟨D.clow,D.apart,D.prC,D.maps,D.mone,fun k o g a1 a2 a3=>(D.mmine k o g a1 a2 a3).imp (Nat.le_trans hsz) id,D.yld,D.yone,?_,D.round,?_⟩,H.fr,H.st,
  ⟨B.os.trans hos,B.tape.trans htape,B.output.trans hout,Nat.le_trans hsz B.size,fun b h1 h2 h3=>(B.old b (Nat.lt_of_lt_of_le h1 hsz) h2 h3).trans (hold b h1),B.sub,fun b n h=>(B.new b n h).imp id (Or.imp (Nat.le_trans hsz) id),B.names,fun b n h=>(B.cell b n h).trans ?_,B.csub,fun b h=>(B.cnew b h).imp id (Nat.le_trans hsz)⟩⟩
 · obtain ⟨rs,m1,m2,m3⟩:=D.marks
   exact ⟨rs,m1,m2,fun r hr=>⟨(m3 r hr).1,(m3 r hr).2.1,Nat.le_trans hsz (m3 r hr).2.2⟩⟩
 · have Q:=D.pools
   exact ⟨Q.ent,fun k o e a1 a2 a3=>⟨(Q.free k o e a1 a2 a3).1,(Q.free k o e a1 a2 a3).2.imp (Nat.le_trans hsz) id⟩,Q.one,Q.sep,Q.bx⟩
 · exact cell_of_block (hold b (hPr b n h)) n
theorem full_frame {P:Program} {ok:OkY} {f g:FuncId} {args gvs:List V} {st0:St} {σ:List Nat} {kn:Bool} {K Z:V→St→Prop} {R:Out→St→Prop} {Fits:List Value→List Value→Prop} {SV:Value→Prop} {zv:V} {zc:Value}
  (hcal:Callable P f) (hA:ACallG P ok g gvs st0 σ kn K Z)
  (hargs:∀ Pr γ w cargs,RepL Pr γ w args cargs→∃ gcargs,RepL Pr γ w gvs gcargs∧Fits cargs gcargs)
  (hbody:∀ (w:World) (cargs gcargs:List Value) (Q:World→Ending→World→Prop),Fits cargs gcargs→(∀ w2,Grew2 w w2→Calls P g gcargs.toArray w2 (Q w2)) →
    (∀ w2 e W,Grew2 w w2→Q w2 e W→W.heap[w.heap.size]? = w2.heap[w.heap.size]? ∧ W.heap[w.heap.size+1]? = w2.heap[w.heap.size+1]? ∧ ((∃ cv,e=.returned cv∧SV cv)∨∃ u v,e=.panicked [{ v:=.iface u v,recovered:=false }])) →
    Calls P f cargs.toArray w fun e5 w5=>∃ w2 e W,Grew2 w w2∧Q w2 e W∧Sets w.heap.size W w5∧((∃ cv,e=.returned cv∧e5=.returned (.tuple #[cv,.bool true]))∨∃ u v,e=.panicked [{ v:=.iface u v,recovered:=false }]∧e5=.returned (.tuple #[zc,.bool false])))
  (hz:∀ Pr γ w,Rep Pr γ w zv zc)
  (hKs:∀ v st' Pr γ w cv,K v st'→Rep Pr γ w v cv→SV cv) (hZs:∀ v st' Pr γ w cv,Z v st'→Rep Pr γ w v cv→∃ u x,cv=.iface u x)
  (hKR:∀ v st',K v st'→R (.ret (.tup [v,.bool true])) st') (hZR:∀ v st',Z v st'→R (.ret (.tup [zv,.bool false])) st'):Full P ok f args st0 R:=by
 refine ⟨hcal,fun E C Pr γ w cargs hr hst hext=>?_⟩
 obtain ⟨gcargs,hgr,hfit⟩:=hargs Pr γ w cargs hr
 let fr:Nat→V:=fun _=>.raw undef
 let a:Act:={ tmps:=#[],defers:=[] }
 have hfr:∀ w,FrOk Pr γ w fr a 0:=fun w=>⟨Nat.zero_le _,fun t=>by
  show Rep Pr γ w (.raw undef) ((#[]:Array Value).getD t undef)
  have e:(#[]:Array Value).getD t undef=undef:=by simp [Array.getD]
  rw [e]
  exact .raw _⟩
 have A0:X P ok E w (modOf st0 γ) γ Pr C 0 none Pr γ C fr st0 a w :=
  ⟨fun k o g h1 h2 h3=>.inr ⟨k,own_owns h1 h2 (own_iff.2 (.inl h3))⟩,hext,hfr w,hst,⟨rfl,rfl,rfl,Nat.le_refl _,fun _ _ _ _=>rfl,fun _ _ h=>h,fun _ _ h=>.inl h,fun _ _ h=>h,fun _ _ _=>rfl,fun _ h=>h,fun _ h=>.inl h⟩⟩
 have hmod:∀ b,modOf st0 γ b→b < w.heap.size:=fun b ⟨k,h⟩=>A0.owns_lt h
 have A2:∀ w2,Grew2 w w2→X P ok E w2 (modOf st0 γ) γ Pr C 0 none Pr γ C fr st0 a w2:=fun w2 G=>by
  have B:=A0.grown G.os G.tape G.output (by rw [G.size]; omega) G.old
  have D:=B.ext
  refine ⟨fun k o g h1 h2 h3=>.inr ⟨k,own_owns h1 h2 (own_iff.2 (.inl h3))⟩,⟨D.clow,D.apart,D.prC,D.maps,D.mone,fun k o g a1 a2 a3=>.inr ⟨k,own_owns a1 a2 (own_iff.2 (.inr a3))⟩,D.yld,D.yone,⟨[],rfl,by simp,by simp⟩,D.round,?_⟩,B.fr,B.st,⟨rfl,rfl,rfl,Nat.le_refl _,fun _ _ _ _=>rfl,fun _ _ h=>h,fun _ _ h=>.inl h,fun _ _ h=>h,fun _ _ _=>rfl,fun _ h=>h,fun _ h=>.inl h⟩⟩
  have Q:=D.pools
  exact ⟨Q.ent,fun k o e a1 a2 a3=>⟨(Q.free k o e a1 a2 a3).1,.inr ⟨k,o,a1,.inr ⟨a2,e,a3,rfl⟩⟩⟩,Q.one,Q.sep,Q.bx⟩
 have hgr2:∀ w2,Grew2 w w2→RepL Pr γ w2 gvs gcargs:=fun w2 G=>hgr.keep ⟨fun _ _ h=>h,fun b n h=>cell_of_block (G.old b (hst.low b n h)) n,fun _ _ h=>h⟩
 let Q:World→Ending→World→Prop:=fun w2 e W=>∃ st' Pr' γ' C',X P ok E w2 (modOf st0 γ) γ Pr C 0 none Pr' γ' C' fr st' a W ∧
     ((∃ v cv,e=.returned cv∧K v st'∧Rep Pr' γ' W v cv)∨(∃ v cv,e=.panicked [{ v:=cv,recovered:=false }]∧Z v st'∧Rep Pr' γ' W v cv))
 have hN:∀ w2,Grew2 w w2→∀ b,w.heap.size≤b→b < w.heap.size+2→¬ modOf st0 γ b∧¬ C b∧(∀ n,¬ Pr b n):=fun w2 G b h1 h2 =>
  ⟨fun h=>by have:=hmod b h; omega,fun h=>by have:=hext.clow b h; omega,fun n h=>by have:=hst.low b n h; omega⟩
 refine (hbody w cargs gcargs Q hfit (fun w2 G=>(ACallG_sound (A2 w2 G) hA (hgr2 w2 G)).2) fun w2 e W G hq=>?_).mono ?_
 · obtain ⟨st',Pr',γ',C',A,hv⟩:=hq
   have hs:=G.size
   refine ⟨A.base.old _ (by omega) (hN w2 G _ (Nat.le_refl _) (by omega)).1 (hN w2 G _ (Nat.le_refl _) (by omega)).2.1,A.base.old _ (by omega) (hN w2 G _ (by omega) (by omega)).1 (hN w2 G _ (by omega) (by omega)).2.1,?_⟩
   rcases hv with ⟨v,cv,rfl,hK,hrep⟩ | ⟨v,cv,rfl,hZ,hrep⟩
   · exact .inl ⟨cv,rfl,hKs v st' _ _ _ cv hK hrep⟩
   · obtain ⟨u,x,rfl⟩:=hZs v st' _ _ _ cv hZ hrep
     exact .inr ⟨u,x,rfl⟩
 · rintro e5 w5 ⟨w2,e,W,G,⟨st',Pr',γ',C',A,hv⟩,S,hl⟩
   have hs:=G.size
   have hne:∀ b,¬ (w.heap.size≤b∧b < w.heap.size+2)→w5.heap[b]? = W.heap[b]? := fun b h=>S.old b (by omega) (by omega)
   have hPr:∀ b n,Pr' b n→¬ (w.heap.size≤b∧b < w.heap.size+2):=fun b n h ⟨h1,h2⟩=>by
    rcases A.base.new b n h with h | h | h
    · exact (hN w2 G b h1 h2).2.2 n h
    · omega
    · exact (hN w2 G b h1 h2).1 h
   have hOw:∀ (k b:Nat),Owns st' γ' k b→¬ (w.heap.size≤b∧b < w.heap.size+2):=fun k b h ⟨h1,h2⟩=>by
    rcases A.owns_mine h with h | h
    · omega
    · exact (hN w2 G b h1 h2).1 h
   have hC:∀ b,C' b→¬ (w.heap.size≤b∧b < w.heap.size+2):=fun b h ⟨h1,h2⟩=>by
    rcases A.base.cnew b h with h | h
    · exact (hN w2 G b h1 h2).2.1 h
    · omega
   have A1:=A.older G.os G.tape G.output (by omega) G.old fun b n h=>hst.low b n h
   have A5:=A1.still S.os S.tape S.output (by rw [S.size]; exact Nat.le_refl _) (fun b n h=>cell_of_block (hne b (hPr b n h)) n) (fun k b h=>hne b (hOw k b h)) (fun b h=>hne b (hC b h)) (fun r h=>by simp [a] at h) (fun l h=>by cases h) (fun b h1 _ _=>hne b (by omega))
   have Kp:Keep Pr' Pr' γ' γ' W w5:=⟨fun _ _ h=>h,fun b n h=>cell_of_block (hne b (hPr b n h)) n,fun _ _ h=>h⟩
   rcases hl with ⟨cv,rfl,rfl⟩ | ⟨u,x,rfl,rfl⟩
   · rcases hv with ⟨v,cv',he,hK,hrep⟩ | ⟨v,cv',he,_,_⟩
     · cases he
       refine ⟨_,_,_,_,_,.ret (v:=.tup [v,.bool true]) ?_,hKR v st' hK,A5.st,A5.mine,A5.ext,A5.base⟩
       have:=RepL.cons (hrep.keep Kp) (RepL.cons (.bool true) RepL.nil)
       exact Rep.tup this.1 this.2
     · cases he
   · rcases hv with ⟨v,cv',he,_,_⟩ | ⟨v,cv',he,hZ,hrep⟩
     · cases he
     · refine ⟨_,_,_,_,_,.ret (v:=.tup [zv,.bool false]) ?_,hZR v st' hZ,A5.st,A5.mine,A5.ext,A5.base⟩
       have:=RepL.cons (hz Pr' γ' w5) (RepL.cons (.bool false) RepL.nil)
       exact Rep.tup this.1 this.2
end Go.Cod
set_option linter.all false
namespace Go.Cod
open Go
variable [Lam] {P:Program} {ok:OkY} {τ:Tau}
end Go.Cod
namespace Go.Cod
open Go
variable [Lam]
variable {P:Program} {ok:OkY} {E:Env P ok} {w0:World} {mod:Nat→Prop} {γ0:List G} {Pr0:Nat→Nat→Prop} {C0:Nat→Prop} {nt:Nat} {ρ:Option Nat}
 {Pr Pr':Nat→Nat→Prop} {γ γ' γc:List G} {C C':Nat→Prop} {fr fr':Nat→V} {st st':St} {a a':Act} {w w':World}
end Go.Cod
set_option linter.all false
namespace Go.Cod
open Go
variable [Lam]
variable {P:Program}
theorem semAppendNil {τ:Tau} (hτ:TauGood P τ) {o:Oper} {s x:Operand} {t u e:TypeId} {ti:TI} (ho:o.op=.call { callee:=.builtin .append,args:=#[s,x],argTypes:=#[t,u] }) (hk:kindOf τ t=some (.slice e)) (hti:τ e=some ti) (hu:notInt (kindOf τ u)=true)
  (hz:ti.zero.cells.length=ti.size) (hby:0 < ti.bytes) {vs:List V} {vx:V} {k m:Nat} {ms es:List (List V)} {st:St} {K:V→St→Prop} (hvs:vs=[.nils,vx]) (hpe:st[k]? = some (poolO es)) (hsrc:PSrc st vx ms) (hw:∀ m∈ms,m.length=ti.size)
  (hml:ms.length=m) (hm0:0 < m) (hfit:m*ti.bytes≤140737488355328)
  (h:∀ b c,m≤c→(∀ e∈es,labOf e≠b)→K (.dref b m c) (st.set k (poolO (es++[ent b c ti.size ms])))):SemOp P o vs st K:=by
 subst hvs; subst hml
 unfold SemOp
 refine ⟨by simp [ho],fun ok E w0 mod γ0 Pr0 C0 nt ρ Pr γ C fr a w H hr=>?_⟩
 obtain ⟨hs,hx⟩:=hr.two (u:=a.eval s) (v:=a.eval x) (by simp [ho,Op.operands,Call.operands])
 obtain ⟨base,hcs⟩:∃ base,a.eval s=.slice base 0 0:=by
  generalize a.eval s=cs at hs
  cases hs; exact ⟨_,rfl⟩
 have ht:=kind_slice hτ.ok hk
 obtain ⟨ie,z,g1,g2,g3,g4,g5⟩:=(hτ.ok _ _ hti).info
 obtain ⟨d,hud,hd⟩:=notInt_desc hτ.ok hu
 obtain ⟨hcl,hlf,news,F,n1,n2,n3⟩:=hsrc.run H hw hx
 have n4:∀ w1:World,(∀ a,w1.cell? a=w.cell? a)→(Builtin.firstCells ie.size ms.length (a.eval x)).run P w1=.ok news.toArray w1:=fun w1 hw1=>by
  have:=n3 ms.length (Nat.le_refl _) w1 hw1
  rw [← F.1,List.take_length] at this
  rw [g2]; exact this
 have hold:∀ w1:World,(∀ a,w1.cell? a=w.cell? a)→(Builtin.firstCells ie.size 0 (.slice base 0 0)).run P w1=.ok ([]:List Value).toArray w1:=fun w1 hw1=>by
  obtain ⟨_,_,olds,F0,o1,o2,o3⟩:=(show PSrc st .nils [] from .inl rfl).run (size:=ti.size) H (by simp) hs
  have:=o3 0 (Nat.le_refl _) w1 hw1
  rw [hcs,← g2,Nat.zero_mul,List.take_zero] at this
  exact this
 have hmax:ms.length≤maxLen:=by
  simp only [maxLen]
  have:ms.length≤ms.length*ti.bytes:=Nat.le_mul_of_pos_right _ hby
  omega
 have run:=run_append_grows (P:=P) (ty:=o.type) (w:=w) ht g1 g4 hud hd (base:=base) (sLen:=0) (sCap:=0) (olds:=[]) (n2 w) n4 hold (by omega) (by rw [g3]; exact hby) (by rw [g3,Nat.zero_add]; exact hfit)
 rw [Nat.zero_add] at run
 have hgc:=grownCap_ge w ms.length 0 e
 have hzs:z.cells.size=ti.size:=by rw [zrep_size g5,hz]
 generalize hc0:([]:List Value).toArray++news.toArray++Builtin.zeroCells z.cells (grownCap w ms.length 0 e - ms.length)=cur0 at run
 have hEn:EntOk Pr (w.drew.alloc (.cells cur0 e)) (ent w.heap.size (grownCap w ms.length 0 e) ti.size ms):=by
  refine EntOk.made (cur:=cur0) (w':=w.drew.alloc (.cells cur0 e)) (us:=news) (rest:=Builtin.zeroCells z.cells (grownCap w ms.length 0 e - ms.length)) (e:=e) H.st.low (grew_drew_alloc w _) (by simp [World.alloc,World.drew,-World.alloc_eq,-World.drew_eq]) ?_ ?_ F hw hlf hcl hgc (grownCap_le_maxLen w _ _ e hmax)
  · rw [← hc0]; simp
  · rw [← hc0]
    simp only [Array.size_append,List.size_toArray,zeroCells_size,hzs,F.1,List.length_nil,Nat.zero_add,← Nat.add_mul]; congr 1; omega
 obtain ⟨HX,hfresh⟩:=H.newEnt hpe rfl (grew_drew_alloc w _) hEn
 refine ⟨_,.slice (some ⟨w.heap.size,0,none⟩) ms.length (grownCap w ms.length 0 e),_,Pr,γ,C,_,h _ _ hgc (fun e he=>hfresh k e (by simp only [poolEs,hpe]; exact he)),.dref _ _ _,HX,?_⟩
 rw [← hcs] at run
 simp [execOp,ho,resolve,invoke,builtin,run]
theorem semAppendNil0 {τ:Tau} (hτ:TauGood P τ) {o:Oper} {s x:Operand} {t u e:TypeId} {ti:TI} (ho:o.op=.call { callee:=.builtin .append,args:=#[s,x],argTypes:=#[t,u] }) (hk:kindOf τ t=some (.slice e)) (hti:τ e=some ti) (hu:notInt (kindOf τ u)=true)
  {vs:List V} {vx:V} {st:St} {K:V→St→Prop} (hvs:vs=[.nils,vx]) (hsrc:PSrc st vx []) (h:K .nils st):SemOp P o vs st K:=by
 subst hvs
 unfold SemOp
 refine ⟨by simp [ho],fun ok E w0 mod γ0 Pr0 C0 nt ρ Pr γ C fr a w H hr=>?_⟩
 obtain ⟨hs,hx⟩:=hr.two (u:=a.eval s) (v:=a.eval x) (by simp [ho,Op.operands,Call.operands])
 obtain ⟨base,hcs⟩:∃ base,a.eval s=.slice base 0 0:=by
  generalize a.eval s=cs at hs
  cases hs; exact ⟨_,rfl⟩
 have ht:=kind_slice hτ.ok hk
 obtain ⟨ie,z,g1,g2,g3,g4,g5⟩:=(hτ.ok _ _ hti).info
 obtain ⟨d,hud,hd⟩:=notInt_desc hτ.ok hu
 obtain ⟨hcl,hlf,news,F,n1,n2,n3⟩:=hsrc.run (size:=ti.size) H (by simp) hx
 have hn:news=[]:=by
  have:=F.1
  simpa using this
 have n4:(Builtin.firstCells ie.size 0 (a.eval x)).run P w=.ok ([]:List Value).toArray w:=by
  have:=n3 0 (Nat.le_refl _) w (fun _=>rfl)
  rw [g2]; simpa using this
 have run:=run_append_place (P:=P) (ty:=o.type) (w:=w) (w':=w) ht g1 hud hd (base:=base) (sLen:=0) (sCap:=0) (m:=0) (news:=[]) (by simpa using n2 w) n4 (by omega) (fun a ha=>by simp [storeCells]) (fun _=>rfl)
 rw [← hcs] at run
 refine ⟨_,.slice base 0 0,st,Pr,γ,C,w,h,?_,H,?_⟩
 · rw [hcs] at hs; exact hs
 · simp [execOp,ho,resolve,invoke,builtin,run]
   exact hcs
end Go.Cod
namespace Go.Cod
open Go Go.RowKit
variable [Lam]
variable {P:Program}
end Go.Cod
namespace Go.Cod
open Go Go.RowKit
variable [Lam]
variable {P:Program}
end Go.Cod
namespace Go.Cod
open Go Go.RowKit
variable [Lam]
variable {P:Program}
end Go.Cod
