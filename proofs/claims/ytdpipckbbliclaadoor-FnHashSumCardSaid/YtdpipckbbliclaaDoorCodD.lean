import Derived.ReadAgain
import Derived.ChangeSame
import Derived.RowKit
import Derived.ChangeAt
import Derived.OpenShut
import Derived.ChangeArms
import Derived.Deep.Slices
import Derived.JoinedOf
import Derived.Handed
import Derived.Lib.SliceRun
import GoSem.Extern.SlicesOverlaps
import Derived.Stop.LaidErr
import Derived.LaidEql
import Derived.MakeChecks
import Derived.ChangeVars
import Derived.Laws.Small
import Derived.Below
import Derived.Lib.LaidTab
import Derived.Test.YtdpipckbbliclaaDoorCodC
namespace Go.Cod
open Go
variable [Lam]
def dstsOk (nt:Nat) (ops:List Oper):Bool:=ops.all fun o=>match o.dst with
 | some d=>decide (d < nt)
 | none=>true
def codeOk (nt:Nat):Code→Bool
 | .region _ ops _=>dstsOk nt ops.toList
 | .seq a b=>codeOk nt a&&codeOk nt b
 | .cond _ a b=>codeOk nt a&&codeOk nt b
 | .block _ c=>codeOk nt c
 | .loop c=>codeOk nt c
 | .scope c=>codeOk nt c
 | .rangeFunc _ ps a b=>codeOk nt a&&codeOk nt b&&ps.toList.all fun p=>decide (p < nt)
 | _=>true
omit [Lam] in
theorem wp_loop_var {F:Fence} {n0:Nat} {P:Program} {c:Code} {Q:Exit→Act→World→Prop} (J:Nat→Act→World→Prop)
  (round:∀ n a w,J n a w→c.wpIn F n0 P (Exit.then (fun a' w'=>∃ n',n' < n∧J n' a' w') Q) a w) {n:Nat} {a:Act} {w:World} (h₀:J n a w):(Code.loop c).wpIn F n0 P Q a w:=by
 intro b k cs hro hb hr
 have key:∀ n a w,J n a w →
   ∃ e a' w',Q e a' w'∧ArrivesIn (Machine.fenced P F) P (lone (b.atR a (.code c::.inLoop c::k)) cs w) b k cs e a' w':=by
  intro n
  induction n using Nat.strongRecOn with
  | _ n ih =>
    intro a w hI
    obtain ⟨e,a₁,w₁,hq,harr⟩:=round n a w hI b (.inLoop c::k) cs hro hb hr
    cases e with
    | normal =>
      obtain ⟨n',hlt,hI₁⟩:=hq
      obtain ⟨e₂,a₂,w₂,hq₂,harr₂⟩:=ih n' hlt a₁ w₁ hI₁
      exact ⟨e₂,a₂,w₂,hq₂,.of_steps (StepsIn.trans harr (.one (fenced_calm (fr:=b.atR a₁ (.inLoop c::k)) hb hr rfl) stepR_inLoop)) harr₂⟩
    | exit id=>exact ⟨_,a₁,w₁,hq,.pass (x:=.inLoop c) rfl (fun _ _=>.inl (by simp)) harr⟩
    | goto l=>exact ⟨_,a₁,w₁,hq,.pass (x:=.inLoop c) rfl (fun _ _=>.inl (by simp)) harr⟩
    | ret=>exact ⟨_,a₁,w₁,hq,.pass (x:=.inLoop c) rfl (fun _ _=>.inl (by simp)) harr⟩
    | panic ch=>exact ⟨_,a₁,w₁,hq,.pass (x:=.inLoop c) rfl (fun _ _=>.inl (by simp)) harr⟩
    | outgrown=>exact ⟨_,a₁,w₁,hq,.pass (x:=.inLoop c) rfl (fun _ _=>.inl (by simp)) harr⟩
 obtain ⟨e,a',w',hq,harr⟩:=key _ a w h₀
 exact ⟨e,a',w',hq,.of_steps (.one (fenced_calm (fr:=b.atR a (.code (.loop c)::k)) hb hr rfl) stepR_loop) harr⟩
variable {P:Program} {ok:OkY} {E:Env P ok} {w0:World} {mod:Nat→Prop} {γ0 γs:List G} {Pr0:Nat→Nat→Prop} {C0:Nat→Prop} {nt:Nat} {ρ:Option Nat}
 {Pr Pr':Nat→Nat→Prop} {γ γ' γc:List G} {C C':Nat→Prop} {fr fr':Nat→V} {st st':St} {a a':Act} {w w':World}
theorem X.drew (H:X P ok E w0 mod γ0 Pr0 C0 nt ρ Pr γ C fr st a w):X P ok E w0 mod γ0 Pr0 C0 nt ρ Pr γ C fr st a { w with drawn:=w.drawn+1 } :=
 H.still rfl rfl rfl (Nat.le_refl _) (fun _ _ _=>rfl) (fun _ _ _=>rfl) (fun _ _=>rfl) (fun _ _=>rfl) (fun l hl=>by obtain ⟨_,L,h,_⟩:=H.ext.round l hl; exact ⟨L,h⟩) (fun _ _ _ _=>rfl)
theorem aOps_sound {τ:Tau} (hτ:TauGood P τ) {ops:Array Oper} {K:(Nat→V)→St→Prop} {Z:V→(Nat→V)→St→Prop} {Q:Exit→Act→World→Prop}
  (hQ:∀ a w fr st Pr γ C,K fr st→X P ok E w0 mod γ0 Pr0 C0 nt ρ Pr γ C fr st a w→Q .normal a w)
  (hZ:∀ a w fr st Pr γ C v cv,Z v fr st→X P ok E w0 mod γ0 Pr0 C0 nt ρ Pr γ C fr st a w→Rep Pr γ w v cv→Q (.panic [{ v:=cv,recovered:=false }]) a w) :
  ∀ (l:List Oper) (is:List Nat),is.map (fun i=>ops[i]?)=l.map some→dstsOk nt l=true→∀ {fr:Nat→V} {st:St} {Pr γ C a w},X P ok E w0 mod γ0 Pr0 C0 nt ρ Pr γ C fr st a w→aOps P ok τ ops l fr st K Z→wpOpsIn (fen ρ) 0 P ops Q is a w
 | [],is,hi,_,fr,st,Pr,γ,C,a,w,A,h=>by
   cases is with
   | nil=>exact hQ a w fr st Pr γ C h A
   | cons i is=>simp at hi
 | o::l,is,hi,hd,fr,st,Pr,γ,C,a,w,A,h=>by
   cases is with
   | nil=>simp at hi
   | cons i is =>
     simp only [List.map_cons,List.cons.injEq] at hi
     obtain ⟨ho,hi⟩:=hi
     simp only [dstsOk,List.all_cons,Bool.and_eq_true] at hd
     have hd1:∀ x,o.dst=some x→x < nt:=by
      intro x hx
      have:=hd.1
      rw [hx] at this
      simpa using this
     simp only [wpOpsIn,ho]
     simp only [aOps_cons] at h
     simp only [force_eq,forceSt_eq] at h
     have go:aOp P ok τ o fr st (fun v st'=>aOps P ok τ ops l (Cod.put fr o.dst v) st' K Z) (fun v st'=>Z v fr st')→o.wpIn (fen ρ) 0 P a w (wpOpsIn (fen ρ) 0 P ops Q is) Q:=fun h =>
      aOp_sound hτ A h (fun v cv st' Pr' γ' C' w' hk hr A'=>aOps_sound hτ hQ hZ l is hi hd.2 (A'.put o.dst hd1 hr) hk) (fun v cv st' Pr' γ' C' w' hk hr A'=>hZ a w' fr st' Pr' γ' C' v cv hk A' hr)
     split at h
     · rename_i hg
       rw [if_pos (by simp [Region.wanted,hg])]
       exact go h
     · rename_i j want hg
       split at h
       · rename_i d hdj
         split at h
         · rename_i b hb
           have hs:=A.fr.slot d
           rw [hb] at hs
           have hy:yielded ops a.tmps j=some b:=by
            generalize hv:a.tmps.getD d undef=u at hs
            cases hs
            unfold yielded
            rw [hdj]
            simp only [Option.bind_some]
            rw [Array.getD_eq_getD_getElem?] at hv
            cases hget:a.tmps[d]? with
            | none=>rw [hget] at hv; simp [undef] at hv
            | some v'=>rw [hget] at hv; simp at hv; subst hv; rfl
           cases b <;> cases want <;> simp only [BC,negB,if_true,if_false,Bool.false_eq_true] at h
           · rw [if_pos (by simp [Region.wanted,hg,hy])]
             exact go h
           · rw [if_neg (by simp [Region.wanted,hg,hy])]
             exact ⟨fun _ _=>trivial,aOps_sound hτ hQ hZ l is hi hd.2 (A.put o.dst hd1 (.raw _)) h⟩
           · rw [if_neg (by simp [Region.wanted,hg,hy])]
             exact ⟨fun _ _=>trivial,aOps_sound hτ hQ hZ l is hi hd.2 (A.put o.dst hd1 (.raw _)) h⟩
           · rw [if_pos (by simp [Region.wanted,hg,hy])]
             exact go h
         · rename_i xs hb
           have hs:=A.fr.slot d
           rw [hb] at hs
           have hy:yielded ops a.tmps j=none:=by
            generalize hv:a.tmps.getD d undef=u at hs
            cases hs
            unfold yielded
            rw [hdj]
            simp only [Option.bind_some]
            rw [Array.getD_eq_getD_getElem?] at hv
            cases hget:a.tmps[d]? with
            | none=>rfl
            | some v'=>rw [hget] at hv; simp at hv; subst hv; rfl
           rw [if_neg (by simp [Region.wanted,hg,hy])]
           exact ⟨fun _ _=>trivial,aOps_sound hτ hQ hZ l is hi hd.2 (A.put o.dst hd1 (.raw _)) h⟩
         · exact h.elim
       · exact h.elim
omit [Lam] in
theorem readyL_mem {ops:Array Oper} {listed:Array Bool} {l:List Nat} (hs:listed.size=ops.size) (hl:∀ i,listed.getD i false=l.contains i) (i:Nat):i∈readyL ops l↔i∈Region.ready .any ops listed:=by
 rw [mem_ready]
 unfold readyL
 rw [List.mem_filter,List.mem_range,Bool.and_eq_true]
 constructor
 · rintro ⟨h1,h2,h3⟩
   refine ⟨?_,ops[i],by simp [h1],fun e he hb=>?_⟩
   · have:listed.getD i true=listed.getD i false:=by simp [Array.getD,hs,h1]
     rw [this,hl]
     simpa using h2
   · rw [hl]
     rw [show ops[i]? = some ops[i] by simp [h1]] at h3
     have:=List.all_eq_true.1 h3 e (by simpa using he)
     rw [hb] at this
     simpa using this
 · rintro ⟨h1,o,h2,h3⟩
   have hi:i < ops.size:=(Array.getElem?_eq_some_iff.1 h2).1
   refine ⟨hi,?_,?_⟩
   · have:listed.getD i true=listed.getD i false:=by simp [Array.getD,hs,hi]
     rw [this,hl] at h1
     simpa using h1
   · rw [h2]
     refine List.all_eq_true.2 fun e he=>?_
     cases hb:Region.binds .any e with
     | false=>rfl
     | true =>
       have:=h3 e (by simpa using he) hb
       rw [hl] at this
       simpa using this
theorem any_sound {τ:Tau} (hτ:TauGood P τ) {ops:Array Oper} (hd:∀ (i:Nat) t,dstOf ops i=some t→t < nt) {K:(Nat→V)→St→Prop} {Z:V→(Nat→V)→St→Prop} {Q:Exit→Act→World→Prop}
  (hQ:∀ a w fr st Pr γ C,K fr st→X P ok E w0 mod γ0 Pr0 C0 nt ρ Pr γ C fr st a w→Q .normal a w)
  (hZ:∀ a w fr st Pr γ C v cv,Z v fr st→X P ok E w0 mod γ0 Pr0 C0 nt ρ Pr γ C fr st a w→Rep Pr γ w v cv→Q (.panic [{ v:=cv,recovered:=false }]) a w) :
  ∀ (n:Nat) (listed:Array Bool) (l:List Nat),listed.size=ops.size→(∀ i,listed.getD i false=l.contains i)→∀ {fr:Nat→V} {st:St} {Pr γ C a w},X P ok E w0 mod γ0 Pr0 C0 nt ρ Pr γ C fr st a w →
    aAny P ok τ ops K Z n l fr st→wpAnyIn (fen ρ) 0 P .any ops Q n listed a w:=by
 intro n
 induction n with
 | zero =>
   intro listed l hs hl fr st Pr γ C a w A h
   simp only [aAny] at h
   split at h
   · rename_i hr
     refine ⟨?_,hQ a w fr st Pr γ C h A⟩
     refine List.eq_nil_iff_forall_not_mem.2 fun i hi=>?_
     have:=(readyL_mem hs hl i).2 hi
     rw [hr] at this; simp at this
   · exact h.elim
 | succ n ih =>
   intro listed l hs hl fr st Pr γ C a w A h
   simp only [aAny] at h
   split at h
   · rename_i hr
     refine ⟨fun _=>hQ a w fr st Pr γ C h A,fun i hi=>?_⟩
     have:=(readyL_mem hs hl i).2 hi
     rw [hr] at this; simp at this
   · rename_i i0 is hr
     refine ⟨fun hn=>?_,fun i hi=>?_⟩
     · have:i0∈Region.ready .any ops listed:=(readyL_mem hs hl i0).1 (by rw [hr]; simp)
       rw [hn] at this; simp at this
     · have hm:=(readyL_mem hs hl i).2 hi
       rw [hr] at hm
       have h:=allL_mem h i hm
       obtain ⟨_,o,ho,_⟩:=mem_ready.1 hi
       have hin:i < ops.size:=(Array.getElem?_eq_some_iff.1 ho).1
       have hdst:dstOf ops i=o.dst:=by simp [dstOf,ho]
       have hl':∀ j,(listed.setIfInBounds i true).getD j false=(i::l).contains j:=by
        intro j
        by_cases e:i=j
        · subst e; simp [Array.getD,hs,hin]
        · rw [getD_set_ne false e,hl j]
          simp [Ne.symm e]
       have next:∀ {Pr' γ' C' cv w' v st'},aAny P ok τ ops K Z n (i::l) (put fr o.dst v) st'→X P ok E w0 mod γ0 Pr0 C0 nt ρ Pr' γ' C' fr st' a w'→Rep Pr' γ' w' v cv→wpAnyIn (fen ρ) 0 P .any ops Q n (listed.setIfInBounds i true) (a.put o.dst cv) w':=fun hk A' hr' =>
        ih (listed.setIfInBounds i true) (i::l) (by simpa using hs) hl' (A'.put o.dst (fun t ht=>hd i t (by rw [hdst]; exact ht)) hr') hk
       have run:aOp P ok τ o fr st (fun v st'=>force v fun v=>forceSt st' fun st'=>aAny P ok τ ops K Z n (i::l) (put fr o.dst v) st') (fun v st'=>Z v fr st')→o.wpIn (fen ρ) 0 P a w (wpAnyIn (fen ρ) 0 P .any ops Q n (listed.setIfInBounds i true)) Q:=fun h =>
        aOp_sound hτ A h (fun v cv st' Pr' γ' C' w' hk hr' A'=>by
         rw [force_eq,forceSt_eq] at hk
         exact next hk A' hr') (fun v cv st' Pr' γ' C' w' hz hr' A'=>hZ a w' fr st' Pr' γ' C' v cv hz A' hr')
       unfold wpOpIn
       rw [ho] at h
       simp only [ho]
       simp only at h
       cases hg:o.guard with
       | none =>
         rw [hg] at h
         rw [if_pos (by simp [Region.wanted,hg])]
         exact run h
       | some q =>
         obtain ⟨j,want⟩:=q
         rw [hg] at h
         simp only at h
         split at h
         · rename_i d hdj
           split at h
           · rename_i b hb
             have hsl:=A.fr.slot d
             rw [hb] at hsl
             have hyb:yielded ops a.tmps j=some b:=by
              generalize hv:a.tmps.getD d undef=u at hsl
              cases hsl
              unfold yielded
              rw [hdj]
              simp only [Option.bind_some]
              rw [Array.getD_eq_getD_getElem?] at hv
              cases hget:a.tmps[d]? with
              | none=>rw [hget] at hv; simp [undef] at hv
              | some v'=>rw [hget] at hv; simp at hv; subst hv; rfl
             cases b <;> cases want <;> simp only [BC,negB,if_true,if_false,Bool.false_eq_true] at h
             · rw [if_pos (by simp [Region.wanted,hg,hyb])]
               exact run h
             · rw [if_neg (by simp [Region.wanted,hg,hyb])]
               exact ⟨fun _ _=>trivial,next h A (.raw _)⟩
             · rw [if_neg (by simp [Region.wanted,hg,hyb])]
               exact ⟨fun _ _=>trivial,next h A (.raw _)⟩
             · rw [if_pos (by simp [Region.wanted,hg,hyb])]
               exact run h
           · exact h.elim
         · exact h.elim
theorem cmp_sound (A:X P ok E w0 mod γ0 Pr0 C0 nt ρ Pr γ C fr st a w) {sel:Option (List Nat)} {K:(Nat→V)→St→Prop} (h:cmp γ0.length sel fr st K) :
  ∃ fr' st' γ',K fr' st'∧X P ok E w0 mod γ0 Pr0 C0 nt ρ Pr γ' C fr' st' a w:=by
 cases sel with
 | none=>exact ⟨fr,st,γ,h,A⟩
 | some sel =>
   obtain ⟨h1,h2⟩:=Chk_iff.1 h
   obtain ⟨γ',A'⟩:=A.compact h1
   exact ⟨_,_,γ',h2,A'⟩
theorem awp_sound {τ:Tau} (hτ:TauGood P τ):∀ (c:Code),codeOk nt c=true→Sound P ok E τ nt c
 | .skip,_,w0,mod,γ0,Pr0,C0,ρ,Qa,Q,hQ,fr,st,Pr,γ,C,a,w,A,h=>wpIn_skip (hQ .normal .normal a w fr st Pr γ C h A .normal)
 | .region id ops d,hc,w0,mod,γ0,Pr0,C0,ρ,Qa,Q,hQ,fr,st,Pr,γ,C,a,w,A,h=>by
   cases d with
   | true =>
     have hd:∀ (i:Nat) t,dstOf ops i=some t→t < nt:=by
      intro i t ht
      unfold dstOf at ht
      obtain ⟨o,h1,h2⟩:=Option.bind_eq_some_iff.1 ht
      have:=List.all_eq_true.1 hc o (by simpa using Array.mem_of_getElem? h1)
      rw [h2] at this
      simpa using this
     have gf:∀ i,(Array.replicate ops.size false).getD i false=false:=fun i=>by simp [Array.getD,Array.getElem_replicate]
     simp only [awp_region] at h
     split at h
     · obtain ⟨CH,h⟩:=withMat_iff h
       obtain ⟨ho,h⟩:=Chk_iff.1 h
       have M:=mix2_spec ho
       have e0:(frS ops (fun _=>undefV) fr fun j=>decide (j < 0)&&!chainC CH ops.size j)=fr:=by
        funext t; exact frS_miss (fun j _ hj=>by simp at hj)
       rw [← e0] at h
       obtain ⟨vs,_,hy,hK⟩:=erun2 M ops.toList 0 (fun _=>undefV) (fun j=>by simp) (by simp) h
       rw [forcePlan_eq] at hK
       refine wpIn_region_any hτ.mixed (mix2_sound hτ M (mat_cert ops) hd (Zf:=fun v st'=>∀ fr',Qa (.pan v) fr' st') (fun a w fr st Pr γ C v cv hk hr A=>hQ (.pan v) _ a w fr st Pr γ C (hk fr) A (.pan hr)) (fun a w fr st Pr γ C hk A=>hQ .normal .normal a w fr st Pr γ C hk A .normal) ops.size (Array.replicate ops.size false) (l:=[]) (n:=planOf (matL ops.size ops.toList 0 0) CH ops) (by simp) ?_ (fun i o ho hi=>?_) (plan_len _ _ _ fun i=>gf i) (fun j _=>?_) (fun t _=>rfl) (fun i o ho hci _=>hy i o (Nat.zero_le _) ho hci) hK (Pr:=Pr) (γ:=γ) (C:=C) ?_)
       · exact Nat.le_trans (List.length_filter_le _ _) (by simp)
       · rw [gf] at hi; cases hi
       · rw [gf]; simp
       · have e1:maskF2 CH ops (fun j=>(Array.replicate ops.size false).getD j false) fr (frS ops vs fr fun j=>decide (j < ops.size)&&!chainC CH ops.size j)=fr:=by
          funext t
          by_cases hm:∃ j,j < ops.size∧chainC CH ops.size j=false∧(Array.replicate ops.size false).getD j false=false∧dstOf ops j=some t
          · rw [maskF2_in hm]
          · rw [maskF2_out hm,frS_miss]
            intro j hj hL hjt
            simp only [Bool.and_eq_true,Bool.not_eq_true'] at hL
            exact hm ⟨j,hj,hL.2,gf j,hjt⟩
         rw [e1]
         exact A.drew
     · split at h
       · rename_i ho
         have O:=orderOk_spec ho
         have e0:frS ops (fun _=>undefV) fr (fun j=>decide (j < 0))=fr:=by
          funext t; exact frS_miss (fun j _ hj=>by simp at hj)
         rw [← e0] at h
         obtain ⟨vs,_,hy,hK⟩:=qrun O.uniq O.quiet ops.toList 0 (fun _=>undefV) (fun j=>by simp) (by simp) h
         refine wpIn_region_any hτ.mixed (draw_sound hτ O hd (fun i o ho=>hy i o (Nat.zero_le _) ho) (fun a w Pr γ C A=>hQ .normal .normal a w _ st Pr γ C hK A .normal) ops.size (Array.replicate ops.size false) (by simp) ?_ (fun i o ho hi=>?_) (Pr:=Pr) (γ:=γ) (C:=C) ?_)
         · exact Nat.le_trans (List.length_filter_le _ _) (by simp)
         · rw [show (Array.replicate ops.size false).getD i false=false by simp [Array.getD,Array.getElem_replicate]] at hi; cases hi
         · have e1:(frS ops vs fr fun j=>(Array.replicate ops.size false).getD j false)=fr:=by
            funext t; exact frS_miss (fun j _ hj=>by
             rw [show (Array.replicate ops.size false).getD j false=false by simp [Array.getD,Array.getElem_replicate]] at hj; cases hj)
           rw [e1]
           exact A.drew
       · split at h
         · rename_i ho
           have M:=mixOk_spec ho
           have e0:(frS ops (fun _=>undefV) fr fun j=>decide (j < 0)&&!chainAt ops j)=fr:=by
            funext t; exact frS_miss (fun j _ hj=>by simp at hj)
           rw [← e0] at h
           obtain ⟨vs,_,hy,hK⟩:=erun M ops.toList 0 (fun _=>undefV) (fun j=>by simp) (by simp) h
           refine wpIn_region_any hτ.mixed (mix_sound hτ M hd (Zf:=fun v st'=>∀ fr',Qa (.pan v) fr' st') (fun a w fr st Pr γ C v cv hk hr A=>hQ (.pan v) _ a w fr st Pr γ C (hk fr) A (.pan hr)) (fun i o ho hci=>hy i o (Nat.zero_le _) ho hci) (fun a w fr st Pr γ C hk A=>hQ .normal .normal a w fr st Pr γ C hk A .normal) ops.size (Array.replicate ops.size false) (rest:=ops.toList) (k:=0) (by simp) ?_ (fun i o ho hi=>?_) (fun j=>by simp) (Nat.zero_le _) (fun j _=>?_) (fun t _=>rfl) (.inr (.refl _)) (.inr rfl) hK (Pr:=Pr) (γ:=γ) (C:=C) ?_)
           · exact Nat.le_trans (List.length_filter_le _ _) (by simp)
           · rw [gf] at hi; cases hi
           · rw [gf]; simp
           · have e1:maskF ops (fun j=>(Array.replicate ops.size false).getD j false) fr (frS ops vs fr fun j=>decide (j < ops.size)&&!chainAt ops j)=fr:=by
              funext t
              by_cases hm:∃ j,j < ops.size∧chainAt ops j=false∧(Array.replicate ops.size false).getD j false=false∧dstOf ops j=some t
              · rw [maskF_in hm]
              · rw [maskF_out hm,frS_miss]
                intro j hj hL hjt
                simp only [Bool.and_eq_true,Bool.not_eq_true'] at hL
                exact hm ⟨j,hj,hL.2,gf j,hjt⟩
             rw [e1]
             exact A.drew
         · obtain ⟨CH,h⟩:=withMat_iff h
           split at h
           · rename_i ho
             have M:=mix2_spec ho
             have e0:(frS ops (fun _=>undefV) fr fun j=>decide (j < 0)&&!chainC CH ops.size j)=fr:=by
              funext t; exact frS_miss (fun j _ hj=>by simp at hj)
             rw [← e0] at h
             obtain ⟨vs,_,hy,hK⟩:=erun2 M ops.toList 0 (fun _=>undefV) (fun j=>by simp) (by simp) h
             rw [forcePlan_eq] at hK
             refine wpIn_region_any hτ.mixed (mix2_sound hτ M (mat_cert ops) hd (Zf:=fun v st'=>∀ fr',Qa (.pan v) fr' st') (fun a w fr st Pr γ C v cv hk hr A=>hQ (.pan v) _ a w fr st Pr γ C (hk fr) A (.pan hr)) (fun a w fr st Pr γ C hk A=>hQ .normal .normal a w fr st Pr γ C hk A .normal) ops.size (Array.replicate ops.size false) (l:=[]) (n:=planOf (matL ops.size ops.toList 0 0) CH ops) (by simp) ?_ (fun i o ho hi=>?_) (plan_len _ _ _ fun i=>gf i) (fun j _=>?_) (fun t _=>rfl) (fun i o ho hci _=>hy i o (Nat.zero_le _) ho hci) hK (Pr:=Pr) (γ:=γ) (C:=C) ?_)
             · exact Nat.le_trans (List.length_filter_le _ _) (by simp)
             · rw [gf] at hi; cases hi
             · rw [gf]; simp
             · have e1:maskF2 CH ops (fun j=>(Array.replicate ops.size false).getD j false) fr (frS ops vs fr fun j=>decide (j < ops.size)&&!chainC CH ops.size j)=fr:=by
                funext t
                by_cases hm:∃ j,j < ops.size∧chainC CH ops.size j=false∧(Array.replicate ops.size false).getD j false=false∧dstOf ops j=some t
                · rw [maskF2_in hm]
                · rw [maskF2_out hm,frS_miss]
                  intro j hj hL hjt
                  simp only [Bool.and_eq_true,Bool.not_eq_true'] at hL
                  exact hm ⟨j,hj,hL.2,gf j,hjt⟩
               rw [e1]
               exact A.drew
           · refine wpIn_region_any hτ.mixed (any_sound hτ hd (fun a w fr st Pr γ C hk A=>hQ .normal .normal a w fr st Pr γ C hk A .normal) (fun a w fr st Pr γ C v cv hk A hr=>hQ (.pan v) _ a w fr st Pr γ C hk A (.pan hr)) ops.size (Array.replicate ops.size false) [] (by simp) (fun i=>by rw [gf]; rfl) A.drew h)
   | false =>
     refine wpIn_region (aOps_sound hτ (fun a w fr st Pr γ C hk A=>hQ .normal .normal a w fr st Pr γ C hk A .normal) (fun a w fr st Pr γ C v cv hk A hr=>hQ (.pan v) _ a w fr st Pr γ C hk A (.pan hr)) ops.toList (List.range ops.size) ?_ hc A h)
     apply List.ext_getElem?
     intro i
     simp only [List.getElem?_map]
     by_cases hi:i < ops.size
     · simp [hi]
     · simp [hi]
 | .seq x y,hc,w0,mod,γ0,Pr0,C0,ρ,Qa,Q,hQ,fr,st,Pr,γ,C,a,w,A,h=>by
   simp only [codeOk,Bool.and_eq_true] at hc
   refine wpIn_seq (awp_sound hτ x hc.1 w0 mod γ0 Pr0 C0 ρ (AThen (awp P ok τ γ0.length y Qa) Qa) _ (fun e x' a w fr st Pr γ C hq A hx=>?_) _ _ _ _ _ _ _ A h)
   cases hx with
   | normal=>exact awp_sound hτ y hc.2 w0 mod γ0 Pr0 C0 ρ Qa _ hQ _ _ _ _ _ _ _ A hq
   | exit id=>exact hQ (.exit id) _ a w fr st Pr γ C hq A (.exit id)
   | ret=>exact hQ .ret _ a w fr st Pr γ C hq A .ret
   | pan hv=>exact hQ (.pan _) _ a w fr st Pr γ C hq A (.pan hv)
 | .cond c x y,hc,w0,mod,γ0,Pr0,C0,ρ,Qa,Q,hQ,fr,st,Pr,γ,C,a,w,A,h=>by
   simp only [codeOk,Bool.and_eq_true] at hc
   have hs:=A.fr.ev c
   simp only [awp_cond] at h
   generalize hv:ev fr c=v at hs h
   generalize hu:a.eval c=u at hs
   unfold ACond at h
   split at h
   · rename_i b
     cases hs
     cases b
     · exact wpIn_cond_false hu (awp_sound hτ y hc.2 w0 mod γ0 Pr0 C0 ρ Qa _ hQ _ _ _ _ _ _ _ A h)
     · exact wpIn_cond_true hu (awp_sound hτ x hc.1 w0 mod γ0 Pr0 C0 ρ Qa _ hQ _ _ _ _ _ _ _ A h)
   · exact h.elim
 | .block id c,hc,w0,mod,γ0,Pr0,C0,ρ,Qa,Q,hQ,fr,st,Pr,γ,C,a,w,A,h=>by
   refine wpIn_block (awp_sound hτ c hc w0 mod γ0 Pr0 C0 ρ (ABlock id Qa) _ (fun e x a w fr st Pr γ C hq A hx=>?_) _ _ _ _ _ _ _ A h)
   cases hx with
   | normal=>exact hQ .normal .normal a w fr st Pr γ C hq A .normal
   | exit j =>
     simp only [ABlock] at hq
     simp only [Exit.inBlock]
     split
     · rename_i e; rw [if_pos e] at hq; exact hQ .normal .normal a w fr st Pr γ C hq A .normal
     · rename_i e; rw [if_neg e] at hq; exact hQ (.exit j) (.exit j) a w fr st Pr γ C hq A (.exit j)
   | ret=>exact hQ .ret .ret a w fr st Pr γ C hq A .ret
   | pan hv=>exact hQ (.pan _) _ a w fr st Pr γ C hq A (.pan hv)
 | .loop c,hc,w0,mod,γ0,Pr0,C0,ρ,Qa,Q,hQ,fr,st,Pr,γ,C,a,w,A,h=>by
   obtain ⟨J,n,flag,s0,hI,hr⟩:=h
   obtain ⟨fr1,st1,γ1,hI1,A1⟩:=cmp_sound A hI
   refine wp_loop_var (fun n a w=>∃ fr st Pr γ C,J n fr st∧X P ok E w0 mod γ0 Pr0 C0 nt ρ Pr γ C fr st a w) (fun n a w hJ=>?_) ⟨fr1,st1,Pr,γ1,C,hI1,A1⟩
   obtain ⟨fr,st,Pr,γ,C,hI,A⟩:=hJ
   refine awp_sound hτ c hc w0 mod γ0 Pr0 C0 ρ (AThen (ALoop γ0.length flag J n) Qa) _ (fun e x a w fr st Pr γ C hq A hx=>?_) _ _ _ _ _ _ _ A (hr n fr st hI)
   cases hx with
   | normal =>
     cases flag with
     | false =>
       obtain ⟨n',hlt,hJ'⟩:=hq
       exact ⟨n',hlt,fr,st,Pr,γ,C,hJ',A⟩
     | true =>
       obtain ⟨n',hlt,sel,hJ'⟩:=hq
       obtain ⟨fr2,st2,γ2,hI2,A2⟩:=cmp_sound A hJ'
       exact ⟨n',hlt,fr2,st2,Pr,γ2,C,hI2,A2⟩
   | exit id=>exact hQ (.exit id) _ a w fr st Pr γ C hq A (.exit id)
   | ret=>exact hQ .ret _ a w fr st Pr γ C hq A .ret
   | pan hv=>exact hQ (.pan _) _ a w fr st Pr γ C hq A (.pan hv)
 | .rangeFunc f ps x y,hc,w0,mod,γ0,Pr0,C0,ρ,Qa,Q,hQ,fr,st,Pr,γ,C,a,w,A,h=>by
   simp only [codeOk,Bool.and_eq_true,List.all_eq_true,decide_eq_true_eq] at hc
   simp only [awp_rangeFunc] at h
   split at h
   · rename_i g cap hf
     exact range_sound (awp_sound hτ x hc.1.1) (awp_sound hτ y hc.1.2) hc.2 A hf h hQ
   · exact h.elim
 | .exit id,_,w0,mod,γ0,Pr0,C0,ρ,Qa,Q,hQ,fr,st,Pr,γ,C,a,w,A,h=>wpIn_exit (hQ (.exit id) (.exit id) a w fr st Pr γ C h A (.exit id))
 | .ret,_,w0,mod,γ0,Pr0,C0,ρ,Qa,Q,hQ,fr,st,Pr,γ,C,a,w,A,h=>wpIn_ret (hQ .ret .ret a w fr st Pr γ C h A .ret)
 | .scope _,_,_,_,_,_,_,_,_,_,_,_,_,_,_,_,_,_,_,h=>h.elim
 | .label _,_,_,_,_,_,_,_,_,_,_,_,_,_,_,_,_,_,_,h=>h.elim
 | .goto _,_,_,_,_,_,_,_,_,_,_,_,_,_,_,_,_,_,_,h=>h.elim
 | .refuse _,_,_,_,_,_,_,_,_,_,_,_,_,_,_,_,_,_,_,h=>h.elim
end Go.Cod
namespace Go.Cod
open Go
variable [Lam]
def aResults (τ:Tau) (fr:Nat→V) (st:St):List ResultVar→(List V→Prop)→Prop
 | [],K=>K []
 | .tmp t::rest,K=>aResults τ fr st rest fun vs=>K (fr t::vs)
 | .cell a t::rest,K=>aLoad τ t (fr a) st fun v=>aResults τ fr st rest fun vs=>K (v::vs)
def oneOr:List V→V
 | [v]=>v
 | vs=>.tup vs
def AEnd (τ:Tau) (rs:List ResultVar) (R:V→Prop):Ex→(Nat→V)→St→Prop
 | .normal=>fun fr st=>aResults τ fr st rs fun vs=>force (share st (oneOr vs)) fun r=>Chk (V.clean 0 r) (R r)
 | .ret=>fun fr st=>aResults τ fr st rs fun vs=>force (share st (oneOr vs)) fun r=>Chk (V.clean 0 r) (R r)
 | _=>fun _ _=>False
def AOut (n:Nat) (R:V→St→Prop) (v:V) (st:St):Prop:=∃ (extra:List Nat) (kn:Bool),
 Chk (selOk n (List.range n++extra) st) (force (renV (List.range n++extra) (shr (List.range n++extra) kn st v)) fun r =>
  forceSt (cmpSt (List.range n++extra) (lend st ((owns v).filter fun k=>!(List.range n++extra).contains k))) fun st'=>R r st')
def AEndF (τ:Tau) (rs:List ResultVar) (n:Nat) (R:Out→St→Prop):Ex→(Nat→V)→St→Prop
 | .normal=>fun fr st=>aResults τ fr st rs fun vs=>AOut n (fun r st'=>R (.ret r) st') (oneOr vs) st
 | .ret=>fun fr st=>aResults τ fr st rs fun vs=>AOut n (fun r st'=>R (.ret r) st') (oneOr vs) st
 | .pan v=>fun _ st=>AOut n (fun r st'=>R (.pan r) st') v st
 | .exit _=>fun _ _=>False
def initFr (args:List V):Nat→V:=fun t=>args.getD t undefV
def rvRun (tmps:Array Value):ResultVar→Sem Value
 | .tmp t=>pure (tmps.getD t undef)
 | .cell x t=>do loadVar t (← asAddr (tmps.getD x undef))
def oneOrC:List Value→Value
 | [v]=>v
 | vs=>.tuple vs.toArray
variable {P:Program} {ok:OkY} {E:Env P ok} {w0:World} {mod:Nat→Prop} {γ0 γs:List G} {Pr0:Nat→Nat→Prop} {C0:Nat→Prop} {nt:Nat} {ρ:Option Nat}
 {Pr Pr':Nat→Nat→Prop} {γ γ' γc:List G} {C C':Nat→Prop} {fr fr':Nat→V} {st st':St} {a a':Act} {w w':World}
theorem aLoad_mono {τ t p st} {K K':V→Prop} (hk:∀ v,K v→K' v) (h:aLoad τ t p st K):aLoad τ t p st K':=by
 obtain ⟨v,h1,h2⟩:=aLoad_det h
 exact h2 K' (hk v h1)
theorem aResults_mono {τ:Tau}:∀ (rs:List ResultVar) {K K':List V→Prop},(∀ v,K v→K' v)→aResults τ fr st rs K→aResults τ fr st rs K'
 | [],_,_,hk,h=>hk _ h
 | .tmp _::rs,_,_,hk,h=>aResults_mono rs (fun _=>hk _) h
 | .cell _ _::rs,_,_,hk,h=>aLoad_mono (fun _ hv=>aResults_mono rs (fun _=>hk _) hv) h
theorem aResults_run {τ:Tau} (hτ:TauOk P τ) (F:FrOk Pr γ w fr a nt) (S:StOk Pr γ w st) (hpl:∀ (k:Nat) e,e∈poolEs st k→EntOk Pr w e) :
  ∀ (rs:List ResultVar) {K:List V→Prop},aResults τ fr st rs K→∃ vs cvs,K vs∧RepL Pr γ w vs cvs ∧
    (rs.mapM (rvRun a.tmps):Sem (List Value)).run P w=.ok cvs w
 | [],K,h=>⟨[],[],h,RepL.nil,rfl⟩
 | .tmp t::rs,K,h=>by
   obtain ⟨vs,cvs,h1,h2,h3⟩:=aResults_run hτ F S hpl rs h
   refine ⟨_,a.tmps.getD t undef::cvs,h1,RepL.cons (F.slot t) h2,?_⟩
   rw [List.mapM_cons,Sem.run_bind,show (rvRun a.tmps (.tmp t)).run P w=.ok (a.tmps.getD t undef) w from rfl,Result.andThen_ok,Sem.run_bind,h3]
   rfl
 | .cell x t::rs,K,h=>by
   simp only [aResults] at h
   obtain ⟨v,cv,h1,h2,h3⟩:=aLoad_sound hτ S hpl h (F.slot x)
   obtain ⟨vs,cvs,k1,k2,k3⟩:=aResults_run hτ F S hpl rs h1
   refine ⟨_,cv::cvs,k1,RepL.cons h2 k2,?_⟩
   have hrun:(rvRun a.tmps (.cell x t)).run P w=.ok cv w:=by
    unfold rvRun
    have hs:=F.slot x
    simp only
    generalize a.tmps.getD x undef=u at hs h3 ⊢
    rw [← h3]
    cases u with
    | pointer q =>
      cases q with
      | some q=>simp [asAddr,Instr.loadAt,Instr.sureAddr]
      | none=>simp [Instr.loadAt,Instr.sureAddr] at h3
    | _=>simp [Instr.loadAt,Instr.sureAddr] at h3
   rw [List.mapM_cons,Sem.run_bind,hrun,Result.andThen_ok,Sem.run_bind,k3]
   rfl
omit [Lam] in
theorem run_results {fn:Func} {cvs:List Value}
  (h:(fn.results.toList.mapM (rvRun a.tmps):Sem (List Value)).run P w=.ok cvs w) :
  (results fn a.tmps).run P w=.ok (oneOrC cvs) w:=by
 have hres:results fn a.tmps=(do let vs ← fn.results.mapM (rvRun a.tmps); pure (if h:vs.size=1 then vs[0] else .tuple vs)):=by
  unfold results
  congr 1
 rw [hres,Sem.run_bind]
 have:(fn.results.mapM (rvRun a.tmps):Sem (Array Value)).run P w=.ok cvs.toArray w:=by
  rw [← Array.toArray_toList (xs:=fn.results),List.mapM_toArray,Sem.run_map,h]
  rfl
 rw [this,Result.andThen_ok]
 match cvs with
 | []=>rfl
 | [v]=>rfl
 | v::u::vs=>simp [oneOrC]
theorem X.unmark (H:X P ok E w0 mod γ0 Pr0 C0 nt none Pr γ C fr st a w) {r:Nat} {rs:List Nat} (hd:a.defers=(r::rs).map mark) :
  (Instr.takeDeferred r).run P w=.ok [] (w.putObj r (.deferred none))∧Keep Pr Pr γ γ w (w.putObj r (.deferred none))∧X P ok E w0 mod γ0 Pr0 C0 nt none Pr γ C fr st { a with defers:=rs.map mark } (w.putObj r (.deferred none)):=by
 obtain ⟨rs',m1,m2,m3⟩:=H.ext.marks
 have e:rs'=r::rs:=List.map_inj_right (by intro x y h; simpa [mark] using h) |>.1 (m1.symm.trans hd)
 subst e
 rw [List.nodup_cons] at m2
 obtain ⟨q1,q2,q3⟩:=m3 r (by simp)
 have hlt:=(Array.getElem?_eq_some_iff.1 q1).1
 have hold:∀ b,b≠r→(w.putObj r (.deferred none)).heap[b]? = w.heap[b]? := fun b hb=>World.putObj_heap_other hb
 have hnew:(w.putObj r (.deferred none)).heap[r]? = some (.deferred none):=World.putObj_heap_same hlt
 have D:=H.ext
 have H':X P ok E w0 mod γ0 Pr0 C0 nt none Pr γ C fr st { a with defers:=rs.map mark } w :=
  ⟨H.mine,⟨D.clow,D.apart,D.prC,D.maps,D.mone,D.mmine,D.yld,D.yone,⟨rs,rfl,m2.2,fun x hx=>m3 x (by simp [hx])⟩,fun l h=>(by cases h),D.pools⟩,⟨H.fr.size,H.fr.slot⟩,H.st,H.base⟩
 have hcell:∀ b n,(w.putObj r (.deferred none)).cell? ⟨b,n,none⟩=w.cell? ⟨b,n,none⟩:=by
  intro b n
  by_cases e:b=r
  · rw [e]; simp only [World.cell?,hnew,q1]
  · exact cell_of_block (hold b e) n
 refine ⟨run_takeDeferred q1,⟨fun _ _ h=>h,fun b n _=>hcell b n,fun _ _ h=>h⟩,H'.still rfl rfl rfl (by simp) (fun b n _=>hcell b n) (fun k b ho=>hold _ fun e=>?_) (fun b hb=>hold b fun e=>q2 (e ▸ hb)) (fun x hx=>hold x fun e=>?_) (fun l h=>by cases h) (fun b h1 h2 h3=>hold b fun e=>by omega)⟩
 · subst e
   rcases H.owns_obj ho with ⟨cur,ty,f,h⟩ | ⟨es,c,h⟩ <;> exact absurd (q1.symm.trans h) (by simp)
 · obtain ⟨x',hx',he⟩:=List.mem_map.1 hx
   have:x'=x:=by simpa [mark] using he
   subst this
   exact m2.1 (e ▸ hx')
theorem leaves_marks {fn:Func} {R:Ending→World→Prop} {u:FrameMode} (hu:u≠.run):∀ (rs:List Nat) {a:Act} {w:World},X P ok E w0 mod γ0 Pr0 C0 nt none Pr γ C fr st a w→a.defers=rs.map mark →
  (∀ w',Keep Pr Pr γ γ w w'→X P ok E w0 mod γ0 Pr0 C0 nt none Pr γ C fr st { a with defers:=[] } w'→LeavesIn Fence.wide 0 P fn a.tmps R [] u w')→LeavesInM Fence.wide 0 P fn a.tmps R (rs.map mark) u w
 | [],a,w,H,hd,hfin=>hfin w (Keep.refl _ _ _) (by rw [← show a.defers=[] from hd]; exact H)
 | r::rs,a,w,H,hd,hfin=>by
   obtain ⟨h1,K,h2⟩:=H.unmark hd
   exact ⟨hu,.inl ⟨r,_,rfl,h1,leaves_marks hu rs (a:={ a with defers:=rs.map mark }) h2 rfl fun w' K'=>hfin w' (K.trans K')⟩⟩
theorem AOut_sound {n:Nat} {R:V→St→Prop} {v:V} {cv:Value} (H:X P ok E w0 mod γ0 Pr0 C0 nt ρ Pr γ C fr st a w) (hn:γ0.length=n) (h:AOut n R v st) (hv:Rep Pr γ w v cv) :
  ∃ r st' Pr' γ' fr',R r st'∧Rep Pr' γ' w r cv∧X P ok E w0 mod γ0 Pr0 C0 nt ρ Pr' γ' C fr' st' a w:=by
 subst hn
 obtain ⟨extra,kn,h⟩:=h
 obtain ⟨hs,h⟩:=Chk_iff.1 h
 rw [force_eq,forceSt_eq] at h
 obtain ⟨Pr1,K1,H1,R1⟩:=H.lend ((owns v).filter fun k=>!(List.range γ0.length++extra).contains k)
 have hv1:=shr_rep (σ:=List.range γ0.length++extra) (kn:=kn) (st:=st) K1 v cv (fun k hk hc=>R1 k (List.mem_filter.2 ⟨hk,by rw [hc]; rfl⟩)) hv
 have hs':selOk γ0.length (List.range γ0.length++extra) (lend st ((owns v).filter fun k=>!(List.range γ0.length++extra).contains k))=true:=by
  unfold selOk at hs ⊢
  rw [lend_len]; exact hs
 obtain ⟨γ',hr,H2⟩:=H1.compact' hs'
 exact ⟨_,_,Pr1,γ',_,h,hr _ _ hv1,H2⟩
theorem full_of_awp' {τ:Tau} (hτ:TauGood P τ) {f:FuncId} {fn:Func} {c:Code} {args:List V} {st0:St} {R:Out→St→Prop} {Qa:Ex→(Nat→V)→St→Prop}
  (hf : P.funcs[f]? = some fn) (hb : fn.body = some c) (hname : (fn.name == "runtime.NumGoroutine") = false) (hc : codeOk fn.ntmps c = true)
  (hsub:∀ e fr st,Qa e fr st→AEndF τ fn.results.toList st0.length R e fr st)
  (h:awp P ok τ st0.length c Qa (initFr args) st0):Full P ok f args st0 R:=by
 refine ⟨⟨fn,hf,hname,by rw [hb]; rfl⟩,fun E C Pr γ w cargs hr hst hext=>?_⟩
 have hγ:γ.length=st0.length:=hst.len
 have A0:X P ok E w (modOf st0 γ) γ Pr C fn.ntmps none Pr γ C (initFr args) st0 { tmps:=cargs.toArray++Array.replicate (fn.ntmps - cargs.toArray.size) undef,defers:=[] } w:=by
  refine ⟨fun k o g h1 h2 h3=>.inr ⟨k,own_owns h1 h2 (own_iff.2 (.inl h3))⟩,hext,⟨by simp; omega,fun t=>?_⟩,hst,⟨rfl,rfl,rfl,Nat.le_refl _,fun _ _ _ _=>rfl,fun _ _ h=>h,fun _ _ h=>.inl h,fun _ _ h=>h,fun _ _ _=>rfl,fun _ h=>h,fun _ h=>.inl h⟩⟩
  by_cases ht:t < args.length
  · have ht':t < cargs.length:=by rw [← hr.1]; exact ht
    have e1:initFr args t=args[t]:=by simp [initFr,List.getD,ht]
    have e2:(cargs.toArray++Array.replicate (fn.ntmps - cargs.toArray.size) undef).getD t undef=cargs[t]:=by
     rw [Array.getD_eq_getD_getElem?,Array.getElem?_append_left (by simpa using ht')]
     simp [ht']
    rw [e1,e2]
    exact hr.2 t _ _ (by simp [ht]) (by simp [ht'])
  · have ht':¬ t < cargs.length:=by rw [← hr.1]; exact ht
    have e1:initFr args t=.raw undef:=by simp [initFr,List.getD,ht,undefV]
    have e2:(cargs.toArray++Array.replicate (fn.ntmps - cargs.toArray.size) undef).getD t undef=undef:=by
     rw [Array.getD_eq_getD_getElem?,Array.getElem?_append_right (by simpa using ht'),Array.getElem?_replicate]
     split <;> rfl
    rw [e1,e2]; exact .raw _
 refine (callsIn_wide (n:=0)).1 (callsIn_of_wp_marks hf hb trivial (awp_sound hτ c hc w (modOf st0 γ) γ Pr C none Qa _ (fun e x a w' fr st Pr1 γ1 C1 hq A hx=>?_) _ _ _ _ _ _ _ A0 (by rw [hγ]; exact h)))
 have hq:=hsub _ _ _ hq
 have fin:∀ {o:Out} {e:Ending} {st':St} {Pr':Nat→Nat→Prop} {γ':List G} {fr':Nat→V} {a':Act} {w'':World},RepO Pr' γ' w'' o e→R o st'→a'.defers=[]→X P ok E w (modOf st0 γ) γ Pr C fn.ntmps none Pr' γ' C1 fr' st' a' w'' →
   ∃ o st' γ' Pr' C',RepO Pr' γ' w'' o e∧R o st'∧StOk Pr' γ' w'' st'∧Mine w (modOf st0 γ) γ' st'∧Ext P ok E w (modOf st0 γ) C' none Pr' γ' st' [] w''∧Base2 w (modOf st0 γ) γ Pr C Pr' γ' C' w'' :=
  fun h1 h2 h3 HX=>⟨_,_,_,_,_,h1,h2,HX.st,HX.mine,by have:=HX.ext; rw [h3] at this; exact this,HX.base⟩
 have done:aResults τ fr st fn.results.toList (fun vs=>AOut st0.length (fun r st'=>R (.ret r) st') (oneOr vs) st)→LeavesInM Fence.wide 0 P fn a.tmps (fun e w'=>∃ o st' γ' Pr' C',RepO Pr' γ' w' o e∧R o st'∧StOk Pr' γ' w' st'∧Mine w (modOf st0 γ) γ' st'∧Ext P ok E w (modOf st0 γ) C' none Pr' γ' st' [] w'∧Base2 w (modOf st0 γ) γ Pr C Pr' γ' C' w') a.defers .returning w':=by
  intro hret
  obtain ⟨rs,m1,_⟩:=A.ext.marks
  rw [m1]
  refine leaves_marks (by simp) rs A m1 fun w'' K A'=>?_
  obtain ⟨vs,cvs,hK,hrep,hrun⟩:=aResults_run hτ.ok A'.fr A'.st A'.poolEnt _ hret
  have hone:Rep Pr1 γ1 w'' (oneOr vs) (oneOrC cvs):=by
   match vs,cvs,hrep with
   | [],[],_=>exact .tup rfl (by simp)
   | [v],[cv],hrep=>exact hrep.2 0 v cv rfl rfl
   | v::u::vs,cv::cu::cvs,hrep=>exact .tup hrep.1 hrep.2
   | [],_::_,hrep=>simp [RepL] at hrep
   | _::_,[],hrep=>simp [RepL] at hrep
   | [_],_::_::_,hrep=>simp [RepL] at hrep
   | _::_::_,[_],hrep=>simp [RepL] at hrep
  obtain ⟨r,st',Pr',γ',fr',h1,h2,h3⟩:=AOut_sound A' hγ hK hone
  exact ⟨_,run_results hrun,fin (.ret h2) h1 rfl h3⟩
 cases hx with
 | normal=>exact done hq
 | ret=>exact done hq
 | exit id=>exact hq.elim
 | pan hv =>
   obtain ⟨rs,m1,_⟩:=A.ext.marks
   show LeavesInM Fence.wide 0 P fn a.tmps _ a.defers (.panicking _) w'
   rw [m1]
   refine leaves_marks (by simp) rs A m1 fun w'' K A'=>?_
   obtain ⟨r,st',Pr',γ',fr',h1,h2,h3⟩:=AOut_sound A' hγ hq (hv.keep K)
   exact fin (.pan h2) h1 rfl h3
theorem full_of_awp {τ:Tau} (hτ:TauGood P τ) {f:FuncId} {fn:Func} {c:Code} {args:List V} {st0:St} {R:Out→St→Prop}
  (hf : P.funcs[f]? = some fn) (hb : fn.body = some c) (hname : (fn.name == "runtime.NumGoroutine") = false) (hc : codeOk fn.ntmps c = true)
  (h:awp P ok τ st0.length c (AEndF τ fn.results.toList st0.length R) (initFr args) st0):Full P ok f args st0 R :=
 full_of_awp' hτ hf hb hname hc (fun _ _ _ h=>h) h
omit [Lam] in
mutual
theorem shr_nil (st:St):∀ x:V,shr [] false st x=share st x
 | .own k=>rfl
 | .nils=>rfl
 | .agg cs=>by simp only [shr,share]; rw [shrL_nil st cs]
 | .tup cs=>by simp only [shr,share]; rw [shrL_nil st cs]
 | .fn f cs=>by simp only [shr,share]; rw [shrL_nil st cs]
 | .iface t y=>by simp only [shr,share]; rw [shr_nil st y]
 | .meth n y=>by simp only [shr,share]; rw [shr_nil st y]
 | .bnd n y=>by simp only [shr,share]; rw [shr_nil st y]
 | .bool _ | .int _ _ | .str _ | .sl _ | .ptr _ _ _ | .win _ _ _ _ | .cptr _ _ | .rptr _ | .raw _ | .any | .map _ | .yld _ | .dref _ _ _ | .dptr _ _ _ _=>rfl
theorem shrL_nil (st:St):∀ cs:List V,shr.go [] false st cs=share.go st cs
 | []=>rfl
 | y::ys=>by simp only [shr.go,share.go]; rw [shr_nil st y,shrL_nil st ys]
end
omit [Lam] in
mutual
theorem renV_clean (sel:List Nat):∀ x:V,x.clean 0=true→renV sel x=x
 | .own _,h=>by simp [V.clean] at h
 | .ptr _ _ _,h | .win _ _ _ _,h | .cptr _ _,h | .map _,h | .yld _,h=>by simp [V.clean] at h
 | .agg cs,h | .tup cs,h | .rptr cs,h | .fn _ cs,h=>by simp only [V.clean] at h; simp only [renV]; rw [renL_clean sel cs h]
 | .iface _ x,h=>by simp only [V.clean] at h; simp only [renV]; rw [renV_clean sel x h]
 | .meth _ x,h=>by simp only [V.clean] at h; simp only [renV]; rw [renV_clean sel x h]
 | .bnd _ x,h=>by simp only [V.clean] at h; simp only [renV]; rw [renV_clean sel x h]
 | .bool _,_ | .int _ _,_ | .str _,_ | .nils,_ | .sl _,_ | .raw _,_ | .any,_ | .dref _ _ _,_ | .dptr _ _ _ _,_=>rfl
theorem renL_clean (sel:List Nat):∀ cs:List V,V.clean.cleanL 0 cs=true→renV.go sel cs=cs
 | [],_=>rfl
 | x::xs,h=>by
   simp only [V.clean.cleanL,Bool.and_eq_true] at h
   simp only [renV.go]; rw [renV_clean sel x h.1,renL_clean sel xs h.2]
end
theorem pure_of_awp {τ:Tau} (hτ:TauGood P τ) {f:FuncId} {fn:Func} {c:Code} {args:List V} {R:V→Prop}
  (hf : P.funcs[f]? = some fn) (hb : fn.body = some c) (hname : (fn.name == "runtime.NumGoroutine") = false) (hc : codeOk fn.ntmps c = true)
  (h:awp P noY τ 0 c (AEnd τ fn.results.toList R) (initFr args) []):Pure P f args R:=by
 have key:∀ (fr:Nat→V) (st:St),aResults τ fr st fn.results.toList (fun vs=>force (share st (oneOr vs)) fun r=>Chk (V.clean 0 r) (R r)) →
   aResults τ fr st fn.results.toList (fun vs=>AOut 0 (fun r st'=>(fun (o:Out) (st':St)=>st'=[]∧∃ r,o=.ret r∧R r) (.ret r) st') (oneOr vs) st):=by
  intro fr st h
  refine aResults_mono _ (fun vs hv=>?_) h
  rw [force_eq] at hv
  obtain ⟨h1,h2⟩:=Chk_iff.1 hv
  refine ⟨[],false,Chk_iff.2 ⟨by simp [selOk],?_⟩⟩
  rw [force_eq,forceSt_eq]
  simp only [List.range_zero,List.append_nil]
  rw [shr_nil,renV_clean _ _ h1]
  exact ⟨rfl,_,rfl,h2⟩
 refine full_of_awp' (st0:=[]) hτ hf hb hname hc (fun e fr st hq=>?_) h
 cases e with
 | normal=>exact key fr st hq
 | ret=>exact key fr st hq
 | exit id=>exact hq.elim
 | pan v=>exact hq.elim
end Go.Cod
namespace Go.Cod
open Go
variable [Lam]
def notAgg:TypeDesc→Bool
 | .struct _ | .array _ _=>false
 | _=>true
def fieldsOk (P:Program):List Field→List (Nat × Nat × Bool)→Bool
 | [],[]=>true
 | f::fs,(off,size,b)::qs=>(match P.info? f.type,P.underlying f.type with
   | some fi,some d=>decide (f.offset=off)&&decide (fi.size=size)&&(b == !notAgg d)
   | _,_=>false)&&fieldsOk P fs qs
 | _,_=>false
def isPtr:TypeDesc→Bool
 | .pointer _=>true
 | _=>false
def methOk (P:Program) (t:TypeId) (name:String) (f:FuncId):Bool:=match P.info? t,P.underlying t with
 | some i,some d=>(match i.methods.find? (·.name == name) with
   | some m=>m.path.isEmpty&&(match m.func with
     | some (f',pr)=>decide (f'=f)&&(pr == isPtr d)
     | none=>false)
   | none=>false)
 | _,_=>false
def tiOk (P:Program) (t:TypeId) (ti:TI):Bool :=
 (match P.info? t with
   | some i=>decide (i.size=ti.size)&&decide (i.bytes=ti.bytes)&&(match i.zero with | some z=>zrep ti.zero z | none=>false)
   | none=>false) &&
 (match P.underlying t with
   | some d=>(match ti.kind with
     | .bool=>(match d with | .bool=>true | _=>false)
     | .int k=>(match d with | .int j=>decide (j=k) | _=>false)
     | .str=>(match d with | .string=>true | _=>false)
     | .slice e=>(match d with | .slice e'=>decide (e'=e) | _=>false)
     | .agg=>!notAgg d
     | .map k e=>(match d with | .map k' e'=>decide (k'=k)&&decide (e'=e) | _=>false)
     | .iface=>(match d with | .interface _=>true | _=>false)
     | .ptr=>(match d with | .pointer _=>true | _=>false)
     | .other=>notAgg d&&(match d with | .interface _=>false | _=>true))&&(ti.meths.all fun q=>methOk P t q.1 q.2) &&
     (match ti.arr with | some n=>(match d with | .array n' e=>decide (n'=n)&&(match P.info? e,P.underlying e with | some i,some (.int _)=>decide (i.size=1) | _,_=>false) | _=>false) | none=>true) &&
     (!ti.pair||(match d with | .array n e=>decide (n=2)&&(match P.info? e,P.underlying e with | some i,some (.int .i64)=>decide (i.size=1) | _,_=>false) | _=>false)) &&
     (ti.fields.isEmpty||(match d with | .struct fs=>fieldsOk P fs.toList ti.fields | _=>false))
   | none=>false)
omit [Lam] in
theorem fieldsOk_spec {P:Program}:∀ {fs:List Field} {qs:List (Nat × Nat × Bool)},fieldsOk P fs qs=true→fs.length=qs.length ∧
  ∀ (i:Nat) f,fs[i]? = some f→∃ fi:TypeInfo,∃ b:Bool,P.info? f.type=some fi∧qs[i]? = some (f.offset,fi.size,b)∧∃ d,P.underlying f.type=some d∧(match d with | .struct _ | .array _ _=>b=true | _=>b=false)
 | [],[],_=>⟨rfl,fun i f h=>by simp at h⟩
 | [],_::_,h=>by simp [fieldsOk] at h
 | _::_,[],h=>by simp [fieldsOk] at h
 | f::fs,(off,size,b)::qs,h=>by
   simp only [fieldsOk,Bool.and_eq_true] at h
   obtain ⟨h1,h2⟩:=h
   obtain ⟨k1,k2⟩:=fieldsOk_spec h2
   refine ⟨by simp [k1],fun i g hg=>?_⟩
   cases i with
   | succ i=>exact k2 i g (by simpa using hg)
   | zero =>
     simp at hg; subst hg
     split at h1
     · rename_i fi d e1 e2
       simp only [Bool.and_eq_true,decide_eq_true_eq,beq_iff_eq] at h1
       obtain ⟨⟨rfl,rfl⟩,rfl⟩:=h1
       refine ⟨fi,_,e1,rfl,d,e2,?_⟩
       cases d <;> rfl
     · cases h1
omit [Lam] in
theorem tiOk_spec {P:Program} {t:TypeId} {ti:TI} (h:tiOk P t ti=true):TIok P t ti:=by
 unfold tiOk at h
 simp only [Bool.and_eq_true] at h
 obtain ⟨h1,h2⟩:=h
 split at h1
 · rename_i i hi
   simp only [Bool.and_eq_true,decide_eq_true_eq] at h1
   obtain ⟨⟨e1,e2⟩,e3⟩:=h1
   split at e3
   · rename_i z hz
     split at h2
     · rename_i d hd
       simp only [Bool.and_eq_true] at h2
       obtain ⟨⟨⟨⟨k1,k3⟩,k5⟩,k4⟩,k2⟩:=h2
       refine ⟨fun n hp=>?_,fun hp=>?_,⟨i,z,hi,e1,e2,hz,e3⟩,?_,fun hne=>?_,fun name f hm=>?_⟩
       · rw [hp] at k5
         simp only at k5
         split at k5
         · rename_i n' e
           simp only [Bool.and_eq_true,decide_eq_true_eq] at k5
           obtain ⟨rfl,k5⟩:=k5
           split at k5
           · rename_i i1 k1' hi1 hu1
             exact ⟨e,i1,_,hd,hi1,by simpa using k5,hu1⟩
           · cases k5
         · cases k5
       · rw [hp] at k4
         simp only [Bool.not_true,Bool.false_or] at k4
         split at k4
         · rename_i n e
           simp only [Bool.and_eq_true,decide_eq_true_eq] at k4
           obtain ⟨rfl,k4⟩:=k4
           split at k4
           · rename_i i1 hi1 hu1
             exact ⟨e,i1,hd,hi1,by simpa using k4,hu1⟩
           · cases k4
         · cases k4
       · cases hk:ti.kind <;> rw [hk] at k1 <;> simp only at k1 ⊢
         · cases d <;> simp at k1; exact hd
         · cases d <;> simp at k1; subst k1; exact hd
         · cases d <;> simp at k1; exact hd
         · cases d <;> simp at k1; subst k1; exact hd
         · cases d <;> simp [notAgg] at k1
           · exact .inr ⟨_,_,hd⟩
           · exact .inl ⟨_,hd⟩
         · cases d <;> simp at k1; obtain ⟨rfl,rfl⟩:=k1; exact hd
         · cases d <;> simp at k1; exact ⟨_,hd⟩
         · cases d <;> simp at k1; exact ⟨_,hd⟩
         · refine ⟨d,hd,fun fs=>?_,fun n e=>?_,fun ms=>?_⟩ <;> (intro e; subst e; simp [notAgg] at k1)
       · simp only [Bool.or_eq_true] at k2
         rcases k2 with k2 | k2
         · simp at k2; exact absurd k2 hne
         · split at k2
           · rename_i fs
             obtain ⟨q1,q2⟩:=fieldsOk_spec k2
             exact ⟨fs,hd,by simpa using q1,fun i f hf=>q2 i f (by simpa using hf)⟩
           · cases k2
       · have hmem:(name,f)∈ti.meths:=by
          have:∀ l:List (String × FuncId),l.lookup name=some f→(name,f)∈l:=by
           intro l
           induction l with
           | nil=>intro h; simp at h
           | cons p l ih =>
             intro h
             obtain ⟨k,v⟩:=p
             rw [List.lookup_cons] at h
             by_cases e:name=k
             · subst e; simp at h; subst h; exact List.mem_cons_self
             · have:(name == k)=false:=by simpa using e
               rw [this] at h
               exact List.mem_cons_of_mem _ (ih h)
          exact this _ hm
         have:=List.all_eq_true.1 k3 _ hmem
         unfold methOk at this
         simp only [hi,hd] at this
         split at this
         · rename_i m hfm
           simp only [Bool.and_eq_true] at this
           obtain ⟨p1,p2⟩:=this
           split at p2
           · rename_i f' pr hfn
             simp only [Bool.and_eq_true,decide_eq_true_eq,beq_iff_eq] at p2
             obtain ⟨rfl,p3⟩:=p2
             refine ⟨i,m,pr,hi,hfm,by simpa using p1,hfn,?_⟩
             cases pr with
             | true=>left; refine ⟨rfl,?_⟩; cases d <;> simp [isPtr] at p3; exact ⟨_,hd⟩
             | false=>right; exact ⟨rfl,d,hd,fun e he=>by rw [he] at p3; simp [isPtr] at p3⟩
           · cases p2
         · cases this
     · cases h2
   · cases e3
 · cases h1
def tauOf (l:List (Nat × TI)):Tau:=fun t=>l.lookup t
omit [Lam] in
theorem tauGood {P:Program} {l:List (Nat × TI)} (hm:P.follows .mixedOrders=true) (h:(l.all fun p=>tiOk P p.1 p.2)=true) (h8:(l.all fun p=>decide (p.2.kind≠.int .u8)||decide (p.2.size=1))=true):TauGood P (tauOf l):=by
 have mem:∀ t ti,tauOf l t=some ti→(t,ti)∈l:=by
  intro t ti
  unfold tauOf
  clear h h8
  induction l with
  | nil=>intro h; simp at h
  | cons p l ih =>
    intro h
    obtain ⟨k,v⟩:=p
    rw [List.lookup_cons] at h
    by_cases e:t=k
    · subst e; simp at h; subst h; exact List.mem_cons_self
    · have:(t == k)=false:=by simpa using e
      rw [this] at h
      exact List.mem_cons_of_mem _ (ih h)
 refine ⟨fun t ti ht=>tiOk_spec (List.all_eq_true.1 h _ (mem t ti ht)),hm,fun t ti ht hk=>?_⟩
 have:=List.all_eq_true.1 h8 _ (mem t ti ht)
 simpa [hk] using this
end Go.Cod
namespace Go.Cod
open Go
variable [Lam]
def setL (base:Nat→V):List (Nat × V)→(Nat→V)
 | []=>base
 | (k,v)::l=>upd (setL base l) k v
def Holds (fr:Nat→V):List (Nat × V)→Prop
 | []=>True
 | (k,v)::l=>fr k=v∧Holds fr l
omit [Lam] in
theorem setL_self {fr:Nat→V}:∀ {l:List (Nat × V)},Holds fr l→setL fr l=fr
 | [],_=>rfl
 | (k,v)::l,h=>by
   simp only [setL,setL_self h.2]
   funext t
   unfold upd
   split
   · rename_i e; rw [e]; exact h.1.symm
   · rfl
omit [Lam] in
theorem Holds.split {fr:Nat→V} {l:List (Nat × V)} (h:Holds fr l):∃ b,fr=setL b l:=⟨fr,(setL_self h).symm⟩
omit [Lam] in
theorem loop_intro {nb:Nat} {B:(Ex→(Nat→V)→St→Prop)→(Nat→V)→St→Prop} {Q:Ex→(Nat→V)→St→Prop} {fr:Nat→V} {st:St} (J:Nat→(Nat→V)→St→Prop) (n:Nat) (h0:J n fr st)
  (h:∀ n fr st,J n fr st→B (AThen (fun fr' st'=>∃ n',n' < n∧J n' fr' st') Q) fr st):∃ (J:Nat→(Nat→V)→St→Prop) (n:Nat) (flag:Bool) (s0:Option (List Nat)),cmp nb s0 fr st (J n)∧∀ n fr st,J n fr st→B (AThen (ALoop nb flag J n) Q) fr st:=⟨J,n,false,none,h0,h⟩
omit [Lam] in
theorem loop_drop {nb:Nat} {B:(Ex→(Nat→V)→St→Prop)→(Nat→V)→St→Prop} {Q:Ex→(Nat→V)→St→Prop} {fr:Nat→V} {st:St} (J:Nat→(Nat→V)→St→Prop) (n:Nat) (s0:Option (List Nat)) (h0:cmp nb s0 fr st (J n))
  (h:∀ n fr st,J n fr st→B (AThen (fun fr' st'=>∃ n',n' < n∧∃ sel,cmp nb sel fr' st' (J n')) Q) fr st):∃ (J:Nat→(Nat→V)→St→Prop) (n:Nat) (flag:Bool) (s0:Option (List Nat)),cmp nb s0 fr st (J n)∧∀ n fr st,J n fr st→B (AThen (ALoop nb flag J n) Q) fr st:=⟨J,n,true,s0,h0,h⟩
omit [Lam] in
theorem ltB_t {a b:Int} (h:a < b):ltB a b=true:=by rw [ltB_def]; simpa using h
omit [Lam] in
theorem ltB_f {a b:Int} (h:b≤a):ltB a b=false:=by rw [ltB_def]; simpa using h
omit [Lam] in
theorem leB_t {a b:Int} (h:a≤b):leB a b=true:=by rw [leB_def]; simpa using h
omit [Lam] in
theorem leB_f {a b:Int} (h:b < a):leB a b=false:=by rw [leB_def]; simpa using h
omit [Lam] in
theorem eqB_t {a b:Int} (h:a=b):eqB a b=true:=by rw [eqB_def]; simpa using h
omit [Lam] in
theorem eqB_f {a b:Int} (h:a≠b):eqB a b=false:=by rw [eqB_def]; simpa using h
omit [Lam] in
theorem eqS_t {a b:List UInt8} (h:a=b):eqS a b=true:=by rw [eqS_def]; simpa using h
omit [Lam] in
theorem wrap64 {a:Int} (h0:-9223372036854775808≤a) (h1:a≤9223372036854775807):IntKind.i64.wrap a=a:=by
 rw [IntKind.wrap_i64]; omega
end Go.Cod
namespace Go.Cod
open Go Go.ChangeShapes Go.WideShapes Go.RowKit Go.ChangeAt
variable [Lam]
def oldP (w:World):Nat→Nat→Prop:=fun b _=>b < w.heap.size
section
variable {H:Type} {enc:TypeId × Value→H} {P:Program}
omit [Lam] in
theorem sameAt_old {w w':World} (h:∀ b,b < w.heap.size→w'.heap[b]? = w.heap[b]?) {p:MemPlace} (hp:p.block < w.heap.size):w.sameAt w' p:=by
 cases p with
 | cell b off =>
   show w'.cell? _=w.cell? _
   unfold World.cell?
   rw [h b hp]
 | map b=>exact h b hp
omit [Lam] in
theorem trodAll_old (K:Kids P (· < P.types.size)) (hz:∀ t e,t < P.types.size→P.underlying t=some (.slice e)→0 < P.cellsOf e) {w w':World} (h:∀ b,b < w.heap.size→w'.heap[b]? = w.heap[b]?) {sp:Nat→Bool} :
  ∀ {ts:List TypeId} {vs:List Value} {ds:List (DataW H)} {ps:List MemPlace},(∀ t∈ts,t < P.types.size)→(∀ p∈ps,p.block < w.heap.size)→(∀ p∈ps,sp p.block=true) →
    DataW.TrodAll enc P w 0 (fun _=>true) true ts vs ds ps→DataW.TrodAll enc P w' 0 sp true ts vs ds ps
 | [],[],[],_,_,_,_,h0=>h0
 | t::_,_::_,_::_,_,hT,hl,hs,⟨p,q,⟨n,h1⟩,h2,e⟩=>by
   subst e
   refine ⟨p,q,?_,trodAll_old K hz h (fun t ht=>hT t (List.mem_cons.2 (Or.inr ht))) (fun p hp=>hl p (List.mem_append_right _ hp)) (fun p hp=>hs p (List.mem_append_right _ hp)) h2,rfl⟩
   have h3:=DataW.trod_carry (w':=w') n _ _ _ h1 (fun p hp=>sameAt_old h (hl p (List.mem_append_left _ hp)))
   exact ⟨n,DataW.trod_respare K hz n _ _ _ (hT t (List.mem_cons.2 (Or.inl rfl))) h3 (fun p hp=>hs p (List.mem_append_left _ hp))⟩
end
end Go.Cod
namespace Go.Cod
open Go Go.ChangeShapes Go.WideShapes
variable [Lam]
section
variable {H:Type} (enc:TypeId × Value→H) (P:Program) (w:World)
def Reads (n:Nat) (t:TypeId) (S:List V→Prop):Prop:=∀ cs x,DataW.trod enc P w 0 (fun _=>true) true n t cs=some x →
 ∃ vs,S vs∧RepL (oldP w) [] w vs cs∧(∀ v∈vs,v.leaf=true)∧V.clean.cleanL 0 vs=true
variable {enc P w}
omit [Lam] in
theorem reads_int {n:Nat} {t:TypeId} {k:IntKind} (ht:P.underlying t=some (.int k)):Reads enc P w n t fun vs=>∃ i,vs=[.int k i]∧k.min≤i∧i≤k.max:=by
 intro cs x h
 obtain ⟨i,rfl,_,hw⟩:=DataW.trod_int ht h
 simp only [Lit.wf,Bool.and_eq_true,decide_eq_true_eq] at hw
 refine ⟨_,⟨i,rfl,hw⟩,⟨rfl,?_⟩,by simp [V.leaf],rfl⟩
 intro j a b h1 h2
 cases j with
 | zero=>simp at h1 h2; subst h1 h2; exact .int _ _
 | succ j=>simp at h1
omit [Lam] in
theorem addr_off {a:Addr} (h:a.spot=none) (n:Nat):a.add n=⟨a.block,a.off+n,none⟩:=by
 cases a
 simp at h
 subst h
 unfold Addr.add
 split
 · rename_i h; subst h; simp
 · rfl
omit [Lam] in
theorem reads_slice {n:Nat} {t e:TypeId} {S:List V→Prop} (ht:P.underlying t=some (.slice e)) (hc:0 < P.cellsOf e) (he:∀ m,m < n→Reads enc P w m e S) :
  Reads enc P w n t fun vs=>∃ es,vs=[.sl es]∧es.length≤maxLen∧∀ r∈es,S r∧r.length=P.cellsOf e∧(∀ v∈r,v.leaf=true)∧V.clean.cleanL 0 r=true:=by
 intro cs x h
 rcases DataW.trod_slice ht h with ⟨rfl,_⟩ | ⟨a,len,cap,elems,rest,m,rfl,rfl,rfl,hb,hl,hm,hlen,hel,hsp,hns⟩
 · refine ⟨_,⟨[],rfl,by simp,by simp⟩,⟨rfl,?_⟩,by simp [V.leaf],rfl⟩
   intro j a b h1 h2
   cases j with
   | zero=>simp at h1 h2; subst h1 h2; exact .sl0 _ _
   | succ j=>simp at h1
 have key:∀ i,i < len→∃ (cs':List Value) (vs:List V),w.cells? 0 (a.add (i*P.cellsOf e)) (P.cellsOf e)=some cs'∧S vs∧RepL (oldP w) [] w vs cs'∧(∀ v∈vs,v.leaf=true)∧V.clean.cleanL 0 vs=true:=by
  intro i hi
  have h1:=hel i hi
  rw [List.getElem?_eq_getElem (by omega)] at h1
  obtain ⟨cs',h2,h3⟩:=Option.bind_eq_some_iff.1 h1
  obtain ⟨vs,h4,h5,h6⟩:=he m (by omega) _ _ h3
  exact ⟨cs',vs,h2,h4,h5,h6⟩
 by_cases h0:len=0
 · subst h0
   refine ⟨_,⟨[],rfl,by simp,by simp⟩,⟨rfl,?_⟩,by simp [V.leaf],rfl⟩
   intro j a b h1 h2
   cases j with
   | zero=>simp at h1 h2; subst h1 h2; exact .sl0 _ _
   | succ j=>simp at h1
 have hspot:a.spot=none:=by
  obtain ⟨cs',vs,h1,_⟩:=key 0 (by omega)
  obtain ⟨_,h2,h3⟩:=World.cells?_some h1
  have h4:=h3 0 hc
  rw [List.getElem?_eq_getElem (by omega)] at h4
  simp [Addr.add] at h4
  unfold World.cell? at h4
  split at h4
  · split at h4
    · cases h4
    · rename_i hn; simpa using hn
  · cases h4
 obtain ⟨C,hC⟩:=Classical.axiomOfChoice (r:=fun (i:Fin len) (q:List Value × List V)=>w.cells? 0 (a.add (i.1*P.cellsOf e)) (P.cellsOf e)=some q.1∧S q.2∧RepL (oldP w) [] w q.2 q.1∧(∀ v∈q.2,v.leaf=true)∧V.clean.cleanL 0 q.2=true)
  (fun i=>by obtain ⟨cs',vs,h⟩:=key i.1 i.2; exact ⟨(cs',vs),h⟩)
 let es:List (List V):=List.ofFn fun i=>(C i).2
 have hes:es.length=len:=by simp [es]
 have hrow:∀ (i:Nat) r,es[i]? = some r→∃ h:i < len,r=(C ⟨i,h⟩).2:=by
  intro i r hi
  obtain ⟨h1,h2⟩:=List.getElem?_eq_some_iff.1 hi
  rw [hes] at h1
  exact ⟨h1,by rw [← h2]; simp [es]⟩
 have hw:∀ (i:Nat) r,es[i]? = some r→S r∧r.length=P.cellsOf e∧(∀ v∈r,v.leaf=true)∧V.clean.cleanL 0 r=true:=by
  intro i r hi
  obtain ⟨h,rfl⟩:=hrow i r hi
  obtain ⟨a1,a2,a3,a4⟩:=hC ⟨i,h⟩
  exact ⟨a2,by rw [a3.1]; exact (World.cells?_some a1).2.1,a4⟩
 have hw':∀ r∈es,S r∧r.length=P.cellsOf e∧(∀ v∈r,v.leaf=true)∧V.clean.cleanL 0 r=true:=by
  intro r hr
  obtain ⟨i,hi,rfl⟩:=List.mem_iff_getElem.1 hr
  exact hw i _ (List.getElem?_eq_getElem hi)
 refine ⟨[.sl es],⟨es,rfl,by rw [hes]; omega,hw'⟩,⟨rfl,?_⟩,by simp [V.leaf],rfl⟩
 intro j x u h1 h2
 cases j with
 | succ j=>simp at h1
 | zero =>
   simp at h1 h2; subst h1 h2
   obtain ⟨b,off,sp⟩:=a
   simp only at hspot
   subst hspot
   have cellat:∀ (i:Nat) r (j:Nat) v,es[i]? = some r→r[j]? = some v→∃ u,w.cell? ⟨b,off+(i*P.cellsOf e+j),none⟩=some u∧Rep (oldP w) [] w v u:=by
    intro i r j v hi hj
    obtain ⟨h,rfl⟩:=hrow i r hi
    obtain ⟨a1,a2,a3,a4⟩:=hC ⟨i,h⟩
    obtain ⟨_,b2,b3⟩:=World.cells?_some a1
    have hjl:=(List.getElem?_eq_some_iff.1 hj).1
    rw [a3.1,b2] at hjl
    have b4:=b3 j hjl
    rw [Go.Deep.add_add,addr_off rfl] at b4
    rw [b4,List.getElem?_eq_getElem (by omega)]
    exact ⟨_,rfl,a3.2 j _ _ hj (List.getElem?_eq_getElem (by omega))⟩
   have:=Rep.sl (Pr:=oldP w) (γ:=[]) (w:=w) (es:=es) (b:=b) (off:=off) (cap:=cap) (c:=P.cellsOf e) (fun i j=>(w.cell? ⟨b,off+(i*P.cellsOf e+j),none⟩).getD undef)
    (V.cleanLL_take fun e he=>(hw' e he).2.2.2) (by omega) (fun e he=>(hw' e he).2.1) (fun e he=>(hw' e he).2.2.1) ?_ ?_
   · rw [hes] at this; exact this
   · intro i r j v hi hj
     obtain ⟨u,hu,hr⟩:=cellat i r j v hi hj
     refine ⟨by rw [hu]; rfl,?_⟩
     unfold World.cell? at hu
     show b < w.heap.size
     split at hu
     · rename_i hh; exact (Array.getElem?_eq_some_iff.1 hh).1
     · cases hu
   · intro i r j v hi hj
     obtain ⟨u,hu,hr⟩:=cellat i r j v hi hj
     rw [hu]; exact hr
end
end Go.Cod
namespace Go.Cod
open Go Go.ChangeShapes Go.WideShapes
variable [Lam]
section
variable {H:Type} (enc:TypeId × Value→H) (P:Program) (W:World)
def ReadsA (t:TypeId) (S:V→Prop):Prop:=∀ base v d p,Value.okWide P W .any base t v→DataW.Trod enc P W 0 (fun _=>true) true t v d p→∃ x,S x∧Rep (oldP W) [] W x v
def ReadsAll:List TypeId→List (V→Prop)→Prop
 | [],[]=>True
 | t::ts,S::Ss=>ReadsA enc P W t S∧ReadsAll ts Ss
 | _,_=>False
def HoldAll:List (V→Prop)→List V→Prop
 | [],[]=>True
 | S::Ss,x::xs=>S x∧HoldAll Ss xs
 | _,_=>False
omit [Lam] in
theorem hold_nil {xs:List V} (h:HoldAll [] xs):xs=[]:=by
 cases xs with
 | nil=>rfl
 | cons _ _=>exact h.elim
omit [Lam] in
theorem hold_cons {S:V→Prop} {Ss:List (V→Prop)} {xs:List V} (h:HoldAll (S::Ss) xs):∃ a as,xs=a::as∧S a∧HoldAll Ss as:=by
 cases xs with
 | nil=>exact h.elim
 | cons a as=>exact ⟨a,as,rfl,h⟩
omit [Lam] in
theorem hold1 {S1:V→Prop} {xs:List V} (h:HoldAll [S1] xs):∃ a,xs=[a]∧S1 a:=by
 obtain ⟨a,_,rfl,h1,h⟩:=hold_cons h
 obtain rfl:=hold_nil h
 exact ⟨a,rfl,h1⟩
omit [Lam] in
theorem hold2 {S1 S2:V→Prop} {xs:List V} (h:HoldAll [S1,S2] xs):∃ a b,xs=[a,b]∧S1 a∧S2 b:=by
 obtain ⟨a,_,rfl,h1,h⟩:=hold_cons h
 obtain ⟨b,rfl,h2⟩:=hold1 h
 exact ⟨a,b,rfl,h1,h2⟩
variable {enc P W}
omit [Lam] in
theorem readsA_one {t:TypeId} {S:List V→Prop} (h:∀ n,Reads enc P W n t S) (hc:∀ base v,Value.okWide P W .any base t v→v.cells.toList=[v]):ReadsA enc P W t fun x=>S [x]:=by
 intro base v d p hv ⟨n,h0⟩
 obtain ⟨vs,hS,hr,hlf⟩:=h n _ _ h0
 rw [hc base v hv] at hr
 obtain ⟨x,rfl⟩:∃ x,vs=[x]:=by
  have:=hr.1
  cases vs with
  | nil=>simp at this
  | cons x xs=>cases xs with
    | nil=>exact ⟨x,rfl⟩
    | cons y ys=>simp at this
 exact ⟨x,hS,hr.2 0 x v rfl rfl⟩
omit [Lam] in
theorem readsA_slice {t e:TypeId} {S:List V→Prop} (ht:P.underlying t=some (.slice e)) (h:∀ n,Reads enc P W n t S):ReadsA enc P W t fun x=>S [x] :=
 readsA_one h fun base v hv=>by obtain ⟨a,b,c,rfl⟩:=okWide_slice ht hv; rfl
omit [Lam] in
theorem args_of:∀ {ts:List TypeId} {Ss:List (V→Prop)} {args:List Value} {ds:List (DataW H)} {ps:List MemPlace} {base:Nat},ReadsAll enc P W ts Ss→DataW.TrodAll enc P W 0 (fun _=>true) true ts args ds ps →
  (∀ (j:Nat) t v,ts[j]? = some t→args[j]? = some v→Value.okWide P W .any base t v)→∃ xs,HoldAll Ss xs∧RepL (oldP W) [] W xs args
 | [],[],args,ds,ps,base,_,hA,_=>by
   obtain ⟨rfl,rfl,rfl⟩:=trodAll_nil hA
   exact ⟨[],trivial,rfl,by simp⟩
 | t::ts,S::Ss,args,ds,ps,base,hR,hA,hv=>by
   obtain ⟨v,vs',d,ds',p,q,rfl,rfl,rfl,h0,h1⟩:=trodAll_cons hA
   obtain ⟨x,hx,hr⟩:=hR.1 _ _ _ _ (hv 0 t v rfl rfl) h0
   obtain ⟨xs,hxs,hl,hrs⟩:=args_of hR.2 h1 fun j t v a b=>hv (j+1) t v a b
   refine ⟨x::xs,⟨hx,hxs⟩,by simp [hl],fun i a u e1 e2=>?_⟩
   cases i with
   | zero=>simp at e1 e2; subst e1 e2; exact hr
   | succ i=>exact hrs i a u (by simpa using e1) (by simpa using e2)
 | [],_::_,_,_,_,_,h,_,_=>h.elim
 | _::_,[],_,_,_,_,h,_,_=>h.elim
omit [Lam] in
theorem trodAll_len:∀ {ts:List TypeId} {args:List Value} {ds:List (DataW H)} {ps:List MemPlace},DataW.TrodAll enc P W 0 (fun _=>true) true ts args ds ps→ds.length=ts.length
 | [],_,_,_,h=>by obtain ⟨rfl,rfl,rfl⟩:=trodAll_nil h; rfl
 | _::_,_,_,_,h=>by
   obtain ⟨v,vs',d,ds',p,q,rfl,rfl,rfl,h0,h1⟩:=trodAll_cons h
   simp [trodAll_len h1]
end
end Go.Cod
namespace Go.Cod
open Go
variable [Lam]
variable {P:Program} {ok:OkY}
end Go.Cod
namespace Go.Cod
open Go
variable [Lam]
variable {P:Program} {ok:OkY}
theorem Full.freeze {f:FuncId} {args:List V} {R:Out→St→Prop} {R':V→Prop} (h:Full P noY f args [] R)
  (hR:∀ o st',R o st'→∃ v es v',o=.ret v∧st'=[poolO es]∧View es v v'∧v.clean 0=true∧R' v'):Pure P f args R':=by
 refine ⟨h.1,fun E C Pr γ w cargs hr hst hext=>(h.2 E C Pr γ w cargs hr hst hext).mono fun e w' hh=>?_⟩
 obtain ⟨o,st',γ',Pr',C',h1,h2,S,M,X,B⟩:=hh
 obtain ⟨v,es,v',rfl,rfl,hv,hcl,hR'⟩:=hR o st' h2
 cases h1 with
 | ret h1 =>
 have hγ0:γ=[]:=by have:=hst.len; simpa using this
 subst hγ0
 have nomod:∀ b,¬ modOf [] [] b:=fun b ⟨k,o,h1,_⟩=>by simp at h1
 have Q:=X.pools
 let Pr2:Nat→Nat→Prop:=fun b n=>Pr' b n∨∃ e∈es,labOf e=b
 have hlab:∀ {e:List V},e∈es→Lab [poolO es] (labOf e):=fun h=>⟨0,poolO es,_,rfl,rfl,h,rfl⟩
 have rv:Rep Pr2 [] w' v' _:=hv.rep (fun e he=>Q.ent 0 (poolO es) rfl rfl e he) (fun _ _ h=>.inl h) (fun e he n=>.inr ⟨e,he,rfl⟩) _ (h1.names (n:=0) (fun k hk=>absurd hk (Nat.not_lt_zero _)) hcl)
 refine ⟨_,[],[],Pr2,C',.ret rv,⟨rfl,v',rfl,hR'⟩,⟨rfl,fun k o g h=>by simp at h,fun k k' o o' g g' h=>by simp at h,fun b n hb=>?_,S.laid.keep (γ:=[]) (γ':=[]) ⟨fun _ _ h=>.inl h,fun _ _ _=>rfl,fun _ _ h=>h⟩⟩,fun k o g h=>by simp at h,⟨X.clow,fun k o g h=>by simp at h,fun b n hb=>?_,fun k o g h=>by simp at h,fun k k' o o' g g' h=>by simp at h,fun k o g h=>by simp at h,fun k o g h=>by simp at h,fun k k' o o' h=>by simp at h,X.marks,X.round,Pools.none fun k o h=>by simp at h⟩,
  ⟨B.os,B.tape,B.output,B.size,B.old,fun b n hb=>.inl (B.sub b n hb),fun b n hb=>?_,fun k g h=>by simp at h,B.cell,B.csub,B.cnew⟩⟩
 · rcases hb with hb | ⟨e,he,rfl⟩
   · exact S.low b n hb
   · exact Q.lt (hlab he)
 · rcases hb with hb | ⟨e,he,rfl⟩
   · exact X.prC b n hb
   · exact .inr (Q.at (hlab he)).1
 · rcases hb with hb | ⟨e,he,rfl⟩
   · exact B.new b n hb
   · rcases (Q.at (hlab he)).2 with h | h
     · exact .inr (.inl h)
     · exact absurd h (nomod _)
end Go.Cod
namespace Go.Cod
open Go
variable [Lam]
variable {P:Program} {ok:OkY}
end Go.Cod
namespace Go.Cod
open Go
variable [Lam]
variable {P:Program} {ok:OkY}
end Go.Cod
namespace Go.Cod
open Go
variable [Lam]
variable {P:Program} {ok:OkY} {E:Env P ok} {w0:World} {mod:Nat→Prop} {γ0:List G} {Pr0:Nat→Nat→Prop} {C0:Nat→Prop} {nt:Nat} {ρ:Option Nat}
 {Pr Pr':Nat→Nat→Prop} {γ γ' γc:List G} {C C':Nat→Prop} {fr fr':Nat→V} {st st':St} {a a':Act} {w w':World}
end Go.Cod
namespace Go.Cod
open Go
variable [Lam]
variable {P:Program} {ok:OkY} {E:Env P ok} {w0:World} {mod:Nat→Prop} {γ0:List G} {Pr0:Nat→Nat→Prop} {C0:Nat→Prop} {nt:Nat} {ρ:Option Nat}
 {Pr Pr':Nat→Nat→Prop} {γ γ' γc:List G} {C C':Nat→Prop} {fr fr':Nat→V} {st st':St} {a a':Act} {w w':World}
def PPart (x:V) (b sz o n c:Nat):Prop:=x=subD b sz o n c∨(x=.dref b n c∧o=0)
def PSrc (st:St) (x:V) (ms:List (List V)):Prop:=elems st x=some ms ∨
 (∃ b sz o n c k cap rows,PPart x b sz o n c∧ent b cap sz rows∈poolEs st k∧o+n≤rows.length∧ms=(rows.drop o).take n) ∨
 ∃ s:List UInt8,x=.str s∧ms=s.map fun b=>[.int .u8 b.toNat]
omit [Lam] in
theorem PPart.rep {x:V} {b sz o n c:Nat} {cx:Value} (h:PPart x b sz o n c) (hx:Rep Pr γ w x cx):cx=.slice (some ⟨b,o*sz,none⟩) n c:=by
 rcases h with rfl | ⟨rfl,rfl⟩
 · cases hx; rfl
 · cases hx; rw [Nat.zero_mul]
omit [Lam] in
theorem flat.names {c:Nat} {es:List (List V)} {us:List Value} (hc:V.clean.cleanLL 0 es=true) (h:flat c es us Pr γ w):flat c es us Pr γ' w :=
 ⟨h.1,fun i e j x a b=>by
   obtain ⟨u,h1,h2⟩:=h.2 i e j x a b
   exact ⟨u,h1,h2.names (n:=0) (fun k hk=>absurd hk (Nat.not_lt_zero _)) (V.cleanL_mem (V.cleanLL_mem hc e (List.mem_of_getElem? a)) x (List.mem_of_getElem? b))⟩⟩
theorem PSrc.run (H:X P ok E w0 mod γ0 Pr0 C0 nt ρ Pr γ C fr st a w) {x:V} {cx:Value} {ms:List (List V)} {size:Nat} (h:PSrc st x ms) (hs:∀ m∈ms,m.length=size) (hx:Rep Pr γ w x cx) :
  V.clean.cleanLL 0 ms=true∧(∀ e∈ms,∀ y∈e,y.leaf=true)∧∃ news,flat size ms news Pr [] w∧(∀ u∈news,u.oneCell'=true)∧(∀ w1:World,(Builtin.lenOf cx).run P w1=.ok ms.length w1) ∧
   ∀ m,m≤ms.length→∀ w1:World,(∀ a,w1.cell? a=w.cell? a)→(Builtin.firstCells size m cx).run P w1=.ok (news.take (m*size)).toArray w1:=by
 have nil:ms=[]→∀ (a:Option Addr) (n c:Nat),cx=.slice a n c→n=0→V.clean.cleanLL 0 ms=true∧(∀ e∈ms,∀ y∈e,y.leaf=true)∧∃ news,flat size ms news Pr [] w∧(∀ u∈news,u.oneCell'=true)∧(∀ w1:World,(Builtin.lenOf cx).run P w1=.ok ms.length w1) ∧
   ∀ m,m≤ms.length→∀ w1:World,(∀ a,w1.cell? a=w.cell? a)→(Builtin.firstCells size m cx).run P w1=.ok (news.take (m*size)).toArray w1:=by
  intro hz a n c e e0
  subst hz; subst e; subst e0
  refine ⟨rfl,by simp,[],⟨by simp,fun i e j x a=>by simp at a⟩,by simp,fun w1=>by simp [Builtin.lenOf],fun m hm w1 _=>?_⟩
  have:m=0:=by simpa using hm
  subst this
  cases a <;> simp [Builtin.firstCells,loadCells,loadCellsFrom]
 have some:∀ (b off n c:Nat),cx=.slice (.some ⟨b,off,none⟩) n c→n=ms.length→SRows Pr γ w ms b off size→V.clean.cleanLL 0 ms=true→V.clean.cleanLL 0 ms=true∧(∀ e∈ms,∀ y∈e,y.leaf=true)∧∃ news,flat size ms news Pr [] w∧(∀ u∈news,u.oneCell'=true)∧(∀ w1:World,(Builtin.lenOf cx).run P w1=.ok ms.length w1) ∧
   ∀ m,m≤ms.length→∀ w1:World,(∀ a,w1.cell? a=w.cell? a)→(Builtin.firstCells size m cx).run P w1=.ok (news.take (m*size)).toArray w1:=by
  intro b off n c e en R hc
  subst e; subst en
  obtain ⟨us,f1,f2,f3⟩:=R.flat
  refine ⟨hc,R.lf,us,f1.names hc,f2,fun w1=>by simp [Builtin.lenOf],fun m hm w1 hw1=>?_⟩
  have hle:m*size≤ms.length*size:=Nat.mul_le_mul_right _ hm
  refine run_firstCells_some w1 size m ⟨b,off,none⟩ _ _ (us.take (m*size)) (by rw [List.length_take,f1.1,Nat.min_eq_left hle]) (fun j v hv=>?_)
  rw [addr_add,hw1]
  refine f3 j v ?_
  have hj:j < m*size:=by
   have:=(List.getElem?_eq_some_iff.1 hv).1
   rw [List.length_take] at this; omega
  rw [List.getElem?_take_of_lt hj] at hv
  exact hv
 rcases h with h | ⟨b,sz,o,n,c,k,cap,rows,hp,hm,hon,rfl⟩ | ⟨s,rfl,rfl⟩
 · obtain ⟨a,cap,rfl,_,hR⟩:=elems_rows H.st h hx
   by_cases hz:ms=[]
   · exact nil hz a _ cap rfl (by rw [hz]; rfl)
   · obtain ⟨b,off,c,rfl,R⟩:=hR hz
     have hc:c=size:=by
      obtain ⟨e,he⟩:=List.exists_mem_of_ne_nil _ hz
      rw [← R.wid e he,hs e he]
     subst hc
     exact some b off _ cap rfl rfl R (elems_clean H.st h hx)
 · have hcx:=hp.rep hx
   have hlen:((rows.drop o).take n).length=n:=by rw [List.length_take,List.length_drop]; omega
   by_cases hz:(rows.drop o).take n=[]
   · exact nil hz _ n c hcx (by rw [← hlen,hz]; rfl)
   · obtain ⟨ty,hO⟩:=(H.poolEnt k _ hm).obj
     have M:=hO γ
     have hsub:∀ e∈(rows.drop o).take n,e∈rows:=fun e he=>List.mem_of_mem_drop (List.mem_of_mem_take he)
     have hc:sz=size:=by
      obtain ⟨e,he⟩:=List.exists_mem_of_ne_nil _ hz
      rw [← hs e he]; exact (M.sz e (hsub e he)).symm
     subst hc
     have hcl:V.clean.cleanLL 0 ((rows.drop o).take n)=true:=by
      have:=M.cl rfl
      rw [cleanLL_iff] at this ⊢
      exact fun e he=>this e (hsub e he)
     refine some b (o*sz) n c hcx hlen.symm ⟨fun e he=>M.sz e (hsub e he),fun e he=>M.lf e (hsub e he),fun i e hi j x hx=>?_⟩ hcl
     have hin:i < n:=by
      have:=(List.getElem?_eq_some_iff.1 hi).1
      rw [List.length_take] at this; omega
     rw [List.getElem?_take_of_lt hin,List.getElem?_drop] at hi
     obtain ⟨u,hu,hr⟩:=M.cells hi j x hx
     exact ⟨u,by rw [show o*sz+i*sz+j=(o+i)*sz+j by rw [Nat.add_mul]]; exact hu,hr⟩
 · cases hx
   have hcl:∀ l:List UInt8,V.clean.cleanLL 0 (l.map fun b=>[V.int .u8 b.toNat])=true:=by
    intro l
    induction l with
    | nil=>rfl
    | cons b l ih =>
      show (V.clean.cleanL 0 [V.int .u8 b.toNat]&&V.clean.cleanLL 0 (l.map fun b=>[V.int .u8 b.toNat]))=true
      rw [ih]; rfl
   refine ⟨hcl s,fun e he y hy=>?_,?_⟩
   · obtain ⟨b,_,rfl⟩:=List.mem_map.1 he
     rw [List.mem_singleton.1 hy]; rfl
   · rcases s with _ | ⟨b0,s⟩
     · refine ⟨[],⟨by simp,fun i e j x a=>by simp at a⟩,by simp,fun w1=>?_,fun m hm w1 _=>?_⟩
       · simp [Builtin.lenOf]; rfl
       · have:m=0:=by simpa using hm
         subst this
         simp [Builtin.firstCells]
     · have h1:=hs [V.int .u8 b0.toNat] (by simp)
       have h1:size=1:=h1.symm
       subst h1
       refine ⟨(b0::s).map fun b=>Value.int .u8 b.toNat,⟨by simp,fun i e j x p q=>?_⟩,fun u hu=>?_,fun w1=>?_,fun m hm w1 _=>?_⟩
       · rw [List.getElem?_map] at p
         obtain ⟨b,hb,rfl⟩:=Option.map_eq_some_iff.1 p
         have hj:j=0:=by
          have:=(List.getElem?_eq_some_iff.1 q).1
          simpa using this
         subst hj
         cases q
         exact ⟨Value.int .u8 b.toNat,by rw [Nat.mul_one,Nat.add_zero,List.getElem?_map,hb]; rfl,.int _ _⟩
       · obtain ⟨b,_,rfl⟩:=List.mem_map.1 hu
         rfl
       · simp [Builtin.lenOf,ByteArray.size]
       · have he:(ByteArray.mk (b0::s).toArray |>.extract 0 m).data=((b0::s).take m).toArray:=by
          rw [ByteArray.data_extract]; simp
         show (pure _:Sem (Array Value)).run P w1=_
         rw [he]
         simp [List.map_take]
end Go.Cod
namespace Go.Cod
open Go
variable [Lam]
variable {P:Program} {ok:OkY} {E:Env P ok} {w0:World} {mod:Nat→Prop} {γ0:List G} {Pr0:Nat→Nat→Prop} {C0:Nat→Prop} {nt:Nat} {ρ:Option Nat}
 {Pr Pr':Nat→Nat→Prop} {γ γ' γc:List G} {C C':Nat→Prop} {fr fr':Nat→V} {st st':St} {a a':Act} {w w':World}
end Go.Cod
namespace Go.Cod
open Go
variable [Lam]
variable {P:Program} {ok:OkY} {E:Env P ok} {w0:World} {mod:Nat→Prop} {γ0:List G} {Pr0:Nat→Nat→Prop} {C0:Nat→Prop} {nt:Nat} {ρ:Option Nat}
 {Pr Pr':Nat→Nat→Prop} {γ γ' γc:List G} {C C':Nat→Prop} {fr fr':Nat→V} {st st':St} {a a':Act} {w w':World}
end Go.Cod
namespace Go.Cod
open Go
variable [Lam]
variable {P:Program} {ok:OkY} {E:Env P ok} {w0:World} {mod:Nat→Prop} {γ0:List G} {Pr0:Nat→Nat→Prop} {C0:Nat→Prop} {nt:Nat} {ρ:Option Nat}
 {Pr Pr':Nat→Nat→Prop} {γ γ' γc:List G} {C C':Nat→Prop} {fr fr':Nat→V} {st st':St} {a a':Act} {w w':World}
end Go.Cod
namespace Go.Cod
open Go
variable [Lam]
variable {P:Program} {ok:OkY} {E:Env P ok} {w0:World} {mod:Nat→Prop} {γ0:List G} {Pr0:Nat→Nat→Prop} {C0:Nat→Prop} {nt:Nat} {ρ:Option Nat}
 {Pr Pr':Nat→Nat→Prop} {γ γ' γc:List G} {C C':Nat→Prop} {fr fr':Nat→V} {st st':St} {a a':Act} {w w':World}
end Go.Cod
namespace Go.Cod
open Go
variable [Lam]
variable {P:Program} {ok:OkY} {E:Env P ok} {w0:World} {mod:Nat→Prop} {γ0:List G} {Pr0:Nat→Nat→Prop} {C0:Nat→Prop} {nt:Nat} {ρ:Option Nat}
 {Pr Pr':Nat→Nat→Prop} {γ γ' γc:List G} {C C':Nat→Prop} {fr fr':Nat→V} {st st':St} {a a':Act} {w w':World}
end Go.Cod
namespace Go.Cod
open Go
variable [Lam]
variable {P:Program}
end Go.Cod
namespace Go.Cod
open Go
variable [Lam]
variable {P:Program}
end Go.Cod
namespace Go.Cod
open Go
variable [Lam]
variable {P:Program} {ok:OkY} {E:Env P ok} {w0:World} {mod:Nat→Prop} {γ0:List G} {Pr0:Nat→Nat→Prop} {C0:Nat→Prop} {nt:Nat} {ρ:Option Nat}
 {Pr Pr':Nat→Nat→Prop} {γ γ' γc:List G} {C C':Nat→Prop} {fr fr':Nat→V} {st st':St} {a a':Act} {w w':World}
end Go.Cod
namespace Go.Cod
open Go
variable [Lam]
variable {P:Program} {ok:OkY}
end Go.Cod
namespace Go.Cod
open Go
variable [Lam]
end Go.Cod
set_option linter.all false
namespace Go.Cod
open Go Go.ChangeShapes Go.WideShapes Go.RowKit Go.ChangeAt
class Adr where
 a:Nat→Addr
def tabCells (k:IntKind) (zs:List Int):List V:=zs.map fun z=>.int k z
theorem rep_tab {W:World} {P:Program} {n:String} {g:Nat} {k:IntKind} {zs:List Int} (hg:P.globalNamed n=some g) (h:W.var? P n=some (zs.map fun z=>Value.int k z).toArray) :
  Rep (oldP W) [] W (.rptr (tabCells k zs)) (.pointer (some ⟨g,0,none⟩))∧W.cell? ⟨g,(tabCells k zs).length,none⟩=none∧oldP W g (tabCells k zs).length:=by
 unfold World.var? at h
 rw [hg] at h
 simp only [Option.bind_some] at h
 cases hh:W.heap[g]? with
 | none=>simp [hh] at h
 | some o =>
   cases o with
   | cells c t f =>
     simp only [hh,Option.some.injEq] at h
     subst h
     have hlt:g < W.heap.size:=(Array.getElem?_eq_some_iff.1 hh).1
     have hcell:∀ j,W.cell? ⟨g,j,none⟩=(zs[j]?).map fun z=>Value.int k z:=fun j=>by simp [World.cell?,hh]
     refine ⟨.rptr (off:=0) (fun j=>.int k (zs.getD j 0)) ?_ ?_ ?_,?_,hlt⟩
     · intro v hv
       obtain ⟨z,_,rfl⟩:=List.mem_map.1 hv
       rfl
     · intro j v hv
       simp only [tabCells,List.getElem?_map,Option.map_eq_some_iff] at hv
       obtain ⟨z,hz,rfl⟩:=hv
       exact ⟨by rw [Nat.zero_add,hcell,hz]; simp [List.getD,hz],hlt⟩
     · intro j v hv
       simp only [tabCells,List.getElem?_map,Option.map_eq_some_iff] at hv
       obtain ⟨z,hz,rfl⟩:=hv
       have e:zs.getD j 0=z:=by simp [List.getD,hz]
       rw [e]
       exact .int k z
     · rw [hcell]
       simp [tabCells]
   | _=>simp [hh] at h
variable {H:Type} {enc:TypeId × Value→H} {P:Program}
theorem trodVars_old (K:Kids P (· < P.types.size)) (hz:∀ t e,t < P.types.size→P.underlying t=some (.slice e)→0 < P.cellsOf e) (hgt:∀ (g:Nat) x,P.globals[g]? = some x→x.type < P.types.size)
  {w w':World} (h:∀ b,b < w.heap.size→w'.heap[b]? = w.heap[b]?) {sp:Nat→Bool} :
  ∀ {ns:List String} {ds:List (DataW H)} {ps:List MemPlace},(∀ p∈ps,p.block < w.heap.size)→(∀ p∈ps,sp p.block=true) →
    DataW.TrodVars enc P w (fun _=>true) ns ds ps→DataW.TrodVars enc P w' sp ns ds ps
 | [],[],_,_,_,h0=>h0
 | n::ns,d::ds,_,hl,hs,⟨g,t,cs,fuel,p,q,h1,h2,h3,h4,h5,e⟩=>by
   subst e
   have ht:t < P.types.size:=by
    cases hx:P.globals[g]? with
    | none=>simp [hx] at h2
    | some x=>simp [hx] at h2; subst h2; exact hgt g x hx
   have hv:w'.var? P n=w.var? P n:=by
    unfold World.var?
    rw [h1]
    simp only [Option.bind_some]
    have hlt:g < w.heap.size:=by
     unfold World.var? at h3
     rw [h1] at h3
     simp only [Option.bind_some] at h3
     rcases Nat.lt_or_ge g w.heap.size with h' | h'
     · exact h'
     · simp [Array.getElem?_eq_none h'] at h3
    rw [h g hlt]
   refine ⟨g,t,cs,fuel,p,q,h1,h2,hv.trans h3,?_,trodVars_old K hz hgt h (fun p hp=>hl p (by simp [hp])) (fun p hp=>hs p (by simp [hp])) h5,rfl⟩
   have h6:=DataW.trod_carry (w':=w') fuel _ _ _ h4 (fun p hp=>sameAt_old h (hl p (by simp only [List.mem_append]; exact .inl (.inr hp))))
   exact DataW.trod_respare K hz fuel _ _ _ ht h6 (fun p hp=>hs p (by simp only [List.mem_append]; exact .inl (.inr hp)))
 | [],_::_,_,_,_,h0=>by simp [DataW.TrodVars] at h0
 | _::_,[],_,_,_,h0=>by simp [DataW.TrodVars] at h0
variable [Lam]
theorem change_of_pureV {f:FuncId} {F:Func} {s:ChangeSpec} {apart fresh handsOn again:Bool} {tb:TypeId} (K:Kids P (· < P.types.size)) (hz:∀ t e,t < P.types.size→P.underlying t=some (.slice e)→0 < P.cellsOf e)
  (hgt:∀ (g:Nat) x,P.globals[g]? = some x→x.type < P.types.size)
  (hres:F.resultTypes=#[tb]) (htb:P.underlying tb=some .bool) (hpar:∀ t∈F.params.toList,t < P.types.size)
  {W:World} {args:Array Value} {ds gs:List (DataW H)} {before:List MemPlace} (hW:DataW.Whole enc P F.params.toList s.vars apart W args.toList ds gs before)
  (hs1:(s.fn H (ds++gs)).results=[.lit (.bool true)]) (hs2:(s.fn H (ds++gs)).args=ds) (hs3:(s.fn H (ds++gs)).vars=gs)
  {vs:List V} (hrep:RepL (oldP W) [] W vs args.toList) (hlaid:Laid (oldP W) W) (hp:Pure P f vs (·=.bool true)) :
  Calls P f args W fun e W'=>∃ v,e=.returned v∧s.post enc P F apart fresh handsOn again W args v W':=by
 have hW':=hW
 obtain ⟨p',q,hA,hV,hpq,hnf,hnd⟩:=hW
 have hc:=hp.2 (Env.none P noY) (fun _=>False) (oldP W) [] W args.toList hrep ⟨rfl,fun k o g h=>by simp at h,fun k k' o o' g g' h=>by simp at h,fun b n h=>h,hlaid⟩ (Ext.nil _ _ _ _)
 refine hc.mono ?_
 rintro e W' ⟨o,st',γ',Pr',C',hr,⟨rfl,r,rfl,rfl⟩,hst,hmine,hext,hbase⟩
 cases hr with
 | ret hr =>
 cases hr
 refine ⟨_,rfl,?_⟩
 have hold:∀ b,b < W.heap.size→W'.heap[b]? = W.heap[b]? := fun b hb=>hbase.old b hb (fun ⟨k,o,h,_⟩=>by simp at h) (fun h=>h)
 have hlt:∀ p∈before,p.block < W.heap.size:=hW'.lt
 have hread:∀ (sp:Nat→Bool),(∀ p∈before,sp p.block=true)→DataW.TrodAll enc P W' 0 sp true F.params.toList args.toList ds p':=by
  intro sp hsp
  rw [hpq] at hsp hlt
  exact trodAll_old K hz hold hpar (fun p hp=>hlt p (List.mem_append_left _ hp)) (fun p hp=>hsp p (List.mem_append_left _ hp)) hA
 have hreadV:∀ (sp:Nat→Bool),(∀ p∈before,sp p.block=true)→DataW.TrodVars enc P W' sp s.vars gs q:=by
  intro sp hsp
  rw [hpq] at hsp hlt
  exact trodVars_old K hz hgt hold (fun p hp=>hlt p (List.mem_append_right _ hp)) (fun p hp=>hsp p (List.mem_append_right _ hp)) hV
 have hresd:∀ (b:Nat) (sp:Nat→Bool) (hd:Bool),DataW.TrodAll enc P W' b sp hd F.resultTypes.toList ((Value.bool true).resultList F.resultTypes.size) (s.fn H (ds++gs)).results []:=by
  intro b sp hd
  rw [hs1,hres]
  exact (trodAll_cons_mk (shut_bool htb _) trodAll_mk0)
 have hok:=ok_one (P:=P) (W':=W') (f:=F) (v:=.bool true) hres rfl (okWide_bool_mk htb _)
 have hold':∀ p∈before,(fun b=>decide (b < W.heap.size)) p.block=true:=fun p hp=>by simpa using hlt p hp
 have hkept:W.keptBut W' (fun p=>p∈before∧(p∈([]:List MemPlace)∨p∈p'∨p∈q)):=by
  refine ⟨hbase.os,hbase.output,fun i hi=>?_⟩
  rw [hold i hi]
  cases hh:W.heap[i]? with
  | none=>simp
  | some o=>cases o <;> simp
 refine ⟨ds,gs,before,[],p',q,hW',hresd _ _ _,?_,?_,hkept,fun _=>⟨hok,[.lit (.bool true)]++ds,gs,p'++q,⟨p',q,?_,hreadV _ (fun _ _=>rfl),rfl,?_,?_⟩,?_⟩⟩
 · rw [hs2]; exact hread _ hold'
 · rw [hs3]; exact hreadV _ hold'
 · have:=hresd 0 (fun _=>true) true
   rw [hs1] at this
   exact trodAll_append (hread _ (fun _ _=>rfl)) this
 · intro b off hp
   have:=hnf b off (by rw [hpq]; exact hp)
   unfold World.frozen? at this ⊢
   have hb:b < W.heap.size:=hlt (.cell b off) (by rw [hpq]; exact hp)
   simp only [hold b hb]
   exact this
 · intro ha
   rw [← hpq]; exact hnd ha
 · intro p hp _
   rw [hpq]; exact hp
omit [Lam] in
theorem trodVars_len {P:Program} {w:World} {sp:Nat→Bool}:∀ {ns:List String} {ds:List (DataW H)} {ps:List MemPlace},DataW.TrodVars enc P w sp ns ds ps→ds.length=ns.length
 | [],[],_,_=>rfl
 | [],_::_,_,h=>by simp [DataW.TrodVars] at h
 | _::_,[],_,h=>by simp [DataW.TrodVars] at h
 | _::_,_::_,_,⟨_,_,_,_,_,_,_,_,_,_,h,_⟩=>by simp [trodVars_len h]
theorem law_callsV {W:World} {f:FuncId} {F:Func} {s:ChangeSpec} {apart fresh handsOn again:Bool} {tb:TypeId} (K:Kids P (· < P.types.size)) (hz:∀ t e,t < P.types.size→P.underlying t=some (.slice e)→0 < P.cellsOf e)
  (hgt:∀ (g:Nat) x,P.globals[g]? = some x→x.type < P.types.size)
  (hres:F.resultTypes=#[tb]) (htb:P.underlying tb=some .bool) (hpar:∀ t∈F.params.toList,t < P.types.size)
  {args:Array Value} {ds gs:List (DataW H)} {before:List MemPlace} (hW:DataW.Whole enc P F.params.toList s.vars apart W args.toList ds gs before)
  (hs:∀ ds gs:List (DataW H),ds.length=F.params.toList.length→gs.length=s.vars.length→(s.fn H (ds++gs)).results=[.lit (.bool true)]∧(s.fn H (ds++gs)).args=ds∧(s.fn H (ds++gs)).vars=gs)
  {base:Nat} (hval:∀ (j:Nat) t v,F.params[j]? = some t→args[j]? = some v→Value.okWide P W .any base t v)
  {Ss:List (V→Prop)} (hlaid:Laid (oldP W) W) (hR:ReadsAll enc P W F.params.toList Ss) (hp:∀ xs,HoldAll Ss xs→Pure P f xs (·=.bool true)) :
  Calls P f args W fun e W'=>∃ v,e=.returned v∧s.post enc P F apart fresh handsOn again W args v W':=by
 have hW':=hW
 obtain ⟨p,q,hA,hV,rfl,hfz,hnd⟩:=hW'
 obtain ⟨xs,h1,h2⟩:=args_of hR hA (base:=base) fun j t v a b=>hval j t v (by simpa using a) (by simpa using b)
 obtain ⟨q1,q2,q3⟩:=hs ds gs (trodAll_len hA) (trodVars_len hV)
 exact change_of_pureV K hz hgt hres htb hpar hW q1 q2 q3 h2 hlaid (hp xs h1)
end Go.Cod
set_option linter.all false
namespace Go.Cod
open Go
variable [Lam]
end Go.Cod
set_option linter.all false
namespace Go.Cod
open Go
variable [Lam]
end Go.Cod
set_option linter.all false
namespace Go.Cod
open Go
variable [Lam] {P:Program} {ok:OkY} {τ:Tau}
end Go.Cod
namespace Go.Cod
open Go
variable [Lam]
variable {P:Program} {ok:OkY} {E:Env P ok} {w0:World} {mod:Nat→Prop} {γ0:List G} {Pr0:Nat→Nat→Prop} {C0:Nat→Prop} {nt:Nat} {ρ:Option Nat}
 {Pr Pr':Nat→Nat→Prop} {γ γ' γc:List G} {C C':Nat→Prop} {fr fr':Nat→V} {st st':St} {a a':Act} {w w':World}
end Go.Cod
set_option linter.all false
namespace Go.Cod
open Go
variable [Lam]
variable {P:Program}
end Go.Cod
namespace Go.Cod
open Go Go.RowKit
variable [Lam]
variable {P:Program}
omit [Lam] in
theorem cell_of_heap {w w':World} {b n:Nat} (h:w'.heap[b]? = w.heap[b]?):w'.cell? ⟨b,n,none⟩=w.cell? ⟨b,n,none⟩:=by
 simp only [World.cell?,h]
end Go.Cod
namespace Go.Cod
open Go Go.RowKit
variable [Lam]
variable {P:Program}
theorem full_of_below {ok:OkY} {f:FuncId} {xs:List V} {st0:St} {R:Out→St→Prop} (hc:Callable P f)
  (h:∀ (Pr:Nat→Nat→Prop) (γ:List G) (w:World) (cargs:List Value),RepL Pr γ w xs cargs→StOk Pr γ w st0→∃ r v,R (.ret r) st0∧(∀ w1:World,Rep Pr γ w1 r v)∧Calls P f cargs.toArray w fun e w'=>e=.returned v∧Below w.heap.size w w'):Full P ok f xs st0 R:=by
 refine ⟨hc,fun E C Pr γ w cargs hr hst hext=>?_⟩
 obtain ⟨r,v,hR,h1,h2⟩:=h Pr γ w cargs hr hst
 let fr:Nat→V:=fun _=>.raw undef
 let a:Act:={ tmps:=#[],defers:=[] }
 have hfr:∀ w,FrOk Pr γ w fr a 0:=fun w=>⟨Nat.zero_le _,fun t=>by
  show Rep Pr γ w (.raw undef) ((#[]:Array Value).getD t undef)
  have e:(#[]:Array Value).getD t undef=undef:=by simp [Array.getD]
  rw [e]
  exact .raw _⟩
 have A0:X P ok E w (modOf st0 γ) γ Pr C 0 none Pr γ C fr st0 a w :=
  ⟨fun k o g h1 h2 h3=>.inr ⟨k,own_owns h1 h2 (own_iff.2 (.inl h3))⟩,hext,hfr w,hst,⟨rfl,rfl,rfl,Nat.le_refl _,fun _ _ _ _=>rfl,fun _ _ h=>h,fun _ _ h=>.inl h,fun _ _ h=>h,fun _ _ _=>rfl,fun _ h=>h,fun _ h=>.inl h⟩⟩
 refine h2.mono ?_
 rintro e w' ⟨rfl,hB⟩
 have A:=A0.grown hB.os hB.tape hB.output hB.size (fun b hb=>hB.block b hb)
 exact ⟨.ret r,st0,γ,Pr,C,.ret (h1 _),hR,A.st,A.mine,A.ext,A.base⟩
end Go.Cod
namespace Go.Cod
open Go Go.RowKit
variable [Lam]
variable {P:Program}
end Go.Cod
namespace Go.Cod
open Go
variable [Lam]
def isIntV:V→Bool
 | .int _ _=>true
 | _=>false
def intRow (r:List V):Prop:=∀ x∈r,isIntV x=true
omit [Lam] in
theorem intRow.tail {x:V} {r:List V} (h:intRow (x::r)):intRow r:=fun y hy=>h y (List.mem_cons_of_mem _ hy)
omit [Lam] in
theorem intRow.head {x:V} {r:List V} (h:intRow (x::r)):∃ k n,x=.int k n:=by
 have:=h x (List.mem_cons_self ..)
 cases x <;> simp [isIntV] at this
 exact ⟨_,_,rfl⟩
omit [Lam] in
theorem intRow.shr (σ:List Nat) (kn:Bool) (st:St):∀ {r:List V},intRow r→shr.go σ kn st r=r
 | [],_=>rfl
 | x::r,h=>by
   obtain ⟨k,n,rfl⟩:=h.head
   simp only [Cod.shr.go,Cod.shr,intRow.shr σ kn st h.tail]
omit [Lam] in
theorem intRow.mapN (f:Nat→Nat):∀ {r:List V},intRow r→V.mapN.go f r=r
 | [],_=>rfl
 | x::r,h=>by
   obtain ⟨k,n,rfl⟩:=h.head
   simp only [V.mapN.go,V.mapN,intRow.mapN f h.tail]
omit [Lam] in
theorem intRow.owns:∀ {r:List V},intRow r→owns.go r=[]
 | [],_=>rfl
 | x::r,h=>by
   obtain ⟨k,n,rfl⟩:=h.head
   simp only [Cod.owns.go,Cod.owns,intRow.owns h.tail,List.append_nil]
omit [Lam] in
theorem intRow.under (m:Nat):∀ {r:List V},intRow r→V.under.underL m r=true
 | [],_=>rfl
 | x::r,h=>by
   obtain ⟨k,n,rfl⟩:=h.head
   simp only [V.under.underL,V.under,intRow.under m h.tail,Bool.and_self]
def boxI (row:List V) (wid:Nat):O:=⟨[row],wid,true,true,true,.cell⟩
theorem acall_ints {P:Program} {ok:OkY} {f:FuncId} {vs vs':List V} {row:List V} {wid:Nat} {kn:Bool} {K Z:V→St→Prop} (hr:intRow row)
  (hv:V.mapN.go (idx [0]) (shr.go [0] kn [boxI row wid] vs)=vs') (hu:V.under.underL 1 vs'=true) (hl:owns.go vs=[])
  (h:Full P noY f vs' [boxI row wid] fun out st'=>∃ v row',out=.ret v∧V.mapN (back [0] 1) v=v∧intRow row'∧st'=[boxI row' wid]∧K v [boxI row' wid]) :
  ACallG P ok f vs [boxI row wid] [0] kn K Z:=by
 have h1:handO [0] kn [boxI row wid] [0]=[boxI row wid]:=by
  simp only [handO,getO,List.getElem?_cons_zero,shrO,mapO,boxI,shrRows,mapRows,hr.shr,hr.mapN]
 have h2:lentN [0] [boxI row wid] vs=[]:=by
  simp only [lentN,lentO,getO,List.getElem?_cons_zero,ownsO,boxI,ownsRows,hr.owns,hl,List.append_nil,List.filter_nil]
 unfold ACallG
 refine Chk_iff.2 ⟨?_,?_⟩
 · rw [h1,hv]
   show ((decide [0].Nodup&&[0].all fun k=>decide (k < 1))&&V.under.underL 1 vs'&&((V.under.underL 1 row&&true)&&true))=true
   rw [hu,hr.under]
   rfl
 rw [h1,hv,h2]
 simp only [hasYld,boxI,Bool.or_false]
 refine h.mono ?_
 rintro o st' ⟨v,row',rfl,e1,e2,rfl,hk⟩
 simp only [onOut,List.length_singleton,e1,lend]
 have h3:backSt [0] [boxI row wid] [boxI row' wid]=[boxI row' wid]:=by
  simp only [backSt,List.length_singleton,List.take,List.drop,List.map_cons,List.map_nil,mapO,boxI,mapRows,e2.mapN,putAll,List.set_cons_zero,List.append_nil]
 have h4:backSt [0] [(⟨[row],wid,true,true,true,.cell⟩:O)] [boxI row' wid]=[boxI row' wid]:=h3
 rw [h4]
 exact hk
end Go.Cod
