import Derived.OpenShut
import Derived.JoinedOf
import Derived.Handed
import Derived.ProofKit
import Derived.WalkKit
import Derived.Test.YtbpdmhbplelplaaDoorCodE
set_option linter.all false
namespace Go.Cod
variable [Adr]
open Go Go.Proofs Go.ChangeShapes Go.WideShapes Go.ChangeAt Go.RowKit
set_option maxRecDepth 10000
def Stp.Dr (s:Stp):Prop:=s.node.Small∧s.node.size≤256∧s.text.length≤1000
def EdR (bs:List UInt8) (p k:Int) (o:Out) (st':St):Prop:=∃ (s:Stp) (p' k':Int),s.Dr∧p≤p'∧p'≤p+1000∧0≤k'∧k'≤k+1000∧o=.ret (.agg s.cells)∧st'=[rdO bs p',nxO k']
theorem noneS_small:(T.mk 0 [] [] []).Small:=.mk (by omega) (by simp) (by simp) (by simp) (by simp)
set_option maxHeartbeats 8000000 in
theorem l11Edit_full (bs:List UInt8) (hb:bs.length≤2000) (p k:Int) (p0:0≤p) (p1:p≤10000000) (k0:0≤k) (k1:k≤1000000) (t:T) (ht:t.Small) (hz:t.size≤600000) :
  Full Tryd.prog noY 70 [.ptr 0 0 0,.agg t.cells,.ptr 1 0 0] [rdO bs p,nxO k] (EdR bs p k):=by
 have hn:=T.ids_size t
 have hi:=l2Ids_pure t ht (by omega)
 have hl:(irows t.ids).length=t.ids.length:=by simp [irows]
 have hp:∀ (q n:Int),0≤q→q≤1073741824→Full Tryd.prog noY 28 [.ptr 0 0 0,.int .i64 n] [rdO bs q] fun o st'=>∃ m:Int,0≤m∧(1≤n→m < n)∧o=.ret (.int .i64 m)∧st'=[rdO bs (q+1)]:=fun q n h0 h1=>pick_full bs q n hb h0 h1
 have ho:∀ (q:Int) (ss:List (List UInt8)),0≤q→q≤1073741824→1≤ss.length→ss.length≤1048576→Full Tryd.prog noY 29 [.ptr 0 0 0,.sl (drows ss)] [rdO bs q] fun o st'=>∃ s∈ss,o=.ret (.str s)∧st'=[rdO bs (q+1)]:=fun q ss h0 h1 h2 h3=>of_full bs q ss hb h0 h1 h2 h3
 have hx:=fun q h0 h1=>l11Text_full bs q hb h0 h1
 have hT:=l11Tree_3 bs hb
 have hpos:=size_pos t
 have hg:∀ (m:Int),0≤m→m < t.ids.length→∃ x:Int,(irows t.ids)[m.toNat]? = some [.int .i64 x]:=fun m h0 h1=>by
  have:m.toNat < t.ids.length:=by omega
  exact ⟨t.ids[m.toNat],by simp [irows,this]⟩
 have hf:=fun x=>l2Find_pure t ht x
 have hfx:∀ x,∃ (s:T) (b:Bool),fR (fT t x)=.tup [.agg s.cells,.bool b]∧s.size≤600000:=fun x=>by
  cases h:fT t x with
  | none=>exact ⟨TZ,false,rfl,by simp [TZ,T.size,T.sizeL]⟩
  | some s=>exact ⟨s,true,rfl,by have:=fT_size t x s h; omega⟩
 have hkl:∀ s:T,s.size≤600000→s.kids.length≤600000:=fun s h=>by
  have h2:∀ ts:List T,ts.length≤T.sizeL ts:=length_le_sizeL
  have h3:=T.kids_size s
  have:=h2 s.kids
  omega
 generalize irows t.ids=rows at *
 generalize t.ids.length=n at *
 cases t with
 | mk id kind text kids =>
 refine full_of_awp good Tryd.func70 rfl (by kernel_rfl) (by decide) ?_
 conv=>whnf
 refine .inl (hi.mono ?_)
 rintro r rfl
 conv=>whnf
 refine ⟨[0],false,?_⟩
 conv=>whnf
 refine (hp p _ p0 (by omega)).mono ?_
 rintro o st' ⟨c,c0,c1,rfl,rfl⟩
 obtain ⟨x,hgx⟩:=hg c c0 (by have:=c1 (by omega); omega)
 conv=>whnf
 refine ⟨c0,_,_,1,rfl,hgx,rfl,rfl,?_⟩
 conv=>whnf
 refine .inl ((hf x).mono ?_)
 rintro r rfl
 obtain ⟨y,yb,hy1,hy2⟩:=hfx x
 rw [hy1]
 have hyk:=hkl y hy2
 cases y with
 | mk yid yk yt yks =>
 simp only [T.kids] at hyk
 have hyl:=Go.Cod.rows_len yks
 conv=>whnf
 refine ⟨[0],false,?_⟩
 conv=>whnf
 refine (hp (p+1) 7 (by omega) (by omega)).mono ?_
 rintro o st' ⟨d,d0,d1,rfl,rfl⟩
 conv=>whnf
 have hend:∀ (s:Stp) (p' k':Int),s.Dr→p≤p'→p'≤p+1000→0≤k'→k'≤k+1000→EdR bs p k (.ret (.agg s.cells)) [rdO bs p',nxO k']:=fun s p' k' h1 h2 h3 h4 h5=>⟨s,p',k',h1,h2,h3,h4,h5,rfl,rfl⟩
 have hsec:kSec∈kinds11:=by decide
 have hput:∀ (kd:List UInt8) (k':Int),kd∈kinds11→0≤k'→k'≤1000000→Full Tryd.prog noY 67 [.ptr 0 0 0,.str kd,.int .i64 3,.ptr 1 0 0] [rdO bs (p+1+1+1+1),nxO k'] (TreeR bs (p+1+1+1+1) k' 256):=fun kd k' h1 h2 h3=>hT (p+1+1+1+1) k' kd (by omega) (by omega) h2 (by omega) h1
 have hw:90 < k.tmod 100→IntKind.i64.wrap (k - 50)=k - 50∧0≤k - 50:=fun h3=>by
  have h5:k.tmod 100≤k:=by rw [Int.tmod_eq_emod_of_nonneg k0]; omega
  exact ⟨wrap64 (by omega) (by omega),by omega⟩
 have hw0:90 < k.tmod 100→0≤k - 50:=fun h=>(hw h).2
 have hsec:kSec∈kinds11:=by decide
 have hput:∀ (kd:List UInt8) (k':Int),kd∈kinds11→0≤k'→k'≤1000000→Full Tryd.prog noY 67 [.ptr 0 0 0,.str kd,.int .i64 3,.ptr 1 0 0] [rdO bs (p+1+1+1+1),nxO k'] (TreeR bs (p+1+1+1+1) k' 256):=fun kd k' h1 h2 h3=>hT (p+1+1+1+1) k' kd (by omega) (by omega) h2 (by omega) h1
 have hw:90 < k.tmod 100→IntKind.i64.wrap (k - 50)=k - 50∧0≤k - 50:=fun h3=>by
  have h5:k.tmod 100≤k:=by rw [Int.tmod_eq_emod_of_nonneg k0]; omega
  exact ⟨wrap64 (by omega) (by omega),by omega⟩
 have hw0:90 < k.tmod 100→0≤k - 50:=fun h=>(hw h).2
 by_cases e0:d=0
 · rw [eqB_t e0]
   conv=>whnf
   refine ⟨[0],false,?_⟩
   conv=>whnf
   refine (ho (p+1+1) [[112,97,114],[112,97,114],[115,101,99],[110,111,116,101],[116,105,116,108,101]] (by omega) (by omega) (by simp) (by simp)).mono ?_
   rintro o st' ⟨kd,hkd,rfl,rfl⟩
   have hkd:kd∈kinds11:=by
    simp only [List.mem_cons,List.not_mem_nil,or_false] at hkd
    simp only [kinds11,kPar,kSec,kNote,kTitle,List.mem_cons,List.not_mem_nil,or_false]
    rcases hkd with rfl | rfl | rfl | rfl | rfl <;> simp
   conv=>whnf
   by_cases hdoc:yk=[100,111,99]
   case' pos =>
    rw [eqS_t hdoc]
    conv=>whnf
   case' neg =>
    rw [eqS_f hdoc]
    conv=>whnf
   all_goals
    refine ⟨by omega,?_⟩
    conv=>whnf
    by_cases hm:90 < k.tmod 100
    · rw [ltB_t hm]
      conv=>whnf
      rw [(hw hm).1]
      refine ⟨[0],false,?_⟩
      conv=>whnf
      refine (hp (p+1+1+1) _ (by omega) (by omega)).mono ?_
      rintro o st' ⟨c,c0,c1,rfl,rfl⟩
      conv=>whnf
      refine ⟨[0,1],false,?_⟩
      conv=>whnf
      first
       | refine (hput kSec (k - 50) hsec (by first | omega | exact hw0 hm) (by omega)).mono ?_
       | refine (hput kd (k - 50) hkd (by first | omega | exact hw0 hm) (by omega)).mono ?_
      rintro o st' ⟨nt,p',k',n1,n2,n3,n4,n5,n6,rfl,rfl⟩
      rcases nt with ⟨ni,nk,nx,nks⟩
      conv=>whnf
      refine ⟨[],false,?_⟩
      conv=>whnf
      exact hend ⟨1,x,c,.mk ni nk nx nks,[]⟩ p' k' ⟨n1,by show (T.mk ni nk nx nks).size≤256; omega,by simp⟩ (by omega) (by omega) (by omega) (by omega)
    · rw [ltB_f (by omega)]
      conv=>whnf
      refine ⟨[0],false,?_⟩
      conv=>whnf
      refine (hp (p+1+1+1) _ (by omega) (by omega)).mono ?_
      rintro o st' ⟨c,c0,c1,rfl,rfl⟩
      conv=>whnf
      refine ⟨[0,1],false,?_⟩
      conv=>whnf
      first
       | refine (hput kSec k hsec (by first | omega | exact hw0 hm) (by omega)).mono ?_
       | refine (hput kd k hkd (by first | omega | exact hw0 hm) (by omega)).mono ?_
      rintro o st' ⟨nt,p',k',n1,n2,n3,n4,n5,n6,rfl,rfl⟩
      rcases nt with ⟨ni,nk,nx,nks⟩
      conv=>whnf
      refine ⟨[],false,?_⟩
      conv=>whnf
      exact hend ⟨1,x,c,.mk ni nk nx nks,[]⟩ p' k' ⟨n1,by show (T.mk ni nk nx nks).size≤256; omega,by simp⟩ (by omega) (by omega) (by omega) (by omega)
 rw [eqB_f e0]
 conv=>whnf
 by_cases e1:d=1
 · rw [eqB_t e1]
   conv=>whnf
   refine ⟨[0],false,?_⟩
   conv=>whnf
   refine (ho (p+1+1) [[112,97,114],[112,97,114],[115,101,99],[110,111,116,101],[116,105,116,108,101]] (by omega) (by omega) (by simp) (by simp)).mono ?_
   rintro o st' ⟨kd,hkd,rfl,rfl⟩
   have hkd:kd∈kinds11:=by
    simp only [List.mem_cons,List.not_mem_nil,or_false] at hkd
    simp only [kinds11,kPar,kSec,kNote,kTitle,List.mem_cons,List.not_mem_nil,or_false]
    rcases hkd with rfl | rfl | rfl | rfl | rfl <;> simp
   conv=>whnf
   by_cases hdoc:yk=[100,111,99]
   case' pos =>
    rw [eqS_t hdoc]
    conv=>whnf
   case' neg =>
    rw [eqS_f hdoc]
    conv=>whnf
   all_goals
    refine ⟨by omega,?_⟩
    conv=>whnf
    by_cases hm:90 < k.tmod 100
    · rw [ltB_t hm]
      conv=>whnf
      rw [(hw hm).1]
      refine ⟨[0],false,?_⟩
      conv=>whnf
      refine (hp (p+1+1+1) _ (by omega) (by omega)).mono ?_
      rintro o st' ⟨c,c0,c1,rfl,rfl⟩
      conv=>whnf
      refine ⟨[0,1],false,?_⟩
      conv=>whnf
      first
       | refine (hput kSec (k - 50) hsec (by first | omega | exact hw0 hm) (by omega)).mono ?_
       | refine (hput kd (k - 50) hkd (by first | omega | exact hw0 hm) (by omega)).mono ?_
      rintro o st' ⟨nt,p',k',n1,n2,n3,n4,n5,n6,rfl,rfl⟩
      rcases nt with ⟨ni,nk,nx,nks⟩
      conv=>whnf
      refine ⟨[],false,?_⟩
      conv=>whnf
      exact hend ⟨1,x,c,.mk ni nk nx nks,[]⟩ p' k' ⟨n1,by show (T.mk ni nk nx nks).size≤256; omega,by simp⟩ (by omega) (by omega) (by omega) (by omega)
    · rw [ltB_f (by omega)]
      conv=>whnf
      refine ⟨[0],false,?_⟩
      conv=>whnf
      refine (hp (p+1+1+1) _ (by omega) (by omega)).mono ?_
      rintro o st' ⟨c,c0,c1,rfl,rfl⟩
      conv=>whnf
      refine ⟨[0,1],false,?_⟩
      conv=>whnf
      first
       | refine (hput kSec k hsec (by first | omega | exact hw0 hm) (by omega)).mono ?_
       | refine (hput kd k hkd (by first | omega | exact hw0 hm) (by omega)).mono ?_
      rintro o st' ⟨nt,p',k',n1,n2,n3,n4,n5,n6,rfl,rfl⟩
      rcases nt with ⟨ni,nk,nx,nks⟩
      conv=>whnf
      refine ⟨[],false,?_⟩
      conv=>whnf
      exact hend ⟨1,x,c,.mk ni nk nx nks,[]⟩ p' k' ⟨n1,by show (T.mk ni nk nx nks).size≤256; omega,by simp⟩ (by omega) (by omega) (by omega) (by omega)
 rw [eqB_f e1]
 conv=>whnf
 by_cases e2:d=2
 · rw [eqB_t e2]
   conv=>whnf
   refine ⟨[],false,?_⟩
   conv=>whnf
   exact hend ⟨2,x,0,.mk 0 [] [] [],[]⟩ _ k ⟨noneS_small,by simp [T.size,T.sizeL],by simp⟩ (by omega) (by omega) (by omega) (by omega)
 rw [eqB_f e2]
 conv=>whnf
 by_cases e3:d=3
 · rw [eqB_t e3]
   conv=>whnf
   refine ⟨[0],false,?_⟩
   conv=>whnf
   refine (hp (p+1+1) 3 (by omega) (by omega)).mono ?_
   rintro o st' ⟨c,c0,c1,rfl,rfl⟩
   conv=>whnf
   by_cases e4:c=0
   · rw [eqB_t e4]
     conv=>whnf
     refine ⟨[0],false,?_⟩
     conv=>whnf
     refine (ho (p+1+1+1) [[112,97,114],[110,111,116,101],[115,101,99],[116,105,116,108,101],[120]] (by omega) (by omega) (by simp) (by simp)).mono ?_
     rintro o st' ⟨kd,hkd,rfl,rfl⟩
     have hkl:kd.length≤1000:=by
      simp only [List.mem_cons,List.not_mem_nil,or_false] at hkd
      rcases hkd with rfl | rfl | rfl | rfl | rfl <;> decide
     conv=>whnf
     refine ⟨[],false,?_⟩
     conv=>whnf
     exact hend ⟨4,x,0,.mk 0 [] [] [],kd⟩ _ k ⟨noneS_small,by simp [T.size,T.sizeL],hkl⟩ (by omega) (by omega) (by omega) (by omega)
   · rw [eqB_f e4]
     conv=>whnf
     refine ⟨[0],false,?_⟩
     conv=>whnf
     refine (hx (p+1+1+1) (by omega) (by omega)).mono ?_
     rintro o st' ⟨tx,htx,rfl,rfl⟩
     conv=>whnf
     refine ⟨[],false,?_⟩
     conv=>whnf
     exact hend ⟨3,x,0,.mk 0 [] [] [],tx⟩ _ k ⟨noneS_small,by simp [T.size,T.sizeL],by simp only; omega⟩ (by omega) (by omega) (by omega) (by omega)
 · rw [eqB_f e3]
   conv=>whnf
   refine ⟨[0],false,?_⟩
   conv=>whnf
   refine (hx (p+1+1) (by omega) (by omega)).mono ?_
   rintro o st' ⟨tx,htx,rfl,rfl⟩
   conv=>whnf
   refine ⟨[],false,?_⟩
   conv=>whnf
   exact hend ⟨3,x,0,.mk 0 [] [] [],tx⟩ _ k ⟨noneS_small,by simp [T.size,T.sizeL],by simp only; omega⟩ (by omega) (by omega) (by omega) (by omega)
end Go.Cod
set_option linter.all false
namespace Go.Cod
variable [Adr]
open Go Go.Proofs Go.ChangeShapes Go.WideShapes Go.ChangeAt Go.RowKit
set_option maxRecDepth 10000
end Go.Cod
set_option linter.all false
namespace Go.Cod
variable [Adr]
open Go Go.Proofs
set_option maxRecDepth 10000
mutual
def T.hd:T→List (Int × List UInt8 × List UInt8)
 | .mk id kind text kids=>(id,kind,text)::T.hdL kids
def T.hdL:List T→List (Int × List UInt8 × List UInt8)
 | []=>[]
 | t::ts=>t.hd++T.hdL ts
end
end Go.Cod
set_option linter.all false
namespace Go.Cod
variable [Adr]
open Go Go.Proofs
set_option maxRecDepth 10000
def Stp.Sm (s:Stp):Prop:=s.node.Small∧s.node.size≤1048577∧s.text.length≤1048576
end Go.Cod
set_option linter.all false
namespace Go.Cod
variable [Adr]
open Go Go.Proofs
set_option maxRecDepth 10000
def T.Even (t:T):Prop:=∀ (x:Int) (s:T) (n:Nat),fT t x=some s→n≤s.kids.length→t.PutOk x n
def EvenL (ts:List T):Prop:=∀ (x:Int) (s:T) (n:Nat),fL ts x=some s→n≤s.kids.length→T.PutOkL x n ts
theorem even_nodup {t:T} (hn:t.ids.Nodup):t.Even:=fun x s n h1 h2=>putOk_found x n t s hn h1 h2
theorem evenL_nodup {ts:List T} (hn:(T.idsL ts).Nodup):EvenL ts:=fun x s n h1 h2=>putOkL_found x n ts s hn h1 h2
theorem even_mk {id:Int} {kind text:List UInt8} {kids:List T} (h:∀ (x:Int) (s:T) (n:Nat),x≠id→fL kids x=some s→n≤s.kids.length→T.PutOkL x n kids):(T.mk id kind text kids).Even:=by
 intro x s n h1 h2
 simp only [fT] at h1
 simp only [T.PutOk]
 by_cases e:id=x
 · rw [if_pos e] at h1 ⊢
   cases h1
   exact h2
 · rw [if_neg e] at h1 ⊢
   exact h x s n (Ne.symm e) h1 h2
theorem fL_append (a b:List T) (x:Int):fL (a++b) x=match fL a x with
  | some s=>some s
  | none=>fL b x:=by
 induction a with
 | nil=>rfl
 | cons t a ih =>
   simp only [List.cons_append,fL,ih]
   cases fT t x <;> rfl
theorem putOkL_append {x:Int} {n:Nat} {a b:List T} (ha:T.PutOkL x n a) (hb:T.PutOkL x n b):T.PutOkL x n (a++b):=by
 induction a with
 | nil=>exact hb
 | cons t a ih=>exact ⟨ha.1,ih ha.2⟩
def Spec (i:Int):Prop:=i < 2∨20≤i
theorem wide_ids:∀ i:Nat,∀ x∈T.idsL (wideN i),600≤x
 | 0,x,h=>by simp [wideN,T.idsL] at h
 | i+1,x,h=>by
   rw [wideN,idsL_snoc] at h
   rcases List.mem_append.1 h with h | h
   · exact wide_ids i x h
   · simp [T.ids,T.idsL] at h; omega
theorem deep_ids (t:T):∀ i:Nat,∀ x∈(deepN t i).ids,x∈t.ids∨500≤x
 | 0,x,h=>.inl h
 | i+1,x,h=>by
   simp only [deepN,T.ids,T.idsL,List.mem_cons,List.append_nil] at h
   rcases h with h | h
   · right; omega
   · exact deep_ids t i x h
theorem spoil_ids {t t':T} (h:SpoilOf t t'):∀ x∈t'.ids,x∈t.ids∨Spec x:=by
 induction h with
 | @kid id kind text kids i hi t' hs ih =>
   intro x hx
   simp only [T.ids,List.mem_cons] at hx ⊢
   rcases hx with hx | hx
   · exact .inl (.inl hx)
   · have:∀ (ks:List T) (j:Nat) (hj:j < ks.length),(∀ y∈t'.ids,y∈ks[j].ids∨Spec y)→∀ y∈T.idsL (ks.set j t'),y∈T.idsL ks∨Spec y:=by
      intro ks
      induction ks with
      | nil=>intro j hj; simp at hj
      | cons k ks ihk =>
        intro j hj hh y hy
        cases j with
        | zero =>
          simp only [List.set_cons_zero,T.idsL,List.mem_append] at hy ⊢
          rcases hy with hy | hy
          · exact (hh y hy).imp .inl _root_.id
          · exact .inl (.inr hy)
        | succ j =>
          simp only [List.set_cons_succ,T.idsL,List.mem_append] at hy ⊢
          rcases hy with hy | hy
          · exact .inl (.inl hy)
          · exact (ihk j (by simpa using hj) hh y hy).imp .inr _root_.id
     exact (this kids i hi ih x hx).imp .inr _root_.id
 | id z hz =>
   intro x hx
   simp only [T.ids,List.mem_cons] at hx ⊢
   rcases hx with rfl | hx
   · right; unfold Spec; omega
   · exact .inl (.inr hx)
 | word k' x'=>exact fun x hx=>.inl hx
 | @twice id kind text kids =>
   intro x hx
   simp only [T.ids,idsL_snoc,List.mem_cons,List.mem_append] at hx ⊢
   rcases hx with hx | hx | hx | hx
   · exact .inl (.inl hx)
   · exact .inl (.inr hx)
   · exact .inl (.inl hx)
   · exact .inl (.inr hx)
 | @deep t =>
   intro x hx
   rcases deep_ids t 6 x hx with h | h
   · exact .inl h
   · right; unfold Spec; omega
 | @wide id kind text kids =>
   intro x hx
   simp only [T.ids,T.idsL_append,List.mem_cons,List.mem_append] at hx ⊢
   rcases hx with hx | hx | hx
   · exact .inl (.inl hx)
   · exact .inl (.inr hx)
   · have:=wide_ids 20 x hx
     right; unfold Spec; omega
theorem wide_put (x:Int):∀ (i:Nat) (n:Nat),n≤0→T.PutOkL x n (wideN i)
 | 0,_,_=>trivial
 | i+1,n,h=>by
   rw [wideN]
   refine putOkL_append (wide_put x i n h) ⟨?_,trivial⟩
   simp only [T.PutOk]
   split
   · omega
   · trivial
theorem wide_kids:∀ (i:Nat) (x:Int) (s:T),fL (wideN i) x=some s→s.kids=[]
 | 0,x,s,h=>by simp [wideN,fL] at h
 | i+1,x,s,h=>by
   rw [wideN,fL_append] at h
   cases h1:fL (wideN i) x with
   | some s' =>
     rw [h1] at h
     cases h
     exact wide_kids i x s h1
   | none =>
     rw [h1] at h
     simp only [fL,fT] at h
     split at h
     · rename_i s' h2
       split at h2
       · cases h2; cases h; rfl
       · cases h2
     · cases h
theorem deep_even (t:T) (ht:t.Even) (hl:∀ x∈t.ids,x < 500):∀ i:Nat,(deepN t i).Even
 | 0=>ht
 | i+1=>by
   refine even_mk fun x s n hne h1 h2=>?_
   simp only [fL] at h1
   have:fT (deepN t i) x=some s:=by
    cases h3:fT (deepN t i) x with
    | some s'=>rw [h3] at h1; exact h1
    | none=>rw [h3] at h1; cases h1
   exact ⟨deep_even t ht hl i x s n this h2,trivial⟩
theorem idsL_get:∀ (l:List T) (i:Nat) (hi:i < l.length),(T.idsL l).Nodup→l[i].ids.Nodup∧∀ y∈l[i].ids,y∈T.idsL l
 | [],i,hi,_=>by simp at hi
 | t::l,0,_,hn=>by
   simp only [T.idsL,List.nodup_append] at hn
   exact ⟨hn.1,fun y hy=>by simp only [T.idsL,List.mem_append]; exact .inl hy⟩
 | t::l,i+1,hi,hn=>by
   simp only [T.idsL,List.nodup_append] at hn
   have:=idsL_get l i (by simpa using hi) hn.2.1
   exact ⟨this.1,fun y hy=>by simp only [T.idsL,List.mem_append]; exact .inr (this.2 y hy)⟩
theorem kids_ids {t:T} {x:Int} (h:x∈T.idsL t.kids):x∈t.ids:=by
 cases t
 simp only [T.ids,List.mem_cons]
 exact .inr h
theorem id_ids (t:T):t.id∈t.ids:=by
 cases t
 simp only [T.ids,List.mem_cons]
 exact .inl rfl
theorem spoil_even {t t':T} (h:SpoilOf t t'):t.ids.Nodup→(∀ x∈T.idsL t.kids,2≤x∧x < 20)→t.id < 500→t'.Even:=by
 induction h with
 | @kid id kind text kids i hi t' hs ih =>
   intro hn hr2 _
   have hids:=spoil_ids hs
   simp only [T.ids,List.nodup_cons] at hn
   have hg:=idsL_get kids i hi hn.2
   have hr3:∀ x∈T.idsL kids,2≤x∧x < 20:=hr2
   have he:=ih hg.1 (fun x h=>hr3 x (hg.2 x (kids_ids h))) (by have:=hr3 _ (hg.2 _ (id_ids kids[i])); omega)
   refine even_mk fun x s n hne=>?_
   have key:∀ (ks:List T) (j:Nat) (hj:j < ks.length),(T.idsL ks).Nodup→(∀ y∈t'.ids,y∈ks[j].ids∨Spec y)→t'.Even→(∀ y∈T.idsL ks,y=x→¬ Spec x∨x∉t'.ids∨y∈ks[j].ids) →
     fL (ks.set j t') x=some s→n≤s.kids.length→T.PutOkL x n (ks.set j t'):=by
    intro ks
    induction ks with
    | nil=>intro j hj; simp at hj
    | cons k ks ihk =>
      intro j hj hkn hh he hs1 h1 h2
      simp only [T.idsL,List.nodup_append] at hkn
      cases j with
      | zero =>
        simp only [List.set_cons_zero,fL] at h1 ⊢
        simp only [List.getElem_cons_zero] at hh hs1
        cases h3:fT t' x with
        | some s' =>
          rw [h3] at h1
          cases h1
          have hx:x∈t'.ids:=Decidable.byContradiction fun hc=>by rw [(fT_none t' x).2 hc] at h3; cases h3
          refine ⟨he x s n h3 h2,putOkL_none x n ks fun hks=>?_⟩
          rcases hh x hx with h | h
          · exact hkn.2.2 x h x hks rfl
          · rcases hs1 x (by simp [T.idsL,hks]) rfl with h4 | h4 | h4
            · exact h4 h
            · exact h4 hx
            · exact hkn.2.2 x h4 x hks rfl
        | none =>
          rw [h3] at h1
          exact ⟨putOk_none x n t' ((fT_none t' x).1 h3),evenL_nodup hkn.2.1 x s n h1 h2⟩
      | succ j =>
        simp only [List.set_cons_succ,fL] at h1 ⊢
        simp only [List.getElem_cons_succ] at hh hs1
        have hj':j < ks.length:=by simpa using hj
        have hkj:∀ y∈ks[j].ids,y∈T.idsL ks:=by
         intro y hy
         have:∀ (l:List T) (i:Nat) (hi:i < l.length),y∈l[i].ids→y∈T.idsL l:=by
          intro l
          induction l with
          | nil=>intro i hi; simp at hi
          | cons a l ihl =>
            intro i hi h
            simp only [T.idsL,List.mem_append]
            cases i with
            | zero=>exact .inl h
            | succ i=>exact .inr (ihl i (by simpa using hi) h)
         exact this ks j hj' hy
        cases h3:fT k x with
        | some s' =>
          rw [h3] at h1
          cases h1
          have hx:x∈k.ids:=Decidable.byContradiction fun hc=>by rw [(fT_none k x).2 hc] at h3; cases h3
          refine ⟨putOk_found x n k s hkn.1 h3 h2,putOkL_none x n _ fun hks=>?_⟩
          have hxk:x∉T.idsL ks:=fun h=>hkn.2.2 x hx x h rfl
          have hmem:x∈t'.ids∨x∈T.idsL ks:=by
           have:∀ (l:List T) (i:Nat),x∈T.idsL (l.set i t')→x∈t'.ids∨x∈T.idsL l:=by
            intro l
            induction l with
            | nil=>intro i h; simp [T.idsL] at h
            | cons a l ihl =>
              intro i h
              cases i with
              | zero =>
                simp only [List.set_cons_zero,T.idsL,List.mem_append] at h ⊢
                exact h.imp _root_.id .inr
              | succ i =>
                simp only [List.set_cons_succ,T.idsL,List.mem_append] at h ⊢
                rcases h with h | h
                · exact .inr (.inl h)
                · exact (ihl i h).imp _root_.id .inr
           exact this ks j hks
          rcases hmem with h | h
          · rcases hs1 x (by simp [T.idsL,hx]) rfl with h4 | h4 | h4
            · rcases hh x h with h5 | h5
              · exact hxk (hkj x h5)
              · exact h4 h5
            · exact h4 h
            · exact hxk (hkj x h4)
          · exact hxk h
        | none =>
          rw [h3] at h1
          exact ⟨putOk_none x n k ((fT_none k x).1 h3),ihk j hj' hkn.2.1 hh he (fun y hy=>hs1 y (by simp [T.idsL,hy])) h1 h2⟩
   exact fun h1 h2=>key kids i hi hn.2 hids he (fun y hy e=>.inl (by subst e; unfold Spec; have:=hr3 y hy; omega)) h1 h2
 | @id id kind text kids z hz =>
   intro hn _ _
   simp only [T.ids,List.nodup_cons] at hn
   exact even_mk fun x s n _ h1 h2=>evenL_nodup hn.2 x s n h1 h2
 | @word id kind text kids k' x' =>
   intro hn _ _
   simp only [T.ids,List.nodup_cons] at hn
   exact even_mk fun x s n _ h1 h2=>evenL_nodup hn.2 x s n h1 h2
 | @twice id kind text kids =>
   intro hn _ _
   simp only [T.ids,List.nodup_cons] at hn
   refine even_mk fun x s n hne h1 h2=>?_
   rw [fL_append] at h1
   cases h3:fL kids x with
   | some s' =>
     rw [h3] at h1
     cases h1
     have:=evenL_nodup hn.2 x s n h3 h2
     refine putOkL_append this ⟨?_,trivial⟩
     simp only [T.PutOk]
     rw [if_neg (Ne.symm hne)]
     exact this
   | none =>
     rw [h3] at h1
     have hx:=(fL_none kids x).1 h3
     simp only [fL,fT,if_neg (Ne.symm hne),h3] at h1
     cases h1
 | @deep t =>
   intro hn hr h5
   refine deep_even t (even_nodup hn) (fun x h=>?_) 6
   cases t with
   | mk id kind text kids =>
   simp only [T.ids,List.mem_cons] at h
   rcases h with rfl | h
   · exact h5
   · have:=hr x h; omega
 | @wide id kind text kids =>
   intro hn hr _
   simp only [T.ids,List.nodup_cons] at hn
   refine even_mk fun x s n hne h1 h2=>?_
   rw [fL_append] at h1
   cases h3:fL kids x with
   | some s' =>
     rw [h3] at h1
     cases h1
     have hx:x∈T.idsL kids:=Decidable.byContradiction fun hc=>by rw [(fL_none kids x).2 hc] at h3; cases h3
     refine putOkL_append (evenL_nodup hn.2 x s n h3 h2) (putOkL_none x n _ fun h=>?_)
     have:=wide_ids 20 x h
     have:=hr x hx
     omega
   | none =>
     rw [h3] at h1
     have h4:=wide_kids 20 x s h1
     rw [h4] at h2
     exact putOkL_append (putOkL_none x n kids ((fL_none kids x).1 h3)) (wide_put x 20 n h2)
theorem drawn_even {t:T} (h:Drawn t):t.Even:=by
 obtain ⟨t0,h1,h2,h3,_,rfl | h4⟩:=h
 · exact even_nodup h1
 · refine spoil_even h4 h1 (fun x hx=>?_) (by omega)
   have h5:=h2 x (kids_ids hx)
   have:x≠1:=fun e=>by
    cases t0 with
    | mk id kind text kids =>
    simp only [T.ids,List.nodup_cons] at h1
    have h3:id=1:=h3
    exact h1.1 (by rw [h3,← e]; exact hx)
   omega
theorem nodup_len:∀ (n:Nat) (l:List Int) (lo:Int),l.Nodup→(∀ i∈l,lo≤i∧i < lo+n)→l.length≤n
 | 0,l,lo,_,h=>by
   cases l with
   | nil=>simp
   | cons a l=>have:=h a (List.mem_cons_self ..); omega
 | n+1,l,lo,hn,h=>by
   have:=nodup_len n (l.erase (lo+n)) lo (hn.erase _) fun i hi=>by
    obtain ⟨h1,h2⟩:=hn.mem_erase_iff.1 hi
    have:=h i h2
    omega
   rw [List.length_erase] at this
   split at this <;> omega
theorem drawn_size {t:T} (h:Drawn t):t.size≤60:=by
 obtain ⟨t0,h1,h2,h3,h4,_⟩:=h
 have:=nodup_len 19 t0.ids 1 h1 fun i hi=>by have:=h2 i hi; omega
 rw [T.ids_size] at this
 omega
end Go.Cod
set_option linter.all false
namespace Go.Cod
variable [Adr]
open Go Go.Proofs
set_option maxRecDepth 10000
set_option maxHeartbeats 4000000 in
theorem l4Do_even (t:T) (s:Stp) (ht:t.Small) (hz:t.size≤10000) (hn:t.Even) (hs:s.node.Small) (hsz:s.node.size≤1048577) (htx:s.text.length≤1048576) :
  Pure Tryd.prog 69 [.agg t.cells,.agg s.cells] (·=doR t (doT t s)):=by
 have f1:=l2Find_pure t ht s.id
 have f2:=l4Bare_pure s
 have f3:=specTreeOk_pure s.node hs (by rw [T.ids_size]; exact hsz)
 have f4:∀ x:T,fT t s.id=some x→s.at_.toNat≤x.kids.length→Pure Tryd.prog 92 [.agg t.cells,.int .i64 s.id,.int .i64 s.at_.toNat,.agg s.node.cells] (·=.agg (t.mapAt s.id (putKidT s.at_.toNat s.node)).cells):=fun x h1 h2=>l4Put_pure t ht s.id s.at_.toNat s.node (hn s.id x s.at_.toNat h1 h2)
 have f5:=l4Cut_pure t ht s.id
 have f6:=l4Set_pure t ht s.id
 have f7:∀ y:T,y.Small→y.size≤1048577→Pure Tryd.prog 14 [.agg y.cells] (·=.bool (okT y)):=fun y h1 h2=>specTreeOk_pure y h1 (by rw [T.ids_size]; exact h2)
 have z1:∀ x,okT s.node=true→(t.mapAt s.id (putKidT x s.node)).Small∧(t.mapAt s.id (putKidT x s.node)).size≤1048577:=fun x h=>by
  have hk:=okT_size h
  refine ⟨T.mapAt_small _ _ 1000000 (fun y h1 _ h2=>putKidT_small x s.node y h1 hs h2) t ht (by omega),?_⟩
  have:=T.mapAt_size s.id (putKidT x s.node) 20 (fun y=>by rw [putKidT_size]; omega) t
  omega
 have z2:=T.cut_small s.id t ht
 have z3:∀ k w:List UInt8,k.length≤1048576→w.length≤1048576→(t.mapAt s.id (setT k w)).Small∧(t.mapAt s.id (setT k w)).size≤1048577:=fun k w h1 h2=>by
  refine ⟨T.mapAt_small _ _ 1000000 (fun y h _ _=>setT_small k w y h h1 h2) t ht (by omega),?_⟩
  have:=T.mapAt_size s.id (setT k w) 0 (fun y=>by rw [setT_size]; omega) t
  omega
 have hsm:=fun x=>fT_small t s.id ht x
 have hed:editT t s=match fT t s.id with
  | none=>none
  | some x=>if bareT s=false then none else
    if s.kind=1 then (if 0≤s.at_∧s.at_≤x.kids.length∧okT s.node=true then some (t.mapAt s.id (putKidT s.at_.toNat s.node)) else none)
    else if s.kind=2 then (if s.id=t.id then none else some (t.cut s.id))
    else if s.kind=3 then some (t.mapAt s.id (setT x.kind s.text))
    else if s.kind=4 then some (t.mapAt s.id (setT s.text x.text))
    else none:=rfl
 have d0:editT t s=none→doT t s=none:=doT_none
 have d1:∀ y,editT t s=some y→doT t s=okO y:=fun y=>doT_some
 generalize doT t s=d at *
 generalize editT t s=e at *
 generalize fT t s.id=f at *
 generalize bareT s=b at *
 cases s with
 | mk kind sid at_ node text =>
 simp only at f1 f3 f4 f5 f6 z1 z2 z3 hed hs hsz htx hsm
 generalize T.cut sid t=tc at *
 generalize hset:(fun k w=>T.mapAt sid (setT k w) t)=ts at *
 have hset:∀ k w,T.mapAt sid (setT k w) t=ts k w:=fun k w=>by rw [← hset]
 simp only [hset] at f6 z3 hed
 generalize hput:T.mapAt sid (putKidT at_.toNat node) t=tp at *
 have zp:okT node=true→tp.Small∧tp.size≤1048577:=fun h=>hput ▸ z1 at_.toNat h
 clear hset hput z1
 generalize okT node=okn at *
 have hend:∀ y:T,e=some y→y.Small→y.size≤1048577→Pure Tryd.prog 14 [.agg y.cells] (·=.bool (okT y))∧d=okO y:=fun y h1 h2 h3=>⟨f7 y h2 h3,d1 y h1⟩
 clear f7 d1
 have hok:∀ y:T,e=some y→d=okO y→doR t d=if okT y=true then .tup [.agg y.cells,.bool true] else .tup [.agg t.cells,.bool false]:=fun y _ h=>by
  rw [h]; unfold okO
  split <;> rfl
 simp only [Stp.cells] at f2 ⊢
 have hbig:∀ y:T,y.Small→y.size≤1048577→e=some y→d=okO y∧Pure Tryd.prog 14 [.agg y.cells] (·=.bool (okT y)):=fun y h1 h2 h3=>⟨(hend y h3 h1 h2).2,(hend y h3 h1 h2).1⟩
 clear hend
 cases t with
 | mk tid tk tx tks =>
 cases node with
 | mk nid nk nx nks =>
 refine pure_of_awp good Tryd.func69 rfl (by kernel_rfl) (by decide) ?_
 conv=>whnf
 refine .inl (f1.mono ?_)
 rintro r rfl
 cases f with
 | none =>
   conv=>whnf
   rw [d0 hed]
   rfl
 | some x =>
   cases x with
   | mk xid xk xx xks =>
   conv=>whnf
   refine .inl (f2.mono ?_)
   rintro r rfl
   cases b with
   | false =>
     conv=>whnf
     rw [d0 hed]
     rfl
   | true =>
     simp only [Bool.true_eq_false,if_false] at hed
     conv=>whnf
     by_cases k1:kind=1
     · rw [if_pos k1] at hed
       rw [eqB_t k1]
       conv=>whnf
       refine .inl ((l1In_pure _ _ _).mono ?_)
       rintro r rfl
       by_cases hr:0≤at_∧at_≤(xks.length:Int)
       · rw [show (decide ((0:Int)≤at_∧at_≤((T.rows xks).length:Int)))=true by rw [Go.Cod.rows_len]; simpa using hr]
         conv=>whnf
         refine .inl (f3.mono ?_)
         rintro r rfl
         cases okn with
         | false =>
           conv=>whnf
           rw [d0 (by rw [hed,if_neg (by simp)])]
           rfl
         | true =>
           obtain ⟨n,rfl⟩:∃ n:Nat,at_=n:=⟨at_.toNat,by omega⟩
           have hed:e=some tp:=by rw [hed]; exact if_pos ⟨hr.1,hr.2,rfl⟩
           have f4:=f4 _ rfl (by simp only [T.kids]; omega)
           obtain ⟨q1,q2⟩:=zp rfl
           obtain ⟨q3,q4⟩:=hbig tp q1 q2 hed
           have hok:=hok tp hed q3
           generalize okT tp=okp at *
           cases tp with
           | mk pid pk px pks =>
           conv=>whnf
           refine .inl (f4.mono ?_)
           rintro r rfl
           conv=>whnf
           refine .inl (q4.mono ?_)
           rintro r rfl
           rw [hok]
           cases okp <;> (conv=>whnf) <;> rfl
       · rw [show (decide ((0:Int)≤at_∧at_≤((T.rows xks).length:Int)))=false by rw [Go.Cod.rows_len]; simpa using hr]
         conv=>whnf
         rw [d0 (by rw [hed]; exact if_neg (fun h=>hr ⟨h.1,h.2.1⟩))]
         rfl
     rw [if_neg k1] at hed
     rw [eqB_f k1]
     conv=>whnf
     by_cases k2:kind=2
     · rw [if_pos k2] at hed
       rw [eqB_t k2]
       conv=>whnf
       by_cases hi:sid=tid
       · rw [eqB_t hi]
         conv=>whnf
         rw [d0 (by rw [hed]; exact if_pos hi)]
         rfl
       · rw [eqB_f hi]
         have hed:e=some tc:=by rw [hed]; exact if_neg hi
         obtain ⟨q3,q4⟩:=hbig tc z2.1 (by have:=z2.2; simp only [T.size] at this hz ⊢; omega) hed
         have hok:=hok tc hed q3
         generalize okT tc=okp at *
         cases tc with
         | mk pid pk px pks =>
         conv=>whnf
         refine .inl (f5.mono ?_)
         rintro r rfl
         conv=>whnf
         refine .inl (q4.mono ?_)
         rintro r rfl
         rw [hok]
         cases okp <;> (conv=>whnf) <;> rfl
     rw [if_neg k2] at hed
     rw [eqB_f k2]
     conv=>whnf
     have hx:=hsm _ rfl
     have hxk:xk.length≤1048576∧xx.length≤1048576:=by
      cases hx with
      | mk g1 g2 g3 g4 g5=>exact ⟨g2,g3⟩
     by_cases k3:kind=3
     · rw [if_pos k3] at hed
       rw [eqB_t k3]
       have f6:=f6 xk text
       obtain ⟨q1,q2⟩:=z3 xk text hxk.1 htx
       have hed:e=some (ts xk text):=hed
       obtain ⟨q3,q4⟩:=hbig _ q1 q2 hed
       have hok:=hok _ hed q3
       generalize ts xk text=tp at *
       generalize okT tp=okp at *
       cases tp with
       | mk pid pk px pks =>
       conv=>whnf
       refine .inl (f6.mono ?_)
       rintro r rfl
       conv=>whnf
       refine .inl (q4.mono ?_)
       rintro r rfl
       rw [hok]
       cases okp <;> (conv=>whnf) <;> rfl
     rw [if_neg k3] at hed
     rw [eqB_f k3]
     conv=>whnf
     by_cases k4:kind=4
     · rw [if_pos k4] at hed
       rw [eqB_t k4]
       have f6:=f6 text xx
       obtain ⟨q1,q2⟩:=z3 text xx htx hxk.2
       have hed:e=some (ts text xx):=hed
       obtain ⟨q3,q4⟩:=hbig _ q1 q2 hed
       have hok:=hok _ hed q3
       generalize ts text xx=tp at *
       generalize okT tp=okp at *
       cases tp with
       | mk pid pk px pks =>
       conv=>whnf
       refine .inl (f6.mono ?_)
       rintro r rfl
       conv=>whnf
       refine .inl (q4.mono ?_)
       rintro r rfl
       rw [hok]
       cases okp <;> (conv=>whnf) <;> rfl
     rw [if_neg k4] at hed
     rw [eqB_f k4]
     conv=>whnf
     rw [d0 hed]
     rfl
end Go.Cod
set_option linter.all false
namespace Go.Cod
variable [Adr]
open Go Go.Proofs Go.ChangeShapes Go.WideShapes Go.ChangeAt Go.RowKit
set_option maxRecDepth 10000
def T.Tried (x:T):Prop:=x.Small∧x.size≤60∧x.Even
theorem tried_do {x y:T} {s:Stp} (h:x.Tried) (hs:s.Dr) (hd:doT x s=some y):y.Tried:=by
 obtain ⟨h1,h2⟩:=doT_ok hd
 have:=okT_size h2
 exact ⟨editT_small h.1 (by have:=h.2.1; omega) hs.1 (by have:=hs.2.2; omega) h1,by omega,even_nodup ((okT_iff' y).1 h2).2.1⟩
end Go.Cod
set_option linter.all false
namespace Go.Cod
variable [Adr]
open Go Go.Proofs
set_option linter.all false
set_option maxRecDepth 10000
set_option maxHeartbeats 8000000 in
theorem l11Edits_own (bs:List UInt8) (hb:bs.length≤2000) (t:T) (ht:t.Tried) (p:Int) (p0:0≤p) (p1:p≤2000000) (m:Nat) (hm:m≤10) :
  Full Tryd.prog noY 39 [.ptr 0 0 0,.agg t.cells,.int .i64 m,.int .i64 100,.bool false] [rdO bs p] fun o st'=>∃ (x:T) (p':Int),x.Tried∧p≤p'∧p'≤p+10000∧o=.ret (.agg [.int .i64 x.id,.str x.kind,.str x.text,kidsV x.kids 1])∧st'=rdO bs p'::kidsO x.kids:=by
 have ht':=ht
 obtain ⟨ti,tk,tx,tks⟩:=t
 refine full_of_awp good Tryd.func39 rfl (by kernel_rfl) (by decide) ?_
 conv=>whnf
 refine loop_drop (fun n fr st=>∃ (i:Nat) (x:T) (p' k':Int),n+i=m∧x.Tried∧(p≤p'∧p'+1000*n≤p+1000*m)∧(0≤k'∧k'+1000*n≤100+1000*m) ∧
   Holds fr [(0,.ptr 0 0 0),(2,.int .i64 m),(4,.bool false),(6,.ptr 1 0 0),(10,.ptr 2 0 0),(11,.ptr 3 0 0),(12,.int .i64 i)] ∧
   st=[rdO bs p',bxO x.cells 4,bxO zrow 4,nxO k']) m none
  (by
    conv=>whnf
    exact ⟨0,.mk ti tk tx tks,p,100,by omega,ht',by omega,by omega,⟨rfl,rfl,rfl,rfl,rfl,rfl,rfl,trivial⟩,rfl⟩) ?_
 rintro n fr st ⟨i,x,p',k',b1,b2,b3,b4,hh,rfl⟩
 obtain ⟨fr,rfl⟩:=hh.split
 clear hh
 have f4:=l2Copy_own x b2.1
 by_cases hlt:i < m
 · have hed:=l11Edit_full bs hb p' k' (by omega) (by omega) (by omega) (by omega) x b2.1 (by have:=b2.2.1; omega)
   have hdo:=fun s (h:s.Dr)=>l4Do_even x s b2.1 (by have:=b2.2.1; omega) b2.2.2 h.1 (by have:=h.2.1; omega) (by have:=h.2.2; omega)
   have htd:=fun s y (h:s.Dr) (hd:doT x s=some y)=>tried_do b2 h hd
   have hw:V.int .i64 (IntKind.i64.wrap ((i:Int)+1))=.int .i64 ((i+1:Nat):Int):=by rw [wrap64 (by omega) (by omega)]; simp
   obtain ⟨xi,xk,xx,xks⟩:=x
   conv=>whnf
   rw [ltB_t (by omega)]
   conv=>whnf
   repeat' (first
    | (refine ⟨[0,3],false,?_⟩
       conv=>whnf
       refine hed.mono ?_
       rintro o st' ⟨⟨ek,ei,ea,⟨ni,nk,nx,nks⟩,ex⟩,p2,k2,d1,d2,d3,d4,d5,rfl,rfl⟩
       have hdo:=hdo _ d1
       have htd:=fun y=>htd _ y d1
       generalize hdoo:doT (T.mk xi xk xx xks) _=dd at hdo htd
       rcases dd with _ | ⟨yi,yk,yx,yks⟩
       case' none=>have hdo:Pure Tryd.prog 69 _ (·=.tup [.agg (T.mk xi xk xx xks).cells,.bool false]):=hdo
       case' some =>
        have hdo:Pure Tryd.prog 69 _ (·=.tup [.agg (T.mk yi yk yx yks).cells,.bool true]):=hdo
        have htd:=htd _ rfl
       all_goals conv=>whnf)
    | (refine ⟨_,.inl hdo,?_⟩
       conv=>whnf)
    | (refine .inl (hdo.mono ?_)
       rintro r rfl
       conv=>whnf)
    | (refine ⟨n - 1,by omega,some [0,1,2,3],?_⟩
       conv=>whnf
       first
        | exact ⟨i+1,.mk yi yk yx yks,p2,k2,by omega,htd,by omega,by omega,⟨rfl,rfl,rfl,rfl,rfl,rfl,hw,trivial⟩,rfl⟩
        | exact ⟨i+1,.mk xi xk xx xks,p2,k2,by omega,b2,by omega,by omega,⟨rfl,rfl,rfl,rfl,rfl,rfl,hw,trivial⟩,rfl⟩)
    | (refine And.intro ?_ ?_ <;> (conv=>whnf)))
   all_goals rfl
 · obtain ⟨xi,xk,xx,xks⟩:=x
   conv=>whnf
   rw [ltB_f (by omega)]
   conv=>whnf
   refine .inr (.inl ⟨[],false,?_⟩)
   conv=>whnf
   refine f4.mono ?_
   rintro o st' ⟨rfl,rfl⟩
   cases xks with
   | nil =>
     conv=>whnf
     refine ⟨[],true,?_⟩
     conv=>whnf
     exact ⟨.mk xi xk xx [],p',b2,by omega,by omega,rfl,rfl⟩
   | cons x0 xs =>
     conv=>whnf
     refine ⟨[4],false,?_⟩
     conv=>whnf
     exact ⟨.mk xi xk xx (x0::xs),p',b2,by omega,by omega,rfl,rfl⟩
end Go.Cod
set_option linter.all false
namespace Go.Cod
variable [Adr]
open Go Go.Proofs Go.ChangeShapes Go.WideShapes Go.ChangeAt Go.RowKit
set_option maxRecDepth 10000
def rws {α:Type} (c:α→List V) (ys:List α):List (List V):=ys.map c
theorem rws_len {α:Type} (c:α→List V) (ys:List α):(rws c ys).length=ys.length:=by simp [rws]
theorem rws_get {α:Type} (c:α→List V) (ys:List α) (i:Nat) (h:i < ys.length):(rws c ys)[i]? = some (c ys[i]):=by simp [rws,h]
theorem rws_take {α:Type} (c:α→List V) (ys:List α) (i:Nat):(rws c ys).take i=rws c (ys.take i):=by simp [rws]
theorem rws_wid {α:Type} (c:α→List V) {k:Nat} (hk:∀ a,(c a).length=k) (ys:List α):∀ r∈rws c ys,r.length=k:=fun r hr=>by
 obtain ⟨a,_,rfl⟩:=List.mem_map.1 hr
 exact hk a
structure It where
 kind:List UInt8
 many:Bool
 may:Bool
 deriving DecidableEq
def It.cells (a:It):List V:=[.str a.kind,.bool a.many,.bool a.may]
structure Ru where
 kind:List UInt8
 text:Bool
 kids:List It
 deriving DecidableEq
def Ru.cells (a:Ru):List V:=[.str a.kind,.bool a.text,.sl (rws It.cells a.kids)]
structure Sc where
 root:List UInt8
 rules:List Ru
 deriving DecidableEq
def Sc.cells (a:Sc):List V:=[.str a.root,.sl (rws Ru.cells a.rules)]
theorem It.len (a:It):a.cells.length=3:=rfl
theorem Ru.len (a:Ru):a.cells.length=3:=rfl
end Go.Cod
set_option linter.all false
namespace Go.Cod
variable [Adr]
open Go Go.Proofs
set_option maxRecDepth 10000
abbrev sCells:List UInt8→List V:=fun s=>[.str s]
def It.Sm (a:It):Prop:=a.kind.length≤1048576
def Ru.Sm (a:Ru):Prop:=a.kind.length≤1048576∧a.kids.length≤1048576∧∀ x∈a.kids,x.Sm
def Sc.Sm (a:Sc):Prop:=a.root.length≤1048576∧a.rules.length≤1048576∧∀ x∈a.rules,x.Sm
end Go.Cod
set_option linter.all false
namespace Go.Cod
variable [Adr]
open Go Go.Proofs
set_option maxRecDepth 10000
def hasR (rs:List Ru) (k:List UInt8):Bool:=rs.any fun r=>decide (r.kind=k)
def idxR (k:List UInt8):List Ru→Int→Int
 | [],_=>-1
 | r::rs,n=>if r.kind=k then n else idxR k rs (n+1)
def textW:List UInt8:=[116,101,120,116]
def itemB (rs:List Ru) (x:It):Bool:=hasR rs x.kind&&!(x.many&&x.may)
def ruleB (rs:List Ru) (r:Ru):Bool:=nameL r.kind&&decide (r.kind≠textW)&&decide (r.kids.length≤4)&&r.kids.all (itemB rs)
def okS (s:Sc):Bool:=decide (s.rules.length≤6)&&hasR s.rules s.root&&s.rules.all (ruleB s.rules)&&decide ((s.rules.map (·.kind)).Nodup)
theorem idxR_drop (k:List UInt8) (rs:List Ru) (i:Nat) (h:i < rs.length) (n:Int):idxR k (rs.drop i) n=if rs[i].kind=k then n else idxR k (rs.drop (i+1)) (n+1):=by
 rw [List.drop_eq_getElem_cons h]; rfl
theorem idxR_has (k:List UInt8):∀ (rs:List Ru) (n:Int),0≤n→(idxR k rs n < 0↔hasR rs k=false)∧(hasR rs k=true→n≤idxR k rs n)
 | [],n,h=>by simp [idxR,hasR]
 | r::rs,n,h=>by
   have ih:=idxR_has k rs (n+1) (by omega)
   have he:hasR (r::rs) k=(decide (r.kind=k)||hasR rs k):=rfl
   simp only [idxR]
   rw [he]
   by_cases hk:r.kind=k
   · simp [hk]; omega
   · rw [if_neg hk]
     simp only [hk,decide_false,Bool.false_or]
     exact ⟨ih.1,fun h=>by have:=ih.2 h; omega⟩
theorem idxR_neg (k:List UInt8) (rs:List Ru):idxR k rs 0 < 0↔hasR rs k=false:=(idxR_has k rs 0 (by omega)).1
theorem hasR_get {rs:List Ru} {i:Nat} (h:i < rs.length):hasR rs rs[i].kind=true:=by
 unfold hasR
 rw [List.any_eq_true]
 exact ⟨rs[i],List.getElem_mem _,by simp⟩
theorem hasR_iff (rs:List Ru) (k:List UInt8):hasR rs k=true↔k∈rs.map (·.kind):=by
 unfold hasR
 rw [List.any_eq_true]
 simp only [List.mem_map,decide_eq_true_eq]
theorem idxR_at (k:List UInt8):∀ (rs:List Ru) (n:Int),0≤n→hasR rs k=true→∃ (i:Nat) (h:i < rs.length),idxR k rs n=n+i∧rs[i].kind=k∧hasR (rs.take i) k=false
 | [],n,_,h=>by simp [hasR] at h
 | r::rs,n,hn,h=>by
   have he:hasR (r::rs) k=(decide (r.kind=k)||hasR rs k):=rfl
   rw [he] at h
   by_cases hk:r.kind=k
   · exact ⟨0,by simp,by simp [idxR,hk],by simpa using hk,rfl⟩
   · simp only [hk,decide_false,Bool.false_or] at h
     obtain ⟨i,hi,h1,h2,h3⟩:=idxR_at k rs (n+1) (by omega) h
     refine ⟨i+1,by simpa using hi,?_,by simpa using h2,?_⟩
     · simp only [idxR,if_neg hk,h1]; omega
     · have:hasR ((r::rs).take (i+1)) k=(decide (r.kind=k)||hasR (rs.take i) k):=rfl
       rw [this,h3]; simp [hk]
theorem idxR_first (rs:List Ru) (i:Nat) (h:i < rs.length):idxR rs[i].kind rs 0=i↔hasR (rs.take i) rs[i].kind=false:=by
 obtain ⟨j,hj,h1,h2,h3⟩:=idxR_at rs[i].kind rs 0 (by omega) (hasR_get h)
 rw [h1]
 constructor
 · intro e
   obtain rfl:j=i:=by omega
   exact h3
 · intro e
   rcases Nat.lt_trichotomy j i with hlt | rfl | hlt
   · exfalso
     have:hasR (rs.take i) rs[i].kind=true:=by
      unfold hasR
      rw [List.any_eq_true]
      exact ⟨rs[j],List.mem_take_iff_getElem.2 ⟨j,by omega,rfl⟩,by simpa using h2⟩
     rw [e] at this; cases this
   · omega
   · exfalso
     have:hasR (rs.take j) rs[i].kind=true:=by
      unfold hasR
      rw [List.any_eq_true]
      exact ⟨rs[i],List.mem_take_iff_getElem.2 ⟨i,by omega,rfl⟩,by simp⟩
     rw [h3] at this; cases this
theorem kinds_take {rs:List Ru} {i:Nat} (h:i < rs.length):((rs.take (i+1)).map (·.kind)).Nodup↔((rs.take i).map (·.kind)).Nodup∧hasR (rs.take i) rs[i].kind=false:=by
 rw [List.take_succ_eq_append_getElem h,List.map_append,List.nodup_append]
 simp only [List.map_cons,List.map_nil,List.nodup_cons,List.not_mem_nil,not_false_eq_true,List.nodup_nil,and_self,List.mem_singleton,forall_eq,true_and]
 rw [← Bool.not_eq_true,hasR_iff]
 exact ⟨fun ⟨a,b⟩=>⟨a,fun h=>b _ h rfl⟩,fun ⟨a,b⟩=>⟨a,fun x hx e=>b (e ▸ hx)⟩⟩
theorem kinds_no {rs:List Ru} {i:Nat} (h:i < rs.length) (hh:hasR (rs.take i) rs[i].kind=true):¬ (rs.map (·.kind)).Nodup:=fun hd=>by
 have h3:((rs.take (i+1)).map (·.kind)).Nodup:=hd.sublist ((List.take_sublist _ _).map _)
 rw [(kinds_take h).1 h3 |>.2] at hh; cases hh
theorem all_take {α:Type} {p:α→Bool} {s:List α} {i:Nat} (h:i < s.length):(s.take (i+1)).all p=((s.take i).all p&&p s[i]):=by
 rw [List.take_succ_eq_append_getElem h,List.all_append]; simp
theorem all_no {α:Type} {p:α→Bool} {s:List α} {i:Nat} (h:i < s.length) (hp:p s[i]=false):s.all p=false:=by
 rw [List.all_eq_false]; exact ⟨s[i],List.getElem_mem _,by simp [hp]⟩
set_option maxHeartbeats 4000000 in
theorem l3Rule_pure (s:Sc) (k:List UInt8) (hn:s.rules.length≤1048576):Pure Tryd.prog 34 [.agg s.cells,.str k] (·=.int .i64 (idxR k s.rules 0)):=by
 have hd:idxR k s.rules 0=idxR k (s.rules.drop 0) ((0:Nat):Int):=rfl
 generalize idxR k s.rules 0=res at *
 obtain ⟨root,rules⟩:=s
 simp only [Sc.cells] at hn hd ⊢
 have hlr:=rws_len Ru.cells rules
 have hgr:=rws_get Ru.cells rules
 generalize rws Ru.cells rules=rows at *
 refine pure_of_awp good Tryd.func34 rfl (by kernel_rfl) (by decide) ?_
 conv=>whnf
 refine loop_intro (fun n fr st=>st=[⟨[[.str root,.sl rows]],2,true,true,true,.cell⟩]∧∃ i:Nat,n+i=rules.length∧res=idxR k (rules.drop i) i∧Holds fr [(1,.str k),(2,.ptr 0 0 0),(5,.int .i64 i)]) rules.length ⟨rfl,0,rfl,hd,rfl,rfl,rfl,trivial⟩ ?_
 rintro n fr st ⟨rfl,i,hi,hr,hh⟩
 obtain ⟨fr,rfl⟩:=hh.split
 clear hh
 conv=>whnf
 by_cases hlt:i < rules.length
 · rw [hlr,ltB_t (by omega)]
   conv=>whnf
   have hg:=hgr i hlt
   have hs:=idxR_drop k rules i hlt i
   generalize rules[i]=x at *
   obtain ⟨kind,text,kids⟩:=x
   simp only [Ru.cells] at hg hs
   refine ⟨by omega,rows,_,3,rfl,hg,rfl,rfl,?_⟩
   conv=>whnf
   by_cases hk:kind=k
   · rw [eqS_t hk]
     conv=>whnf
     rw [hr,hs,if_pos hk]
   · rw [eqS_f hk]
     conv=>whnf
     refine ⟨n - 1,by omega,rfl,i+1,by omega,?_,rfl,rfl,?_,trivial⟩
     · rw [hr,hs,if_neg hk]; rfl
     · show V.int .i64 (IntKind.i64.wrap (i+1))=_
       rw [wrap64 (by omega) (by omega)]; simp
 · rw [hlr,ltB_f (by omega)]
   conv=>whnf
   rw [hr,List.drop_of_length_le (by omega)]
   rfl
end Go.Cod
set_option linter.all false
namespace Go.Cod
variable [Adr]
open Go Go.Proofs
set_option maxRecDepth 10000
theorem itemB_def (rs:List Ru) (x:It):itemB rs x=(hasR rs x.kind&&!(x.many&&x.may)):=rfl
theorem okS_def (s:Sc):okS s=(decide (s.rules.length≤6)&&hasR s.rules s.root&&s.rules.all (ruleB s.rules)&&decide ((s.rules.map (·.kind)).Nodup)):=rfl
set_option maxHeartbeats 8000000 in
theorem specSchemaOk_pure (s:Sc) (hs:s.Sm):Pure Tryd.prog 15 [.agg s.cells] (·=.bool (okS s)):=by
 have f1:=fun k=>l3Rule_pure s k hs.2.1
 have hO:=okS_def s
 generalize okS s=res at *
 obtain ⟨root,rules⟩:=s
 obtain ⟨_,hn,hx⟩:=hs
 simp only [Sc.cells] at f1 hn hx hO ⊢
 have hlr:=rws_len Ru.cells rules
 have hgr:=rws_get Ru.cells rules
 have hneg:=fun k=>idxR_neg k rules
 have hfst:=idxR_first rules
 have hkt:=fun i (h:i < rules.length)=>kinds_take h
 have hkn:=fun i (h:i < rules.length)=>kinds_no h
 generalize rws Ru.cells rules=rows at *
 refine pure_of_awp good Tryd.func15 rfl (by kernel_rfl) (by decide) ?_
 conv=>whnf
 refine .inl ((l1In_pure _ _ _).mono ?_)
 rintro r rfl
 rw [hlr]
 by_cases hA:1≤(rules.length:Int)∧(rules.length:Int)≤6
 case neg =>
  rw [decide_eq_false hA]
  conv=>whnf
  rw [hO]
  by_cases h6:rules.length≤6
  · have:rules=[]:=List.length_eq_zero_iff.1 (by omega)
    subst this
    rfl
  · rw [decide_eq_false h6]; rfl
 rw [decide_eq_true hA]
 conv=>whnf
 refine .inl ((f1 root).mono ?_)
 rintro r rfl
 by_cases hB:idxR root rules 0 < 0
 · have hb:=(hneg root).1 hB
   generalize idxR root rules 0=v at *
   conv=>whnf
   rw [ltB_t hB]
   conv=>whnf
   rw [hO,hb]; simp
 have hb:hasR rules root=true:=by
  cases h:hasR rules root with
  | true=>rfl
  | false=>exact absurd ((hneg root).2 h) hB
 generalize idxR root rules 0=v at *
 conv=>whnf
 rw [ltB_f (by omega)]
 rw [hb,decide_eq_true (show rules.length≤6 by omega),Bool.true_and,Bool.true_and] at hO
 conv=>whnf
 refine loop_drop (fun n fr st=>∃ i:Nat,n+i=rules.length∧(rules.take i).all (ruleB rules)=true∧((rules.take i).map (·.kind)).Nodup∧st=[⟨[[.str root,.sl rows]],2,true,true,true,.cell⟩]∧Holds fr [(1,.ptr 0 0 0),(3,.int .i64 i)]) rules.length none ⟨0,rfl,rfl,by simp,rfl,rfl,rfl,trivial⟩ ?_
 rintro n fr st ⟨i,hi,hal,hnd,rfl,hh⟩
 obtain ⟨fr,rfl⟩:=hh.split
 clear hh
 conv=>whnf
 by_cases hlt:i < rules.length
 · rw [hlr,ltB_t (by omega)]
   conv=>whnf
   have hg:=hgr i hlt
   have hxi:=hx rules[i] (List.getElem_mem _)
   have hat:=all_take (p:=ruleB rules) hlt
   have hano:=all_no (p:=ruleB rules) hlt
   have hf:=hfst i hlt
   have hk1:=hkt i hlt
   have hk2:=hkn i hlt
   have hrd:ruleB rules rules[i]=(nameL rules[i].kind&&decide (rules[i].kind≠textW)&&decide (rules[i].kids.length≤4)&&rules[i].kids.all (itemB rules)):=rfl
   generalize rules[i]=x at *
   obtain ⟨kind,text,kids⟩:=x
   obtain ⟨g1,g2,g3⟩:=hxi
   simp only [Ru.cells] at hg hat hano hf hk1 hk2 hrd g1 g2 g3
   have hlk:=rws_len It.cells kids
   have hgk:=rws_get It.cells kids
   generalize rws It.cells kids=krows at *
   refine ⟨by omega,rows,_,3,rfl,hg,rfl,rfl,?_⟩
   conv=>whnf
   refine .inl ((l2Name_pure kind (by omega)).mono ?_)
   rintro r rfl
   cases hN:nameL kind with
   | false =>
     conv=>whnf
     rw [hO,hano (by rw [hrd,hN]; rfl)]; rfl
   | true =>
     conv=>whnf
     by_cases hT:kind=[116,101,120,116]
     · rw [eqS_t hT]
       conv=>whnf
       rw [hO,hano (by rw [hrd,hN,decide_eq_false (by simp [textW,hT])]; rfl)]; rfl
     rw [eqS_f hT]
     rw [hN,decide_eq_true (show kind≠textW from hT),Bool.true_and,Bool.true_and] at hrd
     conv=>whnf
     refine .inl ((f1 kind).mono ?_)
     rintro r rfl
     by_cases hF:idxR kind rules 0=i
     case neg =>
      have hh:hasR (rules.take i) kind=true:=by
       cases h:hasR (rules.take i) kind with
       | true=>rfl
       | false=>exact absurd (hf.2 h) hF
      generalize idxR kind rules 0=v at *
      conv=>whnf
      rw [eqB_f hF]
      conv=>whnf
      rw [hO,decide_eq_false (hk2 hh)]; simp
     have hh:=hf.1 hF
     generalize idxR kind rules 0=v at *
     subst hF
     conv=>whnf
     rw [eqB_refl]
     conv=>whnf
     rw [hlk]
     by_cases hK:(kids.length:Int)≤4
     case neg =>
      rw [ltB_t (by omega)]
      conv=>whnf
      rw [hO,hano (by rw [hrd,decide_eq_false (by omega)]; rfl)]; rfl
     rw [ltB_f (by omega)]
     rw [decide_eq_true (show kids.length≤4 by omega),Bool.true_and] at hrd
     conv=>whnf
     refine loop_intro (fun n fr st=>∃ j:Nat,n+j=kids.length∧(kids.take j).all (itemB rules)=true∧st=[⟨[[.str root,.sl rows]],2,true,true,true,.cell⟩,⟨[[.str kind,.bool text,.sl krows]],3,true,true,true,.cell⟩]∧Holds fr [(1,.ptr 0 0 0),(3,.int .i64 i),(4,.ptr 1 0 0),(5,.int .i64 j)]) kids.length ⟨0,rfl,rfl,rfl,rfl,rfl,rfl,rfl,trivial⟩ ?_
     rintro n2 fr st ⟨j,hj,hja,rfl,hh2⟩
     obtain ⟨fr,rfl⟩:=hh2.split
     clear hh2
     conv=>whnf
     by_cases hjt:j < kids.length
     · rw [hlk,ltB_t (by omega)]
       conv=>whnf
       have hgj:=hgk j hjt
       have hjs:=all_take (p:=itemB rules) hjt
       have hjno:=all_no (p:=itemB rules) hjt
       have hjd:=itemB_def rules kids[j]
       generalize kids[j]=y at *
       obtain ⟨yk,ym,yy⟩:=y
       simp only [It.cells] at hgj hjd
       repeat (first
        | (refine ⟨by omega,krows,_,3,rfl,hgj,rfl,rfl,?_⟩
           conv=>whnf)
        | (refine ⟨_,.inl (f1 yk),?_⟩
           conv=>whnf))
       by_cases hY:idxR yk rules 0 < 0
       · have hy0:=(hneg yk).1 hY
         generalize idxR yk rules 0=v at *
         rw [ltB_t hY]
         conv=>whnf
         rw [hO,hano (by rw [hrd,hjno (by rw [hjd,hy0]; rfl)])]; rfl
       have hy1:hasR rules yk=true:=by
        cases h:hasR rules yk with
        | true=>rfl
        | false=>exact absurd ((hneg yk).2 h) hY
       generalize idxR yk rules 0=v at *
       rw [ltB_f (by omega)]
       rw [hy1,Bool.true_and] at hjd
       conv=>whnf
       refine ⟨by omega,krows,_,3,rfl,hgj,rfl,rfl,?_⟩
       cases ym with
       | false =>
         conv=>whnf
         refine ⟨n2 - 1,by omega,j+1,by omega,by rw [hjs,hja,hjd]; rfl,rfl,rfl,rfl,rfl,?_,trivial⟩
         show V.int .i64 (IntKind.i64.wrap (j+1))=_
         rw [wrap64 (by omega) (by omega)]; simp
       | true =>
         conv=>whnf
         refine ⟨by omega,krows,_,3,rfl,hgj,rfl,rfl,?_⟩
         cases yy with
         | true =>
           conv=>whnf
           rw [hO,hano (by rw [hrd,hjno (by rw [hjd]; rfl)])]; rfl
         | false =>
           conv=>whnf
           refine ⟨n2 - 1,by omega,j+1,by omega,by rw [hjs,hja,hjd]; rfl,rfl,rfl,rfl,rfl,?_,trivial⟩
           show V.int .i64 (IntKind.i64.wrap (j+1))=_
           rw [wrap64 (by omega) (by omega)]; simp
     · rw [hlk,ltB_f (by omega)]
       conv=>whnf
       rw [List.take_of_length_le (by omega)] at hja
       rw [hja] at hrd
       refine ⟨n - 1,by omega,some [0],i+1,by omega,?_,hk1.2 ⟨hnd,hh⟩,rfl,rfl,?_,trivial⟩
       · rw [hat,hal,hrd]; rfl
       · show V.int .i64 (IntKind.i64.wrap (i+1))=_
         rw [wrap64 (by omega) (by omega)]; simp
 · rw [hlr,ltB_f (by omega)]
   conv=>whnf
   rw [List.take_of_length_le (by omega)] at hal hnd
   rw [hO,hal,decide_eq_true hnd]; rfl
end Go.Cod
set_option linter.all false
namespace Go.Cod
variable [Adr]
open Go Go.Proofs
set_option maxRecDepth 10000
def noRule:List V:=[.str [],.bool false,.sl []]
def ruleOf (rs:List Ru) (k:List UInt8):List V:=match rs.find? fun r=>decide (r.kind=k) with
 | some r=>r.cells
 | none=>noRule
def ruleErr (rs:List Ru) (k:List UInt8):V:=if hasR rs k=true then nilErr else errV 0
theorem find_drop (rs:List Ru) (k:List UInt8) (i:Nat) (h:i < rs.length):ruleOf (rs.drop i) k=if rs[i].kind=k then rs[i].cells else ruleOf (rs.drop (i+1)) k:=by
 rw [List.drop_eq_getElem_cons h]
 unfold ruleOf
 by_cases hk:rs[i].kind=k
 · simp [List.find?,hk]
 · simp [List.find?,hk]
theorem hasR_drop (rs:List Ru) (k:List UInt8) (i:Nat) (h:i < rs.length):hasR (rs.drop i) k=(decide (rs[i].kind=k)||hasR (rs.drop (i+1)) k):=by
 rw [List.drop_eq_getElem_cons h]; rfl
set_option maxHeartbeats 4000000 in
theorem schemaRule_pure (rs:List Ru) (k:List UInt8) (hn:rs.length≤1048576):Pure Tryd.prog 31 [.sl (rws Ru.cells rs),.str k] (·=.tup [.agg (ruleOf rs k),ruleErr rs k]):=by
 have hlr:=rws_len Ru.cells rs
 have hgr:=rws_get Ru.cells rs
 have hd:ruleOf rs k=ruleOf (rs.drop 0) k:=rfl
 have hd2:hasR rs k=hasR (rs.drop 0) k:=rfl
 have he:ruleErr rs k=if hasR rs k=true then nilErr else errV 0:=rfl
 generalize ruleErr rs k=er at *
 generalize ruleOf rs k=res at *
 generalize hasR rs k=hb at *
 generalize rws Ru.cells rs=rows at *
 refine pure_of_awp good Tryd.func31 rfl (by kernel_rfl) (by decide) ?_
 conv=>whnf
 refine loop_drop (fun n fr st=>∃ i:Nat,n+i=rs.length∧res=ruleOf (rs.drop i) k∧hb=hasR (rs.drop i) k∧st=[⟨[[.str [],.bool false,.nils]],3,true,true,true,.cell⟩]∧Holds fr [(1,.str k),(4,.ptr 0 0 0),(5,nilErr),(8,.sl rows),(9,.int .i64 rs.length),(10,.int .i64 i)]) rs.length none ⟨0,rfl,hd,hd2,rfl,rfl,rfl,rfl,rfl,by rw [← hlr]; rfl,rfl,trivial⟩ ?_
 rintro n fr st ⟨i,hi,hr,hr2,rfl,hh⟩
 obtain ⟨fr,rfl⟩:=hh.split
 clear hh
 conv=>whnf
 by_cases hlt:i < rs.length
 · rw [ltB_t (by omega)]
   conv=>whnf
   have hg:=hgr i hlt
   have hs:=find_drop rs k i hlt
   have hs2:=hasR_drop rs k i hlt
   generalize rs[i]=x at *
   obtain ⟨kind,text,kids⟩:=x
   simp only [Ru.cells] at hg hs hs2
   refine ⟨by omega,rows,_,3,rfl,hg,rfl,rfl,?_⟩
   conv=>whnf
   by_cases hk:kind=k
   · rw [eqS_t hk]
     conv=>whnf
     rw [hr,hs,if_pos hk]
     rw [hr2,hs2,decide_eq_true hk] at he
     rw [he]; rfl
   · rw [eqS_f hk]
     conv=>whnf
     refine ⟨n - 1,by omega,some [0],i+1,by omega,?_,?_,rfl,rfl,rfl,rfl,rfl,rfl,?_,trivial⟩
     · rw [hr,hs,if_neg hk]
     · rw [hr2,hs2,decide_eq_false hk]; rfl
     · show V.int .i64 (IntKind.i64.wrap (i+1))=_
       rw [wrap64 (by omega) (by omega)]; simp
 · rw [ltB_f (by omega)]
   rw [List.drop_of_length_le (by omega)] at hr hr2
   rw [hr2] at he
   have hr:res=noRule:=hr
   have he:er=errV 0:=he
   conv=>whnf
   refine And.intro (by (conv=>whnf); first | done | rfl) ?_
   conv=>whnf
   rw [hr,he]; rfl
end Go.Cod
set_option linter.all false
namespace Go.Cod
variable [Adr]
open Go Go.Proofs
set_option maxRecDepth 10000
theorem ruleOf_cells (rs:List Ru) (k:List UInt8):∃ r:Ru,ruleOf rs k=r.cells:=by
 unfold ruleOf
 split
 · exact ⟨_,rfl⟩
 · exact ⟨⟨[],false,[]⟩,rfl⟩
theorem schemaHas_pure (rs:List Ru) (k:List UInt8) (hn:rs.length≤1048576):Pure Tryd.prog 85 [.sl (rws Ru.cells rs),.str k] (·=.bool (hasR rs k)):=by
 have f1:=schemaRule_pure rs k hn
 have he:ruleErr rs k=if hasR rs k=true then nilErr else errV 0:=rfl
 obtain ⟨r0,hr0⟩:=ruleOf_cells rs k
 rw [hr0] at f1
 generalize ruleErr rs k=er at *
 generalize hasR rs k=hb at *
 generalize rws Ru.cells rs=rows at *
 obtain ⟨a,b,c⟩:=r0
 simp only [Ru.cells] at f1
 refine pure_of_awp good Tryd.func85 rfl (by kernel_rfl) (by decide) ?_
 conv=>whnf
 refine .inl (f1.mono ?_)
 rintro r rfl
 cases hb with
 | true =>
   rw [he]
   conv=>whnf
   refine .inl ((errorsIs_nil 0).mono ?_)
   rintro r rfl
   conv=>whnf
   rfl
 | false =>
   rw [he]
   conv=>whnf
   refine .inl ((errorsIs_same 0).mono ?_)
   rintro r rfl
   conv=>whnf
   rfl
def isErr (x:V):Prop:=∃ a:Addr,x=.raw (.iface 169 (.pointer (some a)))
def faultIs (b:Bool) (x:V):Prop:=match b with
 | true=>x=nilErr
 | false=>isErr x
set_option maxHeartbeats 8000000 in
theorem itemsFault_pure (s:Sc) (hs:s.Sm) (xs:List It) (hx:xs.length≤1048576):Pure Tryd.prog 86 [.agg s.cells,.sl (rws It.cells xs)] (faultIs (decide (xs.length≤4)&&xs.all (itemB s.rules))):=by
 have f1:=fun k=>schemaHas_pure s.rules k hs.2.1
 have hd:∀ x:It,itemB s.rules x=(hasR s.rules x.kind&&!(x.many&&x.may)):=fun x=>rfl
 obtain ⟨root,rules⟩:=s
 simp only [Sc.cells] at f1 hd ⊢
 generalize rws Ru.cells rules=rrows at *
 generalize itemB rules=p at *
 have hF:faultIs (decide (xs.length≤4)&&xs.all p)=fun x=>faultIs (decide (xs.length≤4)&&xs.all p) x:=rfl
 generalize hres:(decide (xs.length≤4)&&xs.all p)=res at *
 have hlr:=rws_len It.cells xs
 have hgr:=rws_get It.cells xs
 generalize rws It.cells xs=rows at *
 refine pure_of_awp good Tryd.func86 rfl (by kernel_rfl) (by decide) ?_
 conv=>whnf
 rw [hlr]
 by_cases a1:(4:Int) < (xs.length:Int)
 · rw [ltB_t a1]
   rw [decide_eq_false (by omega),Bool.false_and] at hres
   subst hres
   conv=>whnf
   exact ⟨_,rfl⟩
 rw [ltB_f (by omega)]
 rw [decide_eq_true (by omega),Bool.true_and] at hres
 conv=>whnf
 refine loop_drop (fun n fr st=>∃ i:Nat,n+i=xs.length∧(xs.take i).all p=true∧st=[⟨[[.str root,.sl rrows]],2,true,true,true,.cell⟩]∧Holds fr [(2,.ptr 0 0 0),(11,.sl rows),(12,.int .i64 xs.length),(13,.int .i64 i)]) xs.length none ⟨0,rfl,rfl,rfl,rfl,rfl,by rw [← hlr]; rfl,rfl,trivial⟩ ?_
 rintro n fr st ⟨i,hi,hal,rfl,hh⟩
 obtain ⟨fr,rfl⟩:=hh.split
 clear hh
 conv=>whnf
 by_cases hlt:i < xs.length
 · rw [ltB_t (by omega)]
   conv=>whnf
   have hg:=hgr i hlt
   have hat:=all_take (p:=p) hlt
   have hano:=all_no (p:=p) hlt
   have hx:=hd xs[i]
   generalize xs[i]=y at *
   obtain ⟨yk,ym,yy⟩:=y
   simp only [It.cells] at hg hx
   refine ⟨by omega,rows,_,3,rfl,hg,rfl,rfl,?_⟩
   have h2:∀ b c,(b&&c)=true∨(b&&c)=false:=fun b c=>by cases b <;> cases c <;> simp
   have key:(∀ fr0:Nat→V,True):=fun _=>trivial
   cases ym <;> cases yy
   case true.true =>
    conv=>whnf
    rw [← hres,hano (by rw [hx]; cases hasR rules yk <;> rfl)]
    exact ⟨_,rfl⟩
   all_goals
    conv=>whnf
    refine .inl ((f1 yk).mono ?_)
    rintro r rfl
    generalize hasR rules yk=hb at *
    cases hb with
    | false =>
      conv=>whnf
      rw [← hres,hano (by rw [hx]; rfl)]
      exact ⟨_,rfl⟩
    | true =>
      conv=>whnf
      refine ⟨n - 1,by omega,some [0],i+1,by omega,by rw [hat,hal,hx]; rfl,rfl,rfl,rfl,rfl,?_,trivial⟩
      show V.int .i64 (IntKind.i64.wrap (i+1))=_
      rw [wrap64 (by omega) (by omega)]; simp
 · rw [ltB_f (by omega)]
   rw [List.take_of_length_le (by omega)] at hal
   rw [hal] at hres
   subst hres
   conv=>whnf
set_option maxHeartbeats 8000000 in
theorem schemaFault_pure (s:Sc) (hs:s.Sm):Pure Tryd.prog 63 [.agg s.cells] (faultIs (okS s)):=by
 have f1:=fun k=>schemaHas_pure s.rules k hs.2.1
 have f1t:=fun i k=>schemaHas_pure (s.rules.take i) k (by rw [List.length_take]; have:=hs.2.1; omega)
 have f2:=itemsFault_pure s hs
 have hO:=okS_def s
 generalize okS s=res at *
 obtain ⟨root,rules⟩:=s
 obtain ⟨_,hn,hx⟩:=hs
 simp only [Sc.cells] at f1 f1t f2 hn hx hO ⊢
 have hlr:=rws_len Ru.cells rules
 have hgr:=rws_get Ru.cells rules
 have htk:=rws_take Ru.cells rules
 have hwid:=rws_wid Ru.cells Ru.len rules
 have hkt:=fun i (h:i < rules.length)=>kinds_take h
 have hkn:=fun i (h:i < rules.length)=>kinds_no h
 simp only [← htk] at f1t
 generalize rws Ru.cells rules=rows at *
 refine pure_of_awp good Tryd.func63 rfl (by kernel_rfl) (by decide) ?_
 conv=>whnf
 rw [hlr]
 by_cases a1:(6:Int) < (rules.length:Int)
 · rw [ltB_t a1]
   rw [decide_eq_false (by omega)] at hO
   conv=>whnf
   rw [hO]
   exact ⟨_,rfl⟩
 rw [ltB_f (by omega)]
 rw [decide_eq_true (by omega),Bool.true_and] at hO
 conv=>whnf
 refine loop_drop (fun n fr st=>∃ i:Nat,n+i=rules.length∧(rules.take i).all (ruleB rules)=true∧((rules.take i).map (·.kind)).Nodup∧st=[⟨[[.str root,.sl rows]],2,true,true,true,.cell⟩]∧Holds fr [(1,.ptr 0 0 0),(12,.sl rows),(13,.int .i64 rules.length),(14,.int .i64 i)]) rules.length none ⟨0,rfl,rfl,by simp,rfl,rfl,rfl,by rw [← hlr]; rfl,rfl,trivial⟩ ?_
 rintro n fr st ⟨i,hi,hal,hnd,rfl,hh⟩
 obtain ⟨fr,rfl⟩:=hh.split
 clear hh
 conv=>whnf
 by_cases hlt:i < rules.length
 · rw [ltB_t (by omega)]
   conv=>whnf
   have hg:=hgr i hlt
   have hxi:=hx rules[i] (List.getElem_mem _)
   have hat:=all_take (p:=ruleB rules) hlt
   have hano:=all_no (p:=ruleB rules) hlt
   have hk1:=hkt i hlt
   have hk2:=hkn i hlt
   have hrd:ruleB rules rules[i]=(nameL rules[i].kind&&decide (rules[i].kind≠textW)&&decide (rules[i].kids.length≤4)&&rules[i].kids.all (itemB rules)):=rfl
   generalize rules[i]=x at *
   obtain ⟨kind,text,kids⟩:=x
   obtain ⟨g1,g2,g3⟩:=hxi
   simp only [Ru.cells] at hg hat hano hk1 hk2 hrd g1 g2 g3
   have f2:=f2 kids (by omega)
   have f4:=f1t i kind
   generalize rws It.cells kids=krows at *
   refine ⟨by omega,rows,_,3,rfl,hg,rfl,rfl,?_⟩
   conv=>whnf
   refine ⟨_,.inl (nameOk_pure kind (by omega)),?_⟩
   cases hN:nameL kind with
   | false =>
     conv=>whnf
     rw [hO,hano (by rw [hrd,hN]; rfl),Bool.and_false,Bool.false_and]
     exact ⟨_,rfl⟩
   | true =>
     conv=>whnf
     by_cases hT:kind=[116,101,120,116]
     · rw [eqS_t hT]
       conv=>whnf
       rw [hO,hano (by rw [hrd,hN,decide_eq_false (by simp [textW,hT])]; rfl),Bool.and_false,Bool.false_and]
       exact ⟨_,rfl⟩
     rw [eqS_f hT]
     rw [hN,decide_eq_true (show kind≠textW from hT),Bool.true_and,Bool.true_and] at hrd
     conv=>whnf
     refine ⟨hwid,?_⟩
     conv=>whnf
     refine ⟨by omega,by omega,?_⟩
     conv=>whnf
     refine ⟨rfl,?_⟩
     conv=>whnf
     refine ⟨_,.inl f4,?_⟩
     generalize hasR (rules.take i) kind=hb at *
     cases hb with
     | true =>
       conv=>whnf
       rw [hO,decide_eq_false (hk2 rfl),Bool.and_false]
       exact ⟨_,rfl⟩
     | false =>
       conv=>whnf
       refine .inl (f2.mono ?_)
       intro r hr
       generalize hbb:(decide (kids.length≤4)&&kids.all (itemB rules))=bb at *
       cases bb with
       | true =>
         obtain rfl:r=nilErr:=hr
         conv=>whnf
         refine ⟨n - 1,by omega,some [0],i+1,by omega,by rw [hat,hal,hrd]; rfl,hk1.2 ⟨hnd,rfl⟩,rfl,rfl,rfl,rfl,?_,trivial⟩
         show V.int .i64 (IntKind.i64.wrap (i+1))=_
         rw [wrap64 (by omega) (by omega)]; simp
       | false =>
         obtain ⟨a,rfl⟩:isErr r:=hr
         conv=>whnf
         rw [hO,hano (by rw [hrd]),Bool.and_false,Bool.false_and]
         exact ⟨_,rfl⟩
 · rw [ltB_f (by omega)]
   rw [List.take_of_length_le (by omega)] at hal hnd
   rw [hal,decide_eq_true hnd,Bool.and_true,Bool.and_true] at hO
   have f1:=f1 root
   generalize hasR rules root=hb at *
   subst hO
   conv=>whnf
   refine .inl (f1.mono ?_)
   rintro r rfl
   cases res with
   | false =>
     conv=>whnf
     exact ⟨_,rfl⟩
   | true =>
     conv=>whnf
theorem implSchemaOk_pure (s:Sc) (hs:s.Sm):Pure Tryd.prog 30 [.agg s.cells] (·=.bool (okS s)):=by
 have f1:=schemaFault_pure s hs
 generalize okS s=res at *
 obtain ⟨root,rules⟩:=s
 simp only [Sc.cells] at f1 ⊢
 generalize rws Ru.cells rules=rows at *
 refine pure_of_awp good Tryd.func30 rfl (by kernel_rfl) (by decide) ?_
 conv=>whnf
 refine .inl (f1.mono ?_)
 intro r hr
 cases res with
 | true =>
   obtain rfl:r=nilErr:=hr
   conv=>whnf
 | false =>
   obtain ⟨a,rfl⟩:isErr r:=hr
   conv=>whnf
end Go.Cod
set_option linter.all false
namespace Go.Cod
variable [Adr]
open Go Go.Proofs
set_option maxRecDepth 10000
abbrev Ks:=List (List UInt8)
def takesB (k:List UInt8) (ks:Ks):Bool:=match ks with
 | []=>false
 | y::_=>decide (y=k)
def manyP (k:List UInt8) (p:Ks→Bool):Ks→Bool
 | []=>p []
 | y::ys=>p (y::ys)||(decide (y=k)&&manyP k p ys)
def itemP (x:It) (p:Ks→Bool) (ks:Ks):Bool:=match x.many with
 | true=>manyP x.kind p ks
 | false=>match x.may with
   | true=>p ks||(takesB x.kind ks&&p ks.tail)
   | false=>takesB x.kind ks&&p ks.tail
def matchP:List It→Ks→Bool
 | []=>fun ks=>decide (ks.length=0)
 | x::xs=>itemP x (matchP xs)
theorem rws_tail {α:Type} (c:α→List V) (ys:List α):((rws c ys).take (rws c ys).length).drop 1=rws c ys.tail:=by
 rw [List.take_of_length_le (Nat.le_refl _)]
 cases ys <;> rfl
theorem match_cons (x:It) (xs:List It) (ks:Ks):matchP (x::xs) ks=(((x.many||x.may)&&matchP xs ks)||(takesB x.kind ks&&(if x.many=true then matchP (x::xs) ks.tail else matchP xs ks.tail))):=by
 obtain ⟨kind,many,may⟩:=x
 show itemP _ _ _=_
 cases many with
 | true =>
   show manyP kind (matchP xs) ks=_
   cases ks with
   | nil=>simp [manyP,takesB]
   | cons y ys=>simp [manyP,takesB,matchP,itemP]
 | false=>cases may <;> simp [itemP]
set_option maxHeartbeats 8000000 in
theorem l3Match_pure:∀ (n:Nat) (xs:List It) (ks:Ks),xs.length+ks.length < n→Pure Tryd.prog 35 [.sl (rws It.cells xs),.sl (rws sCells ks)] (·=.bool (matchP xs ks))
 | 0,_,_,h=>by omega
 | n+1,[],ks,h=>by
   have hlk:=rws_len sCells ks
   have hM:matchP [] ks=decide (ks.length=0):=rfl
   generalize matchP [] ks=res at *
   generalize rws sCells ks=krows at *
   refine pure_of_awp good Tryd.func35 rfl (by kernel_rfl) (by decide) ?_
   conv=>whnf
   rw [eqB_t (show (((rws It.cells []).length:Nat):Int)=0 from rfl)]
   conv=>whnf
   rw [hlk,hM,eqB_def]
   congr 1
   exact decide_eq_decide.2 (by omega)
 | n+1,x::xs,ks,h=>by
   have i1:=l3Match_pure n xs ks (by simp at h; omega)
   have i2:=fun (_:0 < ks.length)=>l3Match_pure n (x::xs) ks.tail (by simp at h ⊢; omega)
   have i3:=l3Match_pure n xs ks.tail (by simp at h ⊢; omega)
   have hM:=match_cons x xs ks
   have hlx:(rws It.cells (x::xs)).length=xs.length+1:=by rw [rws_len]; rfl
   have hg:(rws It.cells (x::xs))[0]? = some x.cells:=rfl
   have ht:((rws It.cells (x::xs)).take (rws It.cells (x::xs)).length).drop 1=rws It.cells xs:=rws_tail It.cells (x::xs)
   have hw:=rws_wid It.cells It.len (x::xs)
   have hwk:=rws_wid sCells (k:=1) (fun _=>rfl) ks
   rw [← ht] at i1 i3
   have htk:=rws_tail sCells ks
   rw [← htk] at i2 i3
   have hlk:=rws_len sCells ks
   have hgk:=rws_get sCells ks
   generalize matchP (x::xs) ks.tail=q at *
   generalize matchP (x::xs) ks=res at *
   generalize matchP xs ks.tail=pt at *
   generalize matchP xs ks=p at *
   generalize rws It.cells (x::xs)=rows at *
   generalize rws sCells ks=krows at *
   obtain ⟨kind,many,may⟩:=x
   simp only [It.cells] at hg hM
   refine pure_of_awp good Tryd.func35 rfl (by kernel_rfl) (by decide) ?_
   conv=>whnf
   rw [hlx,eqB_f (by omega)]
   conv=>whnf
   refine ⟨by omega,rows,_,3,rfl,hg,rfl,rfl,?_⟩
   cases many with
   | false =>
     cases may with
     | false =>
       conv=>whnf
       cases ks with
       | nil =>
         rw [hlk,eqB_t (show (([]:Ks).length:Int)=0 from rfl)]
         conv=>whnf
         rw [hM]; rfl
       | cons y ys =>
         have hgy:=hgk 0 (by simp)
         simp only [List.getElem_cons_zero] at hgy
         rw [hlk,eqB_f (by simp; omega)]
         conv=>whnf
         refine ⟨by omega,krows,_,1,rfl,hgy,rfl,rfl,?_⟩
         conv=>whnf
         have hl0:0 < (y::ys).length:=by simp
         by_cases hy:y=kind
         · rw [eqS_t hy]
           have hM:res=pt:=by rw [hM]; simp [takesB,hy]
           conv=>whnf
           refine ⟨hw,?_⟩
           conv=>whnf
           refine ⟨by omega,by omega,rfl,?_⟩
           conv=>whnf
           refine ⟨hwk,?_⟩
           conv=>whnf
           refine ⟨by omega,by omega,rfl,?_⟩
           conv=>whnf
           refine ⟨_,.inl i3,?_⟩
           conv=>whnf
           rw [hM]
         · rw [eqS_f hy]
           conv=>whnf
           rw [hM]; simp [takesB,hy]
     | true =>
       conv=>whnf
       refine ⟨hw,?_⟩
       conv=>whnf
       refine ⟨by omega,by omega,?_⟩
       conv=>whnf
       refine .inl (i1.mono ?_)
       rintro r rfl
       cases p with
       | true =>
         conv=>whnf
         rw [hM]; rfl
       | false =>
         conv=>whnf
         cases ks with
         | nil =>
           rw [hlk,eqB_t (show (([]:Ks).length:Int)=0 from rfl)]
           conv=>whnf
           rw [hM]; rfl
         | cons y ys =>
           have hgy:=hgk 0 (by simp)
           simp only [List.getElem_cons_zero] at hgy
           rw [hlk,eqB_f (by simp; omega)]
           conv=>whnf
           refine ⟨by omega,krows,_,1,rfl,hgy,rfl,rfl,?_⟩
           conv=>whnf
           have hl0:0 < (y::ys).length:=by simp
           by_cases hy:y=kind
           · rw [eqS_t hy]
             have hM:res=pt:=by rw [hM]; simp [takesB,hy]
             conv=>whnf
             refine ⟨hw,?_⟩
             conv=>whnf
             refine ⟨by omega,by omega,rfl,?_⟩
             conv=>whnf
             refine ⟨hwk,?_⟩
             conv=>whnf
             refine ⟨by omega,by omega,rfl,?_⟩
             conv=>whnf
             refine ⟨_,.inl i3,?_⟩
             conv=>whnf
             rw [hM]
           · rw [eqS_f hy]
             conv=>whnf
             rw [hM]; simp [takesB,hy]
   | true =>
     cases may with
     | false =>
       conv=>whnf
       refine ⟨hw,?_⟩
       conv=>whnf
       refine ⟨by omega,by omega,?_⟩
       conv=>whnf
       refine .inl (i1.mono ?_)
       rintro r rfl
       cases p with
       | true =>
         conv=>whnf
         rw [hM]; rfl
       | false =>
         conv=>whnf
         cases ks with
         | nil =>
           rw [hlk,eqB_t (show (([]:Ks).length:Int)=0 from rfl)]
           conv=>whnf
           rw [hM]; rfl
         | cons y ys =>
           have hgy:=hgk 0 (by simp)
           simp only [List.getElem_cons_zero] at hgy
           rw [hlk,eqB_f (by simp; omega)]
           conv=>whnf
           refine ⟨by omega,krows,_,1,rfl,hgy,rfl,rfl,?_⟩
           conv=>whnf
           have hl0:0 < (y::ys).length:=by simp
           by_cases hy:y=kind
           · rw [eqS_t hy]
             have hM:res=q:=by rw [hM]; simp [takesB,hy]
             conv=>whnf
             refine ⟨hwk,?_⟩
             conv=>whnf
             refine ⟨by omega,by omega,?_⟩
             conv=>whnf
             refine .inl ((i2 hl0).mono ?_)
             rintro r rfl
             conv=>whnf
             rw [hM]
           · rw [eqS_f hy]
             conv=>whnf
             rw [hM]; simp [takesB,hy]
     | true =>
       conv=>whnf
       refine ⟨hw,?_⟩
       conv=>whnf
       refine ⟨by omega,by omega,?_⟩
       conv=>whnf
       refine .inl (i1.mono ?_)
       rintro r rfl
       cases p with
       | true =>
         conv=>whnf
         rw [hM]; rfl
       | false =>
         conv=>whnf
         cases ks with
         | nil =>
           rw [hlk,eqB_t (show (([]:Ks).length:Int)=0 from rfl)]
           conv=>whnf
           rw [hM]; rfl
         | cons y ys =>
           have hgy:=hgk 0 (by simp)
           simp only [List.getElem_cons_zero] at hgy
           rw [hlk,eqB_f (by simp; omega)]
           conv=>whnf
           refine ⟨by omega,krows,_,1,rfl,hgy,rfl,rfl,?_⟩
           conv=>whnf
           have hl0:0 < (y::ys).length:=by simp
           by_cases hy:y=kind
           · rw [eqS_t hy]
             have hM:res=q:=by rw [hM]; simp [takesB,hy]
             conv=>whnf
             refine ⟨hwk,?_⟩
             conv=>whnf
             refine ⟨by omega,by omega,?_⟩
             conv=>whnf
             refine .inl ((i2 hl0).mono ?_)
             rintro r rfl
             conv=>whnf
             rw [hM]
           · rw [eqS_f hy]
             conv=>whnf
             rw [hM]; simp [takesB,hy]
end Go.Cod
set_option linter.all false
namespace Go.Cod
variable [Adr]
open Go Go.Proofs
set_option maxRecDepth 10000
def capOk (cap:List V):Prop:=cap=[]∨∃ a b,cap=[.rptr a,.rptr b]∧V.clean.cleanL 0 a=true∧V.clean.cleanL 0 b=true
def Good (v:V) (p:Ks→Bool):Prop:=∃ (f:FuncId) (cap:List V),v=.fn f cap∧capOk cap∧∀ ks:Ks,Pure Tryd.prog f (.sl (rws sCells ks)::cap) (·=.bool (p ks))
theorem capOk.clean {cap:List V} (h:capOk cap):V.clean.cleanL 0 cap=true:=by
 rcases h with rfl | ⟨a,b,rfl,ha,hb⟩
 · rfl
 · simp only [V.clean.cleanL,V.clean,ha,hb,Bool.and_self]
theorem capOk.share {cap:List V} (h:capOk cap) (st:St):share.go st cap=cap:=by
 rcases h with rfl | ⟨a,b,rfl,ha,hb⟩ <;> rfl
theorem clean_cap {cap:List V} (h:capOk cap) (rows:List (List V)):V.clean.cleanL 0 ([.sl rows]++cap)=true:=by
 show (true&&V.clean.cleanL 0 cap)=true
 rw [h.clean]; rfl
theorem share_cap {cap:List V} (h:capOk cap) (st:St) (rows:List (List V)):share.go st ([.sl rows]++cap)=.sl rows::cap:=by
 show V.sl rows::share.go st cap=_
 rw [h.share]
theorem machine1_pure (ks:Ks):Pure Tryd.prog 87 [.sl (rws sCells ks)] (·=.bool (matchP [] ks)):=by
 have hlk:=rws_len sCells ks
 have hM:matchP [] ks=decide (ks.length=0):=rfl
 generalize matchP [] ks=res at *
 generalize rws sCells ks=krows at *
 refine pure_of_awp good Tryd.func87 rfl (by kernel_rfl) (by decide) ?_
 conv=>whnf
 rw [hlk,hM,eqB_def]
 congr 1
 exact decide_eq_decide.2 (by omega)
theorem takes_pure (x:It) (ks:Ks):Pure Tryd.prog 100 [.sl (rws sCells ks),.rptr x.cells] (·=.bool (takesB x.kind ks)):=by
 have hlk:=rws_len sCells ks
 have hgk:=rws_get sCells ks
 obtain ⟨kind,many,may⟩:=x
 simp only [It.cells]
 cases ks with
 | nil =>
   generalize rws sCells []=krows at *
   refine pure_of_awp good Tryd.func100 rfl (by kernel_rfl) (by decide) ?_
   conv=>whnf
   rw [hlk,ltB_f (by simp)]
   conv=>whnf
   rfl
 | cons y ys =>
   have hgy:=hgk 0 (by simp)
   simp only [List.getElem_cons_zero] at hgy
   generalize rws sCells (y::ys)=krows at *
   refine pure_of_awp good Tryd.func100 rfl (by kernel_rfl) (by decide) ?_
   conv=>whnf
   rw [hlk,ltB_t (by have:0 < (y::ys).length:=(by simp); omega)]
   conv=>whnf
   refine ⟨by omega,krows,_,1,rfl,hgy,rfl,rfl,?_⟩
   conv=>whnf
   rw [eqS_def]
   rfl
theorem takes_pos {k:List UInt8} {ks:Ks} (h:takesB k ks=true):1≤ks.length:=by
 cases ks with
 | nil=>cases h
 | cons y ys=>simp
theorem manyP_step (k:List UInt8) (p:Ks→Bool) (ks:Ks):manyP k p ks=(p ks||(takesB k ks&&manyP k p ks.tail)):=by
 cases ks with
 | nil=>simp [manyP,takesB]
 | cons y ys=>rfl
set_option maxHeartbeats 4000000 in
theorem many_pure (x:It) (v:V) (p:Ks→Bool) (hv:Good v p) (ks:Ks):Pure Tryd.prog 101 [.sl (rws sCells ks),.rptr [.fn 100 [.rptr x.cells]],.rptr [v]] (·=.bool (manyP x.kind p ks)):=by
 obtain ⟨f,cap,rfl,hcl,hp⟩:=hv
 have ht:=takes_pure x
 have hs:=manyP_step x.kind p
 have hpos:=fun ks=>takes_pos (k:=x.kind) (ks:=ks)
 obtain ⟨kind,many,may⟩:=x
 simp only [It.cells] at ht hs hpos ⊢
 refine pure_of_awp good Tryd.func101 rfl (by kernel_rfl) (by decide) ?_
 conv=>whnf
 refine loop_intro (fun n fr st=>st=[]∧∃ js:Ks,js.length=n∧manyP kind p ks=manyP kind p js∧Holds fr [(0,.sl (rws sCells js)),(1,.rptr [.fn 100 [.rptr [.str kind,.bool many,.bool may]]]),(2,.rptr [.fn f cap])]) ks.length ⟨rfl,ks,rfl,rfl,rfl,rfl,rfl,trivial⟩ ?_
 rintro n fr st ⟨rfl,js,hj,hm,hh⟩
 obtain ⟨fr,rfl⟩:=hh.split
 clear hh
 have ht:=ht js
 have hp0:=hp js
 have hs:=hs js
 have hpos:=hpos js
 have htl:=rws_tail sCells js
 have hwk:=rws_wid sCells (k:=1) (fun _=>rfl) js
 have hlj:=rws_len sCells js
 generalize hjr:rws sCells js=jrows at *
 have hc:=clean_cap hcl jrows
 have hp1:Pure Tryd.prog f (share.go [] ([.sl jrows]++cap)) (·=.bool (p js)):=by rw [share_cap hcl]; exact hp0
 conv=>whnf
 refine .inl (ht.mono ?_)
 rintro r rfl
 cases hT:takesB kind js with
 | false =>
   rw [hT,Bool.false_and,Bool.or_false] at hs
   conv=>whnf
   refine match_true hc ?_
   refine .inl (hp1.mono ?_)
   rintro r rfl
   conv=>whnf
   rw [hm,hs]
 | true =>
   rw [hT,Bool.true_and] at hs
   conv=>whnf
   refine match_true hc ?_
   refine .inl (hp1.mono ?_)
   rintro r rfl
   cases hP:p js with
   | true =>
     rw [hP] at hs hp1
     conv=>whnf
     refine match_true hc ?_
     refine .inl (hp1.mono ?_)
     rintro r rfl
     conv=>whnf
     rw [hm,hs]; rfl
   | false =>
     rw [hP,Bool.false_or] at hs
     conv=>whnf
     refine ⟨hwk,?_⟩
     conv=>whnf
     have:=hpos hT
     refine ⟨by omega,by omega,?_⟩
     conv=>whnf
     refine ⟨n - 1,by omega,rfl,js.tail,by simp; omega,by rw [hm,hs],?_,rfl,rfl,trivial⟩
     show V.sl _=V.sl _
     rw [← htl]; rfl
set_option maxHeartbeats 4000000 in
theorem may_pure (x:It) (v:V) (p:Ks→Bool) (hv:Good v p) (ks:Ks):Pure Tryd.prog 102 [.sl (rws sCells ks),.rptr [v],.rptr [.fn 100 [.rptr x.cells]]] (·=.bool (p ks||(takesB x.kind ks&&p ks.tail))):=by
 obtain ⟨f,cap,rfl,hcl,hp⟩:=hv
 have ht:=takes_pure x ks
 have hpos:=takes_pos (k:=x.kind) (ks:=ks)
 have hp0:=hp ks
 have hp2:=hp ks.tail
 have htl:=rws_tail sCells ks
 have hwk:=rws_wid sCells (k:=1) (fun _=>rfl) ks
 have hlj:=rws_len sCells ks
 rw [← htl] at hp2
 obtain ⟨kind,many,may⟩:=x
 simp only [It.cells] at ht hpos ⊢
 generalize rws sCells ks=jrows at *
 have hc:=clean_cap hcl jrows
 have hc2:=clean_cap hcl ((jrows.take jrows.length).drop 1)
 have hp1:Pure Tryd.prog f (share.go [] ([.sl jrows]++cap)) (·=.bool (p ks)):=by rw [share_cap hcl]; exact hp0
 have hp3:Pure Tryd.prog f (share.go [] ([.sl ((jrows.take jrows.length).drop 1)]++cap)) (·=.bool (p ks.tail)):=by rw [share_cap hcl]; exact hp2
 generalize p ks=b1 at *
 generalize p ks.tail=b2 at *
 refine pure_of_awp good Tryd.func102 rfl (by kernel_rfl) (by decide) ?_
 conv=>whnf
 refine Chk_mk hc ⟨_,.inl hp1,?_⟩
 cases b1 with
 | true =>
   conv=>whnf
   rfl
 | false =>
   conv=>whnf
   refine ⟨_,.inl ht,?_⟩
   cases hT:takesB kind ks with
   | false =>
     conv=>whnf
     rfl
   | true =>
     have:=hpos hT
     conv=>whnf
     refine ⟨hwk,?_⟩
     conv=>whnf
     refine ⟨by omega,by omega,rfl,?_⟩
     conv=>whnf
     refine Chk_mk hc2 ⟨_,.inl hp3,?_⟩
     conv=>whnf
     rfl
set_option maxHeartbeats 4000000 in
theorem one_pure (x:It) (v:V) (p:Ks→Bool) (hv:Good v p) (ks:Ks):Pure Tryd.prog 103 [.sl (rws sCells ks),.rptr [.fn 100 [.rptr x.cells]],.rptr [v]] (·=.bool (takesB x.kind ks&&p ks.tail)):=by
 obtain ⟨f,cap,rfl,hcl,hp⟩:=hv
 have ht:=takes_pure x ks
 have hpos:=takes_pos (k:=x.kind) (ks:=ks)
 have hp2:=hp ks.tail
 have htl:=rws_tail sCells ks
 have hwk:=rws_wid sCells (k:=1) (fun _=>rfl) ks
 have hlj:=rws_len sCells ks
 rw [← htl] at hp2
 obtain ⟨kind,many,may⟩:=x
 simp only [It.cells] at ht hpos ⊢
 generalize rws sCells ks=jrows at *
 have hc2:=clean_cap hcl ((jrows.take jrows.length).drop 1)
 have hp3:Pure Tryd.prog f (share.go [] ([.sl ((jrows.take jrows.length).drop 1)]++cap)) (·=.bool (p ks.tail)):=by rw [share_cap hcl]; exact hp2
 generalize p ks.tail=b2 at *
 refine pure_of_awp good Tryd.func103 rfl (by kernel_rfl) (by decide) ?_
 conv=>whnf
 refine ⟨_,.inl ht,?_⟩
 cases hT:takesB kind ks with
 | false =>
   conv=>whnf
   rfl
 | true =>
   have:=hpos hT
   conv=>whnf
   refine ⟨hwk,?_⟩
   conv=>whnf
   refine ⟨by omega,by omega,rfl,?_⟩
   conv=>whnf
   refine Chk_mk hc2 ⟨_,.inl hp3,?_⟩
   conv=>whnf
   rfl
theorem rptr_leaf {xs:List V} (h:xs.all V.leaf=true):∀ x∈xs,x.leaf=true:=fun x hx=>List.all_eq_true.1 h x hx
set_option maxHeartbeats 4000000 in
theorem itemState_pure (x:It) (v:V) (p:Ks→Bool) (hv:Good v p):Pure Tryd.prog 88 [.agg x.cells,v] (fun r=>Good r (itemP x p)):=by
 have h2:=many_pure x v p hv
 have h3:=may_pure x v p hv
 have h4:=one_pure x v p hv
 have hI:itemP x p=fun ks=>itemP x p ks:=rfl
 obtain ⟨f,cap,rfl,hcl,hp⟩:=hv
 have hren:∀ sel,renV.go sel cap=cap:=fun sel=>renL_clean sel cap hcl.clean
 have hshr:∀ σ kn st,shr.go σ kn st cap=cap:=fun σ kn st=>by rcases hcl with rfl | ⟨a,b,rfl,_,_⟩ <;> rfl
 have hcc:V.clean.cleanL 0 [.fn f cap]=true:=by
  show (V.clean.cleanL 0 cap&&true)=true
  rw [hcl.clean]; rfl
 obtain ⟨kind,many,may⟩:=x
 simp only [It.cells] at h2 h3 h4 ⊢
 refine Full.freezeB (R:=fun o st'=>∃ r,o=.ret r∧st'=[⟨[[.str kind,.bool many,.bool may]],3,true,true,true,.cell⟩,⟨[[.fn f cap]],1,true,true,true,.cell⟩,⟨[[.fn 100 [.ptr 0 0 0]]],1,true,true,true,.cell⟩] ∧
   r=(match many with | true=>.fn 101 [.ptr 2 0 0,.ptr 1 0 0] | false=>match may with | true=>.fn 102 [.ptr 1 0 0,.ptr 2 0 0] | false=>.fn 103 [.ptr 2 0 0,.ptr 1 0 0])) ?_ ?_
 · refine full_of_awp good Tryd.func88 rfl (by kernel_rfl) (by decide) ?_
   cases many <;> cases may
   all_goals
    conv=>whnf
    refine ⟨[0,1,2],false,?_⟩
    conv=>whnf
    refine ⟨_,rfl,?_,rfl⟩
    show [(⟨_,_,_,_,_,_⟩:O),⟨[[.fn f (renV.go _ cap)]],_,_,_,_,_⟩,⟨_,_,_,_,_,_⟩]=_
    rw [hren]
    rfl
 · rintro o st' ⟨r,rfl,rfl,rfl⟩
   refine ⟨_,match many with | true=>.fn 101 [.rptr [.fn 100 [.rptr [.str kind,.bool many,.bool may]]],.rptr [.fn f cap]] | false=>match may with | true=>.fn 102 [.rptr [.fn f cap],.rptr [.fn 100 [.rptr [.str kind,.bool many,.bool may]]]] | false=>.fn 103 [.rptr [.fn 100 [.rptr [.str kind,.bool many,.bool may]]],.rptr [.fn f cap]],rfl,?_,?_,?_⟩
   · intro k o hk
     match k,hk with
     | 0,hk=>simp at hk; subst hk; exact ⟨rfl,rfl⟩
     | 1,hk=>simp at hk; subst hk; exact ⟨rfl,rfl⟩
     | 2,hk=>simp at hk; subst hk; exact ⟨rfl,rfl⟩
     | k+3,hk=>simp at hk
   · generalize hst:([⟨[[.str kind,.bool many,.bool may]],3,true,true,true,.cell⟩,⟨[[.fn f cap]],1,true,true,true,.cell⟩,⟨[[.fn 100 [.ptr 0 0 0]]],1,true,true,true,.cell⟩]:St)=st
     have b0:FV st (.ptr 0 0 0) (.rptr [.str kind,.bool many,.bool may]):=by
      refine FV.box (o:=⟨[[.str kind,.bool many,.bool may]],3,true,true,true,.cell⟩) (row:=[.str kind,.bool many,.bool may]) (by rw [← hst]; rfl) rfl (rptr_leaf rfl) (.cons (.same _ rfl) (.cons (.same _ rfl) (.cons (.same _ rfl) .nil)))
     have b1:FV st (.ptr 1 0 0) (.rptr [.fn f cap]):=by
      refine FV.box (o:=⟨[[.fn f cap]],1,true,true,true,.cell⟩) (row:=[.fn f cap]) (by rw [← hst]; rfl) rfl (rptr_leaf rfl) (.cons (.same _ (by show V.clean.cleanL 0 cap=true; exact hcl.clean)) .nil)
     have b2:FV st (.ptr 2 0 0) (.rptr [.fn 100 [.rptr [.str kind,.bool many,.bool may]]]):=by
      refine FV.box (o:=⟨[[.fn 100 [.ptr 0 0 0]]],1,true,true,true,.cell⟩) (row:=[.fn 100 [.ptr 0 0 0]]) (by rw [← hst]; rfl) rfl (rptr_leaf rfl) (.cons (.fn' (.cons b0 .nil)) .nil)
     cases many <;> cases may
     · exact .fn' (.cons b2 (.cons b1 .nil))
     · exact .fn' (.cons b1 (.cons b2 .nil))
     · exact .fn' (.cons b2 (.cons b1 .nil))
     · exact .fn' (.cons b2 (.cons b1 .nil))
   · cases many <;> cases may
     · exact ⟨_,_,rfl,.inr ⟨_,_,rfl,rfl,hcc⟩,h4⟩
     · exact ⟨_,_,rfl,.inr ⟨_,_,rfl,hcc,rfl⟩,h3⟩
     · exact ⟨_,_,rfl,.inr ⟨_,_,rfl,rfl,hcc⟩,h2⟩
     · exact ⟨_,_,rfl,.inr ⟨_,_,rfl,rfl,hcc⟩,h2⟩
end Go.Cod
set_option linter.all false
namespace Go.Cod
variable [Adr]
open Go Go.Proofs
set_option maxRecDepth 10000
theorem good_nil:Good (.fn 87 []) (matchP []):=⟨_,[],rfl,.inl rfl,fun ks=>machine1_pure ks⟩
set_option maxHeartbeats 4000000 in
theorem schemaMachine_pure (xs:List It) (hn:xs.length≤1048576):Pure Tryd.prog 66 [.sl (rws It.cells xs)] (fun r=>Good r (matchP xs)):=by
 have hlx:=rws_len It.cells xs
 have hgx:=rws_get It.cells xs
 have hI:=itemState_pure
 generalize rws It.cells xs=rows at *
 refine pure_of_awp good Tryd.func66 rfl (by kernel_rfl) (by decide) ?_
 conv=>whnf
 refine loop_intro (fun n fr st=>st=[]∧n≤xs.length∧∃ v,Good v (matchP (xs.drop n))∧Holds fr [(0,.sl rows),(3,v),(4,.int .i64 ((n:Int) - 1))]) xs.length ⟨rfl,Nat.le_refl _,.fn 87 [],by rw [List.drop_of_length_le (Nat.le_refl _)]; exact good_nil,rfl,rfl,?_,trivial⟩ ?_
 · show V.int .i64 (IntKind.i64.wrap _)=_
   rw [hlx,wrap64 (by omega) (by omega)]
 rintro n fr st ⟨rfl,hle,v,hv,hh⟩
 have hv1:=hv
 obtain ⟨f,cap,rfl,hcl,hp⟩:=hv1
 obtain ⟨fr,rfl⟩:=hh.split
 clear hh
 conv=>whnf
 cases n with
 | zero =>
   rw [leB_f (by omega)]
   conv=>whnf
   refine match_true (by show V.clean.cleanL 0 (share.go [] cap)=true; rw [hcl.share]; exact hcl.clean) ?_
   show Good (.fn f (share.go [] cap)) _
   rw [hcl.share]
   exact hv
 | succ n =>
   rw [leB_t (by omega)]
   have hnx:n < xs.length:=by omega
   have hg:=hgx n hnx
   have hm:matchP (xs.drop n)=itemP xs[n] (matchP (xs.drop (n+1))):=by rw [List.drop_eq_getElem_cons hnx]; rfl
   have hI:=hI xs[n] _ _ hv
   rw [← hm] at hI
   generalize xs[n]=x at *
   obtain ⟨kind,many,may⟩:=x
   simp only [It.cells] at hg hI
   have hw:(((n+1:Nat):Int) - 1)=n:=by omega
   rw [hw]
   have hcc:V.clean.cleanL 0 [.agg [.str kind,.bool many,.bool may],.fn f cap]=true:=by
    show (true&&(V.clean.cleanL 0 cap&&true))=true
    rw [hcl.clean]; rfl
   have hsc:share.go [] [V.agg [.str kind,.bool many,.bool may],.fn f cap]=[V.agg [.str kind,.bool many,.bool may],.fn f cap]:=by
    show [_,V.fn f (share.go [] cap)]=_
    rw [hcl.share]; rfl
   rw [← hsc] at hI
   conv=>whnf
   refine ⟨by omega,rows,_,3,rfl,hg,rfl,rfl,?_⟩
   conv=>whnf
   refine match_true hcc ?_
   refine .inl (hI.mono ?_)
   rintro r ⟨f2,cap2,rfl,hc2,hp2⟩
   conv=>whnf
   refine ⟨n,by omega,rfl,by omega,.fn f2 cap2,⟨f2,cap2,rfl,hc2,hp2⟩,rfl,rfl,?_,trivial⟩
   show V.int .i64 (IntKind.i64.wrap _)=_
   rw [wrap64 (by omega) (by omega)]
set_option maxHeartbeats 4000000 in
theorem ruleTakes_pure (r:Ru) (hr:r.Sm) (ks:Ks):Pure Tryd.prog 33 [.agg r.cells,.sl (rws sCells ks)] (·=.bool (decide (ks.length≤20)&&matchP r.kids ks)):=by
 have hM:=schemaMachine_pure r.kids hr.2.1
 have hlk:=rws_len sCells ks
 obtain ⟨kind,text,kids⟩:=r
 simp only [Ru.cells] at hM ⊢
 generalize rws It.cells kids=rows at *
 generalize hjr:rws sCells ks=jrows at *
 generalize matchP kids=p at *
 refine pure_of_awp good Tryd.func33 rfl (by kernel_rfl) (by decide) ?_
 conv=>whnf
 rw [hlk]
 by_cases h:(ks.length:Int)≤20
 · rw [leB_t h]
   conv=>whnf
   refine .inl (hM.mono ?_)
   rintro r ⟨f,cap,rfl,hcl,hp⟩
   have hp:=hp ks
   rw [hjr] at hp
   have hp1:Pure Tryd.prog f (share.go [⟨[[.str kind,.bool text,.sl rows]],3,true,true,true,.cell⟩] ([.sl jrows]++cap)) (·=.bool (p ks)):=by rw [share_cap hcl]; exact hp
   conv=>whnf
   refine match_true (clean_cap hcl jrows) ?_
   refine .inl (hp1.mono ?_)
   rintro r rfl
   conv=>whnf
   rw [decide_eq_true (by omega)]; rfl
 · rw [leB_f (by omega)]
   conv=>whnf
   rw [decide_eq_false (by omega)]; rfl
def kidsS (s:Sc) (k:List UInt8) (ks:Ks):Bool:=okS s&&(match s.rules.find? fun r=>decide (r.kind=k) with
 | some r=>decide (ks.length≤20)&&matchP r.kids ks
 | none=>false)
theorem find_at (k:List UInt8):∀ (rs:List Ru) (n:Int),0≤n→hasR rs k=true→∃ (i:Nat) (h:i < rs.length),idxR k rs n=n+i∧rs.find? (fun r=>decide (r.kind=k))=some rs[i]
 | [],n,_,h=>by simp [hasR] at h
 | r::rs,n,hn,h=>by
   have he:hasR (r::rs) k=(decide (r.kind=k)||hasR rs k):=rfl
   rw [he] at h
   by_cases hk:r.kind=k
   · exact ⟨0,by simp,by simp [idxR,hk],by simp [hk]⟩
   · simp only [hk,decide_false,Bool.false_or] at h
     obtain ⟨i,hi,h1,h2⟩:=find_at k rs (n+1) (by omega) h
     refine ⟨i+1,by simpa using hi,?_,?_⟩
     · simp only [idxR,if_neg hk,h1]; omega
     · simp [hk,h2]
theorem find_none {rs:List Ru} {k:List UInt8} (h:hasR rs k=false):rs.find? (fun r=>decide (r.kind=k))=none:=by
 rw [List.find?_eq_none]
 intro r hr hd
 have:hasR rs k=true:=by
  unfold hasR
  rw [List.any_eq_true]
  exact ⟨r,hr,hd⟩
 rw [h] at this; cases this
set_option maxHeartbeats 4000000 in
theorem implSchemaKids_pure (s:Sc) (hs:s.Sm) (k:List UInt8) (ks:Ks):Pure Tryd.prog 8 [.agg s.cells,.str k,.sl (rws sCells ks)] (·=.bool (kidsS s k ks)):=by
 have f1:=schemaRule_pure s.rules k hs.2.1
 have f2:=implSchemaOk_pure s hs
 have f3:=fun r hr=>ruleTakes_pure r hr ks
 have hx:=hs.2.2
 have hK:kidsS s k ks=(okS s&&(match s.rules.find? fun r=>decide (r.kind=k) with
  | some r=>decide (ks.length≤20)&&matchP r.kids ks
  | none=>false)):=rfl
 generalize kidsS s k ks=res at *
 generalize okS s=ok at *
 obtain ⟨root,rules⟩:=s
 simp only [Sc.cells] at f1 f2 hK hx ⊢
 generalize rws sCells ks=krows at *
 generalize hrr:rws Ru.cells rules=rows at *
 refine pure_of_awp good Tryd.func8 rfl (by kernel_rfl) (by decide) ?_
 conv=>whnf
 refine .inl (f2.mono ?_)
 rintro r rfl
 cases ok with
 | false =>
   conv=>whnf
   rw [hK]; rfl
 | true =>
   conv=>whnf
   have he:ruleErr rules k=if hasR rules k=true then nilErr else errV 0:=rfl
   cases hh:hasR rules k with
   | false =>
     rw [find_none hh] at hK
     rw [hh] at he
     obtain ⟨r0,hr0⟩:=ruleOf_cells rules k
     rw [hr0,he] at f1
     obtain ⟨a,b,c⟩:=r0
     simp only [Ru.cells] at f1
     refine .inl (f1.mono ?_)
     rintro r rfl
     conv=>whnf
     refine .inl ((errorsIs_same 0).mono ?_)
     rintro r rfl
     conv=>whnf
     rw [hK]; rfl
   | true =>
     obtain ⟨i,hi,h1,h2⟩:=find_at k rules 0 (by omega) hh
     have hr0:ruleOf rules k=rules[i].cells:=by unfold ruleOf; rw [h2]
     have f3:=f3 rules[i] (hx _ (List.getElem_mem _))
     rw [h2] at hK
     rw [hh] at he
     rw [hr0,he] at f1
     generalize rules[i]=x at *
     obtain ⟨kind,text,kids⟩:=x
     simp only [Ru.cells] at f1 f3 hK
     generalize rws It.cells kids=irows at *
     refine .inl (f1.mono ?_)
     rintro r rfl
     conv=>whnf
     refine .inl ((errorsIs_nil 0).mono ?_)
     rintro r rfl
     conv=>whnf
     refine .inl (f3.mono ?_)
     rintro r rfl
     conv=>whnf
     rw [hK]; rfl
end Go.Cod
set_option linter.all false
namespace Go.Cod
variable [Adr]
open Go Go.Proofs
set_option maxRecDepth 10000
def T.kindOf:T→List UInt8
 | .mk _ kind _ _=>kind
def T.textOf:T→List UInt8
 | .mk _ _ text _=>text
def kindsOf (ts:List T):Ks:=ts.map T.kindOf
def thingF (rs:List Ru) (t:T):Bool:=match rs.find? fun r=>decide (r.kind=t.kindOf) with
 | none=>false
 | some r=>(decide (t.textOf=[])||r.text)&&matchP r.kids (kindsOf t.kids)
mutual
def fitsT (rs:List Ru):T→Bool
 | .mk id kind text kids=>thingF rs (.mk id kind text kids)&&fitsL rs kids
def fitsL (rs:List Ru):List T→Bool
 | []=>true
 | t::ts=>fitsT rs t&&fitsL rs ts
end
theorem fitsL_eq (rs:List Ru) (ts:List T):fitsL rs ts=ts.all (fitsT rs):=by
 induction ts with
 | nil=>rfl
 | cons t ts ih=>simp [fitsL,ih]
mutual
theorem fitsT_sp (rs:List Ru):∀ (t:T) (ov lv:Int),fitsT rs t=(spT t ov lv).all fun s=>thingF rs s.1
 | .mk id kind text kids,ov,lv=>by simp only [fitsT,spT,List.all_cons,fitsL_sp rs kids id (IntKind.i64.wrap (lv+1))]
theorem fitsL_sp (rs:List Ru):∀ (ts:List T) (ov lv:Int),fitsL rs ts=(spL ts ov lv).all fun s=>thingF rs s.1
 | [],_,_=>rfl
 | t::ts,ov,lv=>by simp only [fitsL,spL,List.all_append,fitsT_sp rs t ov lv,fitsL_sp rs ts ov lv]
end
theorem idsL_len:∀ ts:List T,ts.length≤(T.idsL ts).length
 | []=>by simp
 | .mk id kind text kids::ts=>by
   have:=idsL_len ts
   simp only [T.idsL,T.ids,List.length_append,List.length_cons]
   omega
mutual
theorem sp_kids:∀ (t:T) (ov lv:Int),∀ s∈spT t ov lv,s.1.kids.length < t.ids.length
 | .mk id kind text kids,ov,lv=>by
   intro s hs
   rcases List.mem_cons.1 hs with rfl | hs
   · have:=idsL_len kids
     simp only [T.kids,T.ids,List.length_cons]
     omega
   · have:=sp_kidsL kids _ _ s hs
     simp only [T.ids,List.length_cons]
     omega
theorem sp_kidsL:∀ (ts:List T) (ov lv:Int),∀ s∈spL ts ov lv,s.1.kids.length < (T.idsL ts).length
 | [],_,_=>by simp [spL]
 | t::ts,ov,lv=>by
   intro s hs
   simp only [T.idsL,List.length_append]
   rcases List.mem_append.1 hs with hs | hs
   · have:=sp_kids t _ _ s hs
     omega
   · have:=sp_kidsL ts _ _ s hs
     omega
end
theorem kindsOf_take (ts:List T) (i:Nat) (h:i < ts.length):rws sCells (kindsOf (ts.take (i+1)))=rws sCells (kindsOf (ts.take i))++[[.str ts[i].kindOf]]:=by
 unfold kindsOf rws
 rw [List.take_succ_eq_append_getElem h,List.map_append,List.map_append]; rfl
set_option maxHeartbeats 4000000 in
theorem treeKinds_pure (ts:List T) (hn:ts.length≤1048576):Pure Tryd.prog 75 [.sl (T.rows ts)] (·=.sl (rws sCells (kindsOf ts))):=by
 have hlr:=rows_len ts
 have hgr:=rows_get ts
 have hkt:=kindsOf_take ts
 have hkl:∀ i,i≤ts.length→(rws sCells (kindsOf (ts.take i))).length=i:=fun i h=>by rw [rws_len,kindsOf,List.length_map,List.length_take]; omega
 generalize T.rows ts=rows at *
 refine pure_of_awp good Tryd.func75 rfl (by kernel_rfl) (by decide) ?_
 conv=>whnf
 refine loop_drop (fun n fr st=>∃ i:Nat,n+i=ts.length∧((i=0∧st=[]∧Holds fr [(3,.nils),(6,.sl rows),(7,.int .i64 ts.length),(8,.int .i64 i)]) ∨
   (0 < i∧st=[⟨rws sCells (kindsOf (ts.take i)),1,true,true,false,.cell⟩]∧Holds fr [(3,.own 0),(6,.sl rows),(7,.int .i64 ts.length),(8,.int .i64 i)]))) ts.length none ⟨0,rfl,.inl ⟨rfl,rfl,rfl,rfl,by rw [← hlr]; rfl,rfl,trivial⟩⟩ ?_
 rintro n fr st ⟨i,hi,⟨rfl,rfl,hh⟩ | ⟨h0,rfl,hh⟩⟩
 · obtain ⟨fr,rfl⟩:=hh.split
   clear hh
   conv=>whnf
   by_cases hlt:0 < ts.length
   · rw [ltB_t (by omega)]
     conv=>whnf
     have hg:=hgr 0 hlt
     have hk:=hkt 0 hlt
     generalize ts[0]=t at *
     cases t with
     | mk id kind text kids =>
     simp only [T.cells,T.kindOf] at hg hk
     refine ⟨by omega,rows,_,4,rfl,hg,rfl,rfl,?_⟩
     conv=>whnf
     refine ⟨fun m hm=>by rw [List.mem_singleton.1 hm]; rfl,?_⟩
     conv=>whnf
     refine ⟨by show 1*16≤_; omega,.inr ⟨(by intro e; cases e),?_⟩⟩
     conv=>whnf
     refine ⟨n - 1,by omega,some [2],?_⟩
     conv=>whnf
     refine ⟨1,by omega,.inr ⟨by omega,?_,rfl,rfl,rfl,rfl,trivial⟩⟩
     rw [hk]
     rfl
   · rw [ltB_f (by omega)]
     conv=>whnf
     have:ts=[]:=List.length_eq_zero_iff.1 (by omega)
     subst this
     rfl
 · obtain ⟨fr,rfl⟩:=hh.split
   clear hh
   conv=>whnf
   by_cases hlt:i < ts.length
   · rw [ltB_t (by omega)]
     conv=>whnf
     have hg:=hgr i hlt
     have hk:=hkt i hlt
     have hl:=hkl i (by omega)
     generalize ts[i]=t at *
     cases t with
     | mk id kind text kids =>
     simp only [T.cells,T.kindOf] at hg hk
     refine ⟨by omega,rows,_,4,rfl,hg,rfl,rfl,?_⟩
     conv=>whnf
     refine ⟨fun m hm=>by rw [List.mem_singleton.1 hm]; rfl,?_⟩
     conv=>whnf
     refine ⟨by
      show ((rws sCells (kindsOf (ts.take i))).length+1)*16≤_
      rw [hl]; omega,?_⟩
     conv=>whnf
     refine ⟨n - 1,by omega,some [3],?_⟩
     conv=>whnf
     refine ⟨i+1,by omega,.inr ⟨by omega,?_,rfl,rfl,rfl,?_,trivial⟩⟩
     · rw [hk]
       rfl
     · show V.int .i64 (IntKind.i64.wrap (i+1))=_
       rw [wrap64 (by omega) (by omega)]; simp
   · rw [ltB_f (by omega)]
     conv=>whnf
     rw [List.take_of_length_le (by omega)]
def thing20 (rs:List Ru) (t:T):Bool:=match rs.find? fun r=>decide (r.kind=t.kindOf) with
 | none=>false
 | some r=>(decide (t.textOf=[])||r.text)&&(decide ((kindsOf t.kids).length≤20)&&matchP r.kids (kindsOf t.kids))
theorem thing20_eq (rs:List Ru) (t:T) (h:t.kids.length≤20):thing20 rs t=thingF rs t:=by
 unfold thing20 thingF
 rw [decide_eq_true (show (kindsOf t.kids).length≤20 by simpa [kindsOf] using h)]
 simp
set_option maxHeartbeats 8000000 in
theorem thingFault_pure (s:Sc) (hs:s.Sm) (t:T) (ht:t.Small):Pure Tryd.prog 42 [.agg s.cells,.agg t.cells] (faultIs (thing20 s.rules t)):=by
 have f1:=fun k=>schemaRule_pure s.rules k hs.2.1
 have hx:=hs.2.2
 obtain ⟨root,rules⟩:=s
 cases t with
 | mk id kind text kids =>
 have f3:=fun r hr=>ruleTakes_pure r hr (kindsOf kids)
 have f4:=treeKinds_pure kids (by cases ht; assumption)
 have hK:thing20 rules (.mk id kind text kids)=(match rules.find? fun r=>decide (r.kind=kind) with
  | none=>false
  | some r=>(decide (text=[])||r.text)&&(decide ((kindsOf kids).length≤20)&&matchP r.kids (kindsOf kids))):=rfl
 have f1:=f1 kind
 simp only [Sc.cells,T.cells] at f1 hx ⊢
 show Pure _ _ _ (faultIs (thing20 rules (.mk id kind text kids)))
 generalize thing20 rules (.mk id kind text kids)=res at *
 generalize rws sCells (kindsOf kids)=krows at *
 generalize T.rows kids=trows at *
 generalize hrr:rws Ru.cells rules=rows at *
 have he:ruleErr rules kind=if hasR rules kind=true then nilErr else errV 0:=rfl
 refine pure_of_awp good Tryd.func42 rfl (by kernel_rfl) (by decide) ?_
 conv=>whnf
 cases hh:hasR rules kind with
 | false =>
   rw [find_none hh] at hK
   rw [hh] at he
   obtain ⟨r0,hr0⟩:=ruleOf_cells rules kind
   rw [hr0,he] at f1
   obtain ⟨a,b,c⟩:=r0
   simp only [Ru.cells] at f1
   refine .inl (f1.mono ?_)
   rintro r rfl
   conv=>whnf
   rw [hK]
   exact ⟨_,rfl⟩
 | true =>
   obtain ⟨i,hi,h1,h2⟩:=find_at kind rules 0 (by omega) hh
   have hr0:ruleOf rules kind=rules[i].cells:=by unfold ruleOf; rw [h2]
   have f3:=f3 rules[i] (hx _ (List.getElem_mem _))
   rw [h2] at hK
   rw [hh] at he
   rw [hr0,he] at f1
   generalize rules[i]=x at *
   obtain ⟨rk,rt,rkids⟩:=x
   simp only [Ru.cells] at f1 f3 hK
   generalize rws It.cells rkids=irows at *
   generalize (decide ((kindsOf kids).length≤20)&&matchP rkids (kindsOf kids))=mb at *
   refine .inl (f1.mono ?_)
   rintro r rfl
   conv=>whnf
   have key:∀ tb:Bool,(tb=(decide (text=[])||rt))→True:=fun _ _=>trivial
   by_cases hT:text=[]
   · rw [eqS_t hT]
     rw [decide_eq_true hT,Bool.true_or,Bool.true_and] at hK
     conv=>whnf
     refine ⟨_,.inl f4,?_⟩
     conv=>whnf
     refine ⟨_,.inl f3,?_⟩
     cases mb with
     | true =>
       conv=>whnf
       (rw [hK]; try rfl)
     | false =>
       conv=>whnf
       rw [hK]
       exact ⟨_,rfl⟩
   · rw [eqS_f hT]
     rw [decide_eq_false hT,Bool.false_or] at hK
     cases rt with
     | false =>
       conv=>whnf
       rw [hK]
       exact ⟨_,rfl⟩
     | true =>
       conv=>whnf
       refine ⟨_,.inl f4,?_⟩
       conv=>whnf
       refine ⟨_,.inl f3,?_⟩
       cases mb with
       | true =>
         conv=>whnf
         (rw [hK]; try rfl)
       | false =>
         conv=>whnf
         rw [hK]
         exact ⟨_,rfl⟩
end Go.Cod
set_option linter.all false
namespace Go.Cod
variable [Adr]
open Go Go.Proofs
set_option maxRecDepth 10000
theorem fitsL_take (rs:List Ru) {ts:List T} {i:Nat} (h:i < ts.length):fitsL rs (ts.take (i+1))=(fitsL rs (ts.take i)&&fitsT rs ts[i]):=by
 rw [fitsL_eq,fitsL_eq,all_take h]
theorem fitsL_no (rs:List Ru) {ts:List T} {i:Nat} (h:i < ts.length) (hf:fitsT rs ts[i]=false):fitsL rs ts=false:=by
 rw [fitsL_eq]; exact all_no h hf
set_option maxHeartbeats 8000000 in
theorem l3Fits_pure1 (s:Sc) (hs:s.Sm) (t:T) (ht:t.Small) (hT:∀ t'∈t.kids,Pure Tryd.prog 43 [.agg s.cells,.agg t'.cells] (·=.bool (fitsT s.rules t'))) :
  Pure Tryd.prog 43 [.agg s.cells,.agg t.cells] (·=.bool (fitsT s.rules t)):=by
 have f1:=fun k=>l3Rule_pure s k hs.2.1
 have f2:=fun xs ks=>l3Match_pure (xs.length+ks.length+1) xs ks (by omega)
 cases ht with
 | @mk id kind text kids g1 g2 g3 g4 g5 =>
 obtain ⟨root,rules⟩:=s
 have hF:fitsT rules (.mk id kind text kids)=((match rules.find? fun r=>decide (r.kind=kind) with
  | none=>false
  | some r=>(decide (text=[])||r.text)&&matchP r.kids (kindsOf kids))&&fitsL rules kids):=rfl
 have f1:=f1 kind
 simp only [Sc.cells,T.cells,T.kids] at f1 hT ⊢
 generalize fitsT rules (.mk id kind text kids)=res at *
 have hlt:=rows_len kids
 have hgt:=rows_get kids
 have hkt:=kindsOf_take kids
 have hkl:∀ i,i≤kids.length→(rws sCells (kindsOf (kids.take i))).length=i:=fun i h=>by rw [rws_len,kindsOf,List.length_map,List.length_take]; omega
 have hft:=fun i (h:i < kids.length)=>fitsL_take rules h
 have hfn:=fun i (h:i < kids.length)=>fitsL_no rules h
 have hgr:=rws_get Ru.cells rules
 generalize T.rows kids=trows at *
 generalize rws Ru.cells rules=rows at *
 refine pure_of_awp good Tryd.func43 rfl (by kernel_rfl) (by decide) ?_
 conv=>whnf
 refine .inl (f1.mono ?_)
 rintro r rfl
 have hneg:=idxR_neg kind rules
 have hat:=find_at kind rules 0 (by omega)
 generalize idxR kind rules 0=v at *
 conv=>whnf
 cases hh:hasR rules kind with
 | false =>
   have:=hneg.2 hh
   rw [find_none hh] at hF
   rw [ltB_t (by omega)]
   conv=>whnf
   rw [hF]; rfl
 | true =>
   obtain ⟨i0,hi0,h1,h2⟩:=hat hh
   rw [h2] at hF
   obtain rfl:v=(i0:Int):=by omega
   rw [ltB_f (by omega)]
   have hg:=hgr i0 hi0
   have f2:=f2 rules[i0].kids
   generalize rules[i0]=x at *
   obtain ⟨rk,rt,rkids⟩:=x
   simp only [Ru.cells] at hg hF f2
   generalize rws It.cells rkids=irows at *
   generalize matchP rkids=p at *
   conv=>whnf
   by_cases hTx:text=[]
   · rw [eqS_t hTx]
     rw [decide_eq_true hTx,Bool.true_or,Bool.true_and] at hF
     conv=>whnf
     refine loop_drop (fun n fr st=>∃ i:Nat,n+i=kids.length∧fitsL rules (kids.take i)=true∧((i=0∧st=[⟨[[.str root,.sl rows]],2,true,true,true,.cell⟩,⟨[[.int .i64 id,.str kind,.str text,.sl trows]],4,true,true,true,.cell⟩]∧Holds fr [(2,.ptr 0 0 0),(3,.ptr 1 0 0),(5,.int .i64 i0),(6,.nils),(7,.int .i64 i)]) ∨
       (0 < i∧st=[⟨[[.str root,.sl rows]],2,true,true,true,.cell⟩,⟨[[.int .i64 id,.str kind,.str text,.sl trows]],4,true,true,true,.cell⟩,⟨rws sCells (kindsOf (kids.take i)),1,true,true,false,.cell⟩]∧Holds fr [(2,.ptr 0 0 0),(3,.ptr 1 0 0),(5,.int .i64 i0),(6,.own 2),(7,.int .i64 i)]))) kids.length none ⟨0,rfl,rfl,.inl ⟨rfl,rfl,rfl,rfl,rfl,rfl,rfl,trivial⟩⟩ ?_
     rintro n fr st ⟨i,hi,hfi,⟨rfl,rfl,hh⟩ | ⟨h0,rfl,hh⟩⟩
     · obtain ⟨fr,rfl⟩:=hh.split
       clear hh
       conv=>whnf
       by_cases hlk:0 < kids.length
       · rw [hlt,ltB_t (by omega)]
         conv=>whnf
         have hg1:=hgt 0 hlk
         have hk:=hkt 0 hlk
         have hl:=hkl 0 (by omega)
         have hfs:=hft 0 hlk
         have hfo:=hfn 0 hlk
         have hT:=hT kids[0] (List.getElem_mem _)
         generalize fitsT rules kids[0]=tf at *
         generalize kids[0]=t at *
         cases t with
         | mk id' kind' text' kids' =>
         simp only [T.cells,T.kindOf] at hg1 hk hT
         refine ⟨by omega,trows,_,4,rfl,hg1,rfl,rfl,?_⟩
         conv=>whnf
         refine ⟨fun m hm=>by rw [List.mem_singleton.1 hm]; rfl,?_⟩
         conv=>whnf
         refine ⟨by show 1*16≤_; omega,.inr ⟨(by intro e; cases e),?_⟩⟩
         conv=>whnf
         repeat (first
          | (refine ⟨by omega,trows,_,4,rfl,hg1,rfl,rfl,?_⟩
             conv=>whnf)
          | (refine ⟨_,.inl hT,?_⟩))
         cases tf with
         | false =>
           conv=>whnf
           rw [hF,hfo rfl]; simp
         | true =>
           conv=>whnf
           refine ⟨n - 1,by omega,some [0,1,3],?_⟩
           conv=>whnf
           refine ⟨0+1,by omega,by rw [hfs,hfi]; rfl,.inr ⟨by omega,?_,rfl,rfl,rfl,rfl,?_,trivial⟩⟩
           · rw [hk]
             rfl
           · show V.int .i64 (IntKind.i64.wrap (_+1))=_
             rw [wrap64 (by omega) (by omega)]; simp
       · rw [hlt,ltB_f (by omega)]
         conv=>whnf
         refine ⟨by omega,rows,_,3,rfl,hg,rfl,rfl,?_⟩
         conv=>whnf
         have:kids=[]:=List.length_eq_zero_iff.1 (by omega)
         subst this
         refine .inl ((f2 []).mono ?_)
         rintro r rfl
         conv=>whnf
         rw [hF]; simp [kindsOf,fitsL]
     · obtain ⟨fr,rfl⟩:=hh.split
       clear hh
       conv=>whnf
       by_cases hlk:i < kids.length
       · rw [hlt,ltB_t (by omega)]
         conv=>whnf
         have hg1:=hgt i hlk
         have hk:=hkt i hlk
         have hl:=hkl i (by omega)
         have hfs:=hft i hlk
         have hfo:=hfn i hlk
         have hT:=hT kids[i] (List.getElem_mem _)
         generalize fitsT rules kids[i]=tf at *
         generalize kids[i]=t at *
         cases t with
         | mk id' kind' text' kids' =>
         simp only [T.cells,T.kindOf] at hg1 hk hT
         refine ⟨by omega,trows,_,4,rfl,hg1,rfl,rfl,?_⟩
         conv=>whnf
         refine ⟨fun m hm=>by rw [List.mem_singleton.1 hm]; rfl,?_⟩
         conv=>whnf
         refine ⟨by
           show ((rws sCells (kindsOf (kids.take i))).length+1)*16≤_
           rw [hl]; omega,?_⟩
         conv=>whnf
         repeat (first
          | (refine ⟨by omega,trows,_,4,rfl,hg1,rfl,rfl,?_⟩
             conv=>whnf)
          | (refine ⟨_,.inl hT,?_⟩))
         cases tf with
         | false =>
           conv=>whnf
           rw [hF,hfo rfl]; simp
         | true =>
           conv=>whnf
           refine ⟨n - 1,by omega,some [0,1,4],?_⟩
           conv=>whnf
           refine ⟨i+1,by omega,by rw [hfs,hfi]; rfl,.inr ⟨by omega,?_,rfl,rfl,rfl,rfl,?_,trivial⟩⟩
           · rw [hk]
             rfl
           · show V.int .i64 (IntKind.i64.wrap (_+1))=_
             rw [wrap64 (by omega) (by omega)]; simp
       · rw [hlt,ltB_f (by omega)]
         conv=>whnf
         refine ⟨by omega,rows,_,3,rfl,hg,rfl,rfl,?_⟩
         conv=>whnf
         rw [List.take_of_length_le (by omega)] at hfi
         have hkk:kids.take i=kids:=List.take_of_length_le (by omega)
         rw [hkk]
         refine ⟨[],false,?_⟩
         conv=>whnf
         refine Full.mono (f2 (kindsOf kids)) ?_
         rintro o st' ⟨rfl,r,rfl,rfl⟩
         conv=>whnf
         rw [hF,hfi]; simp
   · rw [eqS_f hTx]
     rw [decide_eq_false hTx,Bool.false_or] at hF
     conv=>whnf
     refine ⟨by omega,rows,_,3,rfl,hg,rfl,rfl,?_⟩
     cases rt with
     | false =>
       conv=>whnf
       rw [hF]; rfl
     | true =>
       rw [Bool.true_and] at hF
       conv=>whnf
       refine loop_drop (fun n fr st=>∃ i:Nat,n+i=kids.length∧fitsL rules (kids.take i)=true∧((i=0∧st=[⟨[[.str root,.sl rows]],2,true,true,true,.cell⟩,⟨[[.int .i64 id,.str kind,.str text,.sl trows]],4,true,true,true,.cell⟩]∧Holds fr [(2,.ptr 0 0 0),(3,.ptr 1 0 0),(5,.int .i64 i0),(6,.nils),(7,.int .i64 i)]) ∨
         (0 < i∧st=[⟨[[.str root,.sl rows]],2,true,true,true,.cell⟩,⟨[[.int .i64 id,.str kind,.str text,.sl trows]],4,true,true,true,.cell⟩,⟨rws sCells (kindsOf (kids.take i)),1,true,true,false,.cell⟩]∧Holds fr [(2,.ptr 0 0 0),(3,.ptr 1 0 0),(5,.int .i64 i0),(6,.own 2),(7,.int .i64 i)]))) kids.length none ⟨0,rfl,rfl,.inl ⟨rfl,rfl,rfl,rfl,rfl,rfl,rfl,trivial⟩⟩ ?_
       rintro n fr st ⟨i,hi,hfi,⟨rfl,rfl,hh⟩ | ⟨h0,rfl,hh⟩⟩
       · obtain ⟨fr,rfl⟩:=hh.split
         clear hh
         conv=>whnf
         by_cases hlk:0 < kids.length
         · rw [hlt,ltB_t (by omega)]
           conv=>whnf
           have hg1:=hgt 0 hlk
           have hk:=hkt 0 hlk
           have hl:=hkl 0 (by omega)
           have hfs:=hft 0 hlk
           have hfo:=hfn 0 hlk
           have hT:=hT kids[0] (List.getElem_mem _)
           generalize fitsT rules kids[0]=tf at *
           generalize kids[0]=t at *
           cases t with
           | mk id' kind' text' kids' =>
           simp only [T.cells,T.kindOf] at hg1 hk hT
           refine ⟨by omega,trows,_,4,rfl,hg1,rfl,rfl,?_⟩
           conv=>whnf
           refine ⟨fun m hm=>by rw [List.mem_singleton.1 hm]; rfl,?_⟩
           conv=>whnf
           refine ⟨by show 1*16≤_; omega,.inr ⟨(by intro e; cases e),?_⟩⟩
           conv=>whnf
           repeat (first
            | (refine ⟨by omega,trows,_,4,rfl,hg1,rfl,rfl,?_⟩
               conv=>whnf)
            | (refine ⟨_,.inl hT,?_⟩))
           cases tf with
           | false =>
             conv=>whnf
             rw [hF,hfo rfl]; simp
           | true =>
             conv=>whnf
             refine ⟨n - 1,by omega,some [0,1,3],?_⟩
             conv=>whnf
             refine ⟨0+1,by omega,by rw [hfs,hfi]; rfl,.inr ⟨by omega,?_,rfl,rfl,rfl,rfl,?_,trivial⟩⟩
             · rw [hk]
               rfl
             · show V.int .i64 (IntKind.i64.wrap (_+1))=_
               rw [wrap64 (by omega) (by omega)]; simp
         · rw [hlt,ltB_f (by omega)]
           conv=>whnf
           refine ⟨by omega,rows,_,3,rfl,hg,rfl,rfl,?_⟩
           conv=>whnf
           have:kids=[]:=List.length_eq_zero_iff.1 (by omega)
           subst this
           refine .inl ((f2 []).mono ?_)
           rintro r rfl
           conv=>whnf
           rw [hF]; simp [kindsOf,fitsL]
       · obtain ⟨fr,rfl⟩:=hh.split
         clear hh
         conv=>whnf
         by_cases hlk:i < kids.length
         · rw [hlt,ltB_t (by omega)]
           conv=>whnf
           have hg1:=hgt i hlk
           have hk:=hkt i hlk
           have hl:=hkl i (by omega)
           have hfs:=hft i hlk
           have hfo:=hfn i hlk
           have hT:=hT kids[i] (List.getElem_mem _)
           generalize fitsT rules kids[i]=tf at *
           generalize kids[i]=t at *
           cases t with
           | mk id' kind' text' kids' =>
           simp only [T.cells,T.kindOf] at hg1 hk hT
           refine ⟨by omega,trows,_,4,rfl,hg1,rfl,rfl,?_⟩
           conv=>whnf
           refine ⟨fun m hm=>by rw [List.mem_singleton.1 hm]; rfl,?_⟩
           conv=>whnf
           refine ⟨by
             show ((rws sCells (kindsOf (kids.take i))).length+1)*16≤_
             rw [hl]; omega,?_⟩
           conv=>whnf
           repeat (first
            | (refine ⟨by omega,trows,_,4,rfl,hg1,rfl,rfl,?_⟩
               conv=>whnf)
            | (refine ⟨_,.inl hT,?_⟩))
           cases tf with
           | false =>
             conv=>whnf
             rw [hF,hfo rfl]; simp
           | true =>
             conv=>whnf
             refine ⟨n - 1,by omega,some [0,1,4],?_⟩
             conv=>whnf
             refine ⟨i+1,by omega,by rw [hfs,hfi]; rfl,.inr ⟨by omega,?_,rfl,rfl,rfl,rfl,?_,trivial⟩⟩
             · rw [hk]
               rfl
             · show V.int .i64 (IntKind.i64.wrap (_+1))=_
               rw [wrap64 (by omega) (by omega)]; simp
         · rw [hlt,ltB_f (by omega)]
           conv=>whnf
           refine ⟨by omega,rows,_,3,rfl,hg,rfl,rfl,?_⟩
           conv=>whnf
           rw [List.take_of_length_le (by omega)] at hfi
           have hkk:kids.take i=kids:=List.take_of_length_le (by omega)
           rw [hkk]
           refine ⟨[],false,?_⟩
           conv=>whnf
           refine Full.mono (f2 (kindsOf kids)) ?_
           rintro o st' ⟨rfl,r,rfl,rfl⟩
           conv=>whnf
           rw [hF,hfi]; simp
theorem l3Fits_pure (s:Sc) (hs:s.Sm) (t:T) (ht:t.Small):Pure Tryd.prog 43 [.agg s.cells,.agg t.cells] (·=.bool (fitsT s.rules t)):=by
 induction ht with
 | @mk id kind text kids g1 g2 g3 g4 g5 ih =>
   exact l3Fits_pure1 s hs _ (.mk g1 g2 g3 g4 g5) fun t' ht'=>ih t' ht'
end Go.Cod
set_option linter.all false
namespace Go.Cod
variable [Adr]
open Go Go.Proofs
set_option maxRecDepth 10000
def fitsS (s:Sc) (t:T):Bool:=okS s&&okT t&&decide (t.kindOf=s.root)&&fitsT s.rules t
set_option maxHeartbeats 8000000 in
theorem specSchemaFits_pure (s:Sc) (hs:s.Sm) (t:T) (ht:t.Small) (hn:t.ids.length≤1048577):Pure Tryd.prog 12 [.agg s.cells,.agg t.cells] (·=.bool (fitsS s t)):=by
 have f1:=specSchemaOk_pure s hs
 have f2:=specTreeOk_pure t ht hn
 have f3:=l3Fits_pure s hs t ht
 obtain ⟨root,rules⟩:=s
 cases t with
 | mk id kind text kids =>
 have hF:fitsS ⟨root,rules⟩ (.mk id kind text kids)=(okS ⟨root,rules⟩&&okT (.mk id kind text kids)&&decide (kind=root)&&fitsT rules (.mk id kind text kids)):=rfl
 generalize fitsS ⟨root,rules⟩ (.mk id kind text kids)=res at *
 generalize okS ⟨root,rules⟩=b1 at *
 generalize okT (.mk id kind text kids)=b2 at *
 simp only at f3
 generalize fitsT rules (.mk id kind text kids)=b3 at *
 simp only [Sc.cells,T.cells,T.kindOf] at f1 f2 f3 hF ⊢
 generalize T.rows kids=trows at *
 generalize rws Ru.cells rules=rows at *
 refine pure_of_awp good Tryd.func12 rfl (by kernel_rfl) (by decide) ?_
 conv=>whnf
 refine .inl (f1.mono ?_)
 rintro r rfl
 cases b1 with
 | false =>
   conv=>whnf
   rw [hF]; rfl
 | true =>
   conv=>whnf
   refine .inl (f2.mono ?_)
   rintro r rfl
   cases b2 with
   | false =>
     conv=>whnf
     rw [hF]; rfl
   | true =>
     conv=>whnf
     by_cases hk:kind=root
     · rw [eqS_t hk]
       rw [decide_eq_true hk] at hF
       conv=>whnf
       refine .inl (f3.mono ?_)
       rintro r rfl
       conv=>whnf
       rw [hF]; rfl
     · rw [eqS_f hk]
       rw [decide_eq_false hk] at hF
       conv=>whnf
       rw [hF]; rfl
theorem ok_things {t:T} (h:okT t=true) (rs:List Ru):fitsT rs t=(spT t 0 1).all fun s=>thing20 rs s.1:=by
 have hl:t.ids.length≤20:=by
  unfold okT at h
  simp only [Bool.and_eq_true,decide_eq_true_eq] at h
  exact h.2
 rw [fitsT_sp rs t 0 1]
 have key:∀ l:List Sp,(∀ s∈l,s.1.kids.length≤20)→(l.all fun s=>thingF rs s.1)=l.all fun s=>thing20 rs s.1:=by
  intro l
  induction l with
  | nil=>intro _; rfl
  | cons a l ih =>
    intro h
    simp only [List.all_cons]
    rw [thing20_eq rs a.1 (h a (by simp)),ih fun s hs=>h s (by simp [hs])]
 exact key _ fun s hs=>by have:=sp_kids t 0 1 s hs; omega
set_option maxHeartbeats 8000000 in
theorem implSchemaFits_pure (s:Sc) (hs:s.Sm) (t:T) (ht:t.Small):Pure Tryd.prog 11 [.agg s.cells,.agg t.cells] (·=.bool (fitsS s t)):=by
 have f1:=implSchemaOk_pure s hs
 have f2:=implTreeOk t ht
 have f3:=fun (sp:Sp) (h:sp∈spT t 0 1)=>thingFault_pure s hs sp.1 (spT_small t 0 1 ht sp h)
 have hsp:=treeSpots_full t
 have hcl:=treeSpots1_full t ht _ (okbT_takes t)
 have hot:=fun h=>ok_things (t:=t) h s.rules
 have hbox:boxT t=⟨[t.cells],4,true,true,true,.cell⟩:=rfl
 have hobt:okbT t=fun log vs=>∃ pre s suf,spT t 0 1=pre++s::suf∧log=spRows pre∧vs=[spV s]:=rfl
 generalize okbT t=okb at *
 generalize spT t 0 1=sps at *
 obtain ⟨root,rules⟩:=s
 cases t with
 | mk id kind text kids =>
 have hF:fitsS ⟨root,rules⟩ (.mk id kind text kids)=(okS ⟨root,rules⟩&&okT (.mk id kind text kids)&&decide (kind=root)&&fitsT rules (.mk id kind text kids)):=rfl
 generalize fitsS ⟨root,rules⟩ (.mk id kind text kids)=res at *
 generalize okS ⟨root,rules⟩=b1 at *
 generalize okT (.mk id kind text kids)=b2 at *
 simp only at hot f3
 generalize fitsT rules (.mk id kind text kids)=b3 at *
 simp only [Sc.cells,T.kindOf] at f1 f3 hF ⊢
 generalize rws Ru.cells rules=rows at *
 refine pure_of_awp good Tryd.func11 rfl (by kernel_rfl) (by decide) ?_
 conv=>whnf
 refine .inl (f1.mono ?_)
 rintro r rfl
 cases b1 with
 | false =>
   conv=>whnf
   rw [hF]; rfl
 | true =>
   conv=>whnf
   refine .inl (f2.mono ?_)
   rintro r rfl
   cases b2 with
   | false =>
     conv=>whnf
     rw [hF]; rfl
   | true =>
     conv=>whnf
     by_cases hk:kind=root
     case neg =>
      rw [eqS_f hk]
      rw [decide_eq_false hk] at hF
      conv=>whnf
      rw [hF]; rfl
     rw [eqS_t hk]
     rw [decide_eq_true hk] at hF
     have hF:res=b3:=by rw [hF]; rfl
     have hot:=hot rfl
     conv=>whnf
     refine .inr (.inl ⟨[],false,?_⟩)
     conv=>whnf
     refine hsp.mono ?_
     rintro o st' ⟨rfl,rfl⟩
     conv=>whnf
     refine ⟨[3],false,okb,fun log st'=>((sps.take log.length).all fun s=>thing20 rules s.1)=true∧st'=[⟨[[.str root,.sl rows]],2,true,true,true,.cell⟩,⟨[(T.mk id kind text kids).cells],4,true,true,true,.cell⟩,⟨[[.bool false]],1,true,true,true,.cell⟩,⟨[(T.mk id kind text kids).cells],4,false,true,true,.cell⟩],?_⟩
     conv=>whnf
     refine ⟨⟨by simp,rfl⟩,?_,?_⟩
     · rintro log vs st' ⟨hall,rfl⟩ ho
       rw [hobt] at ho
       obtain ⟨pre,s,suf,rfl,rfl,rfl⟩:=ho
       have htk:(pre++s::suf).take (spRows pre).length=pre:=by rw [spRows_len]; simp
       have htk1:(pre++s::suf).take (spRows pre++[[spV s]]).length=pre++[s]:=by rw [List.length_append,spRows_len]; show List.take (pre.length+1) _=_; rw [List.take_append,List.take_of_length_le (by omega)]; simp
       rw [htk] at hall
       refine ⟨rfl,?_⟩
       have f3:=f3 s (by simp)
       have hno:thing20 rules s.1=false→res=false:=fun h=>by
        rw [hF,hot,List.all_append,List.all_cons,h]; simp
       have hyes:thing20 rules s.1=true→((pre++[s]).all fun s=>thing20 rules s.1)=true:=fun h=>by
        rw [List.all_append,hall]; simp [h]
       obtain ⟨⟨id',kind',text',kids'⟩,ov,lv⟩:=s
       simp only [T.cells] at f3
       generalize thing20 rules (T.mk id' kind' text' kids')=tb at *
       conv=>whnf
       refine .inl (f3.mono ?_)
       intro r hr
       cases tb with
       | false =>
         obtain ⟨a,rfl⟩:isErr r:=hr
         conv=>whnf
         rw [hno rfl]
       | true =>
         obtain rfl:r=nilErr:=hr
         conv=>whnf
         refine ⟨some [0,1,2,3],?_⟩
         conv=>whnf
         rw [htk1]
         exact ⟨hyes rfl,rfl⟩
     · refine hcl.mono ?_
       rintro o st' ⟨r,b,log',rfl,rfl,hl⟩
       refine ⟨_,_,_,rfl,rfl,fun hb st' hI=>?_⟩
       obtain ⟨hall,rfl⟩:=hI
       rw [hl hb,List.take_of_length_le (by rw [spRows_len]; omega)] at hall
       conv=>whnf
       rw [hF,hot,hall]
end Go.Cod
set_option linter.all false
namespace Go.Cod
variable [Adr]
open Go Go.Proofs
set_option linter.all false
set_option maxRecDepth 10000
theorem lab_entL (b c sz:Nat) (r:List (List V)):labOf (ent b c sz r)=b:=rfl
def ApartH (h k:Option (Nat × Nat)):Prop:=∀ b c b' c',h=some (b,c)→k=some (b',c')→b≠b'
theorem ApartH.symm {h k:Option (Nat × Nat)} (a:ApartH h k):ApartH k h:=fun b c b' c' p q e=>a b' c' b c q p e.symm
theorem ApartH.none (k:Option (Nat × Nat)):ApartH none k:=fun _ _ _ _ h=>by cases h
structure LR where
 kind:List UInt8
 text:Bool
 items:List It
 hd:Option (Nat × Nat)
def LR.cells (L:LR):List V:=[.str L.kind,.bool L.text,hdV L.hd L.items.length]
def LR.ru (L:LR):Ru:=⟨L.kind,L.text,L.items⟩
def PlIn (es:List (List V)) (sz:Nat) (h:Option (Nat × Nat)) (rows:List (List V)):Prop:=match h with
 | none=>rows=[]
 | some (b,c)=>ent b c sz rows∈es
theorem PlIn.put {es:List (List V)} {sz b c:Nat} {k:Option (Nat × Nat)} {L:List (List V)} (h:PlIn es sz k L) (ha:ApartH (some (b,c)) k) (r:List (List V)):PlIn (putEnt b r es) sz k L:=by
 rcases k with _ | ⟨b',c'⟩
 · exact h
 · exact putEnt_other h (by rw [lab_entL]; exact fun e=>ha b c b' c' rfl rfl e.symm)
theorem PlIn.more {es:List (List V)} {sz:Nat} {k:Option (Nat × Nat)} {L:List (List V)} (h:PlIn es sz k L) (es':List (List V)):PlIn (es++es') sz k L:=by
 rcases k with _ | ⟨b',c'⟩
 · exact h
 · exact List.mem_append_left _ h
theorem PlIn.fresh {es:List (List V)} {sz:Nat} {k:Option (Nat × Nat)} {L:List (List V)} (h:PlIn es sz k L) {b c:Nat} (hb:∀ e∈es,labOf e≠b):ApartH (some (b,c)) k:=by
 intro x y b' c' e1 e2
 cases e1
 subst e2
 exact fun e=>hb _ h (by rw [lab_entL]; exact e.symm)
structure ScIn (es:List (List V)) (h:Option (Nat × Nat)) (Ls:List LR):Prop where
 top:PlIn es 3 h (Ls.map LR.cells)
 kids:∀ L∈Ls,PlIn es 3 L.hd (rws It.cells L.items)
 ap:∀ L∈Ls,ApartH h L.hd
 pw:Ls.Pairwise fun L M=>ApartH L.hd M.hd
theorem ScIn.nil (es:List (List V)):ScIn es none []:=⟨rfl,(fun _ h=>by cases h),(fun _ h=>by cases h),.nil⟩
theorem ScIn.more {es h Ls} (H:ScIn es h Ls) (es':List (List V)):ScIn (es++es') h Ls:=⟨H.top.more _,fun L hL=>(H.kids L hL).more _,H.ap,H.pw⟩
theorem pw_snoc {α:Type} {R:α→α→Prop}:∀ {l:List α} {x:α},l.Pairwise R→(∀ y∈l,R y x)→(l++[x]).Pairwise R
 | [],x,_,_=>by simp
 | y::l,x,h,hx=>by
   obtain ⟨h1,h2⟩:=List.pairwise_cons.1 h
   rw [List.cons_append,List.pairwise_cons]
   refine ⟨fun z hz=>?_,pw_snoc h2 fun z hz=>hx z (List.mem_cons_of_mem _ hz)⟩
   rcases List.mem_append.1 hz with hz | hz
   · exact h1 z hz
   · rw [List.mem_singleton.1 hz]; exact hx y List.mem_cons_self
theorem ScIn.snoc_in {es b c Ls} (H:ScIn es (some (b,c)) Ls) {L:LR} (hL:PlIn es 3 L.hd (rws It.cells L.items)) (h1:ApartH (some (b,c)) L.hd) (h2:∀ M∈Ls,ApartH M.hd L.hd):ScIn (putEnt b ((Ls++[L]).map LR.cells) es) (some (b,c)) (Ls++[L]):=by
 refine ⟨putEnt_mem H.top,fun M hM=>?_,fun M hM=>?_,pw_snoc H.pw h2⟩
 · rcases List.mem_append.1 hM with hM | hM
   · exact (H.kids M hM).put (H.ap M hM) _
   · rw [List.mem_singleton.1 hM]; exact hL.put h1 _
 · rcases List.mem_append.1 hM with hM | hM
   · exact H.ap M hM
   · rw [List.mem_singleton.1 hM]; exact h1
theorem ScIn.snoc_new {es h Ls} (H:ScIn es h Ls) {L:LR} (hL:PlIn es 3 L.hd (rws It.cells L.items)) (h2:∀ M∈Ls,ApartH M.hd L.hd) {b c:Nat} (hb:∀ e∈es,labOf e≠b):ScIn (es++[ent b c 3 ((Ls++[L]).map LR.cells)]) (some (b,c)) (Ls++[L]):=by
 refine ⟨List.mem_append_right _ (by simp),fun M hM=>?_,fun M hM=>?_,pw_snoc H.pw h2⟩
 · rcases List.mem_append.1 hM with hM | hM
   · exact (H.kids M hM).more _
   · rw [List.mem_singleton.1 hM]; exact hL.more _
 · rcases List.mem_append.1 hM with hM | hM
   · exact (H.kids M hM).fresh hb
   · rw [List.mem_singleton.1 hM]; exact hL.fresh hb
theorem pw_get {α:Type} {R:α→α→Prop} (hs:∀ x y,R x y→R y x) {l:List α} (h:l.Pairwise R) {i j:Nat} (hi:i < l.length) (hj:j < l.length) (hne:i≠j):R l[i] l[j]:=by
 rcases Nat.lt_or_gt_of_ne hne with h1 | h1
 · exact List.pairwise_iff_getElem.1 h i j hi hj h1
 · exact hs _ _ (List.pairwise_iff_getElem.1 h j i hj hi h1)
theorem ScIn.set {es es2 b c Ls} (H:ScIn es (some (b,c)) Ls) {k:Nat} (hk:k < Ls.length) {L:LR} (hL:PlIn es2 3 L.hd (rws It.cells L.items)) (ht:PlIn es2 3 (some (b,c)) (Ls.map LR.cells)) (h1:ApartH (some (b,c)) L.hd)
  (ho:∀ i (hi:i < Ls.length),i≠k→PlIn es2 3 Ls[i].hd (rws It.cells Ls[i].items)∧ApartH Ls[i].hd L.hd):ScIn (putEnt b ((Ls.set k L).map LR.cells) es2) (some (b,c)) (Ls.set k L):=by
 refine ⟨putEnt_mem ht,fun M hM=>?_,fun M hM=>?_,?_⟩
 · obtain ⟨i,hi,rfl⟩:=List.getElem_of_mem hM
   rw [List.length_set] at hi
   rw [List.getElem_set]
   by_cases e:k=i
   · rw [if_pos e]; exact hL.put h1 _
   · rw [if_neg e]; exact (ho i hi fun z=>e z.symm).1.put (H.ap _ (List.getElem_mem hi)) _
 · obtain ⟨i,hi,rfl⟩:=List.getElem_of_mem hM
   rw [List.length_set] at hi
   rw [List.getElem_set]
   by_cases e:k=i
   · rw [if_pos e]; exact h1
   · rw [if_neg e]; exact H.ap _ (List.getElem_mem hi)
 · rw [List.pairwise_iff_getElem]
   intro i j hi hj hij
   rw [List.length_set] at hi hj
   rw [List.getElem_set,List.getElem_set]
   by_cases e:k=i
   · rw [if_pos e,if_neg (by omega)]; exact (ho j hj (by omega)).2.symm
   · rw [if_neg e]
     by_cases e2:k=j
     · rw [if_pos e2]; exact (ho i hi fun z=>e z.symm).2
     · rw [if_neg e2]; exact List.pairwise_iff_getElem.1 H.pw i j hi hj hij
theorem plain_view {es:List (List V)} {sz:Nat} {h:Option (Nat × Nat)} {α:Type} {c:α→List V} {l:List α} (H:PlIn es sz h (rws c l)) (hcl:V.clean.cleanLL 0 (rws c l)=true) (hlf:∀ e∈rws c l,∀ x∈e,x.leaf=true):View es (hdV h l.length) (.sl (rws c l)):=by
 rcases h with _ | ⟨b,cc⟩
 · have:rws c l=[]:=H
   rw [this]; exact .nils
 · refine .dref H (by simp [rws]) rfl hcl hlf (fun i r r' p q=>?_) (fun i r r' j x y p q u v=>?_)
   · rw [p] at q; cases q; rfl
   · rw [p] at q; cases q; rw [u] at v; cases v; exact .same _
theorem items_clean:∀ l:List It,V.clean.cleanLL 0 (rws It.cells l)=true
 | []=>rfl
 | x::l=>by
   show (V.clean.cleanL 0 x.cells&&V.clean.cleanLL 0 (rws It.cells l))=true
   rw [items_clean l]; rfl
theorem items_leaf (l:List It):∀ e∈rws It.cells l,∀ x∈e,x.leaf=true:=by
 intro e he x hx
 obtain ⟨a,_,rfl⟩:=List.mem_map.1 he
 simp only [It.cells,List.mem_cons,List.not_mem_nil,or_false] at hx
 rcases hx with rfl | rfl | rfl <;> rfl
theorem rules_clean:∀ l:List Ru,V.clean.cleanLL 0 (rws Ru.cells l)=true
 | []=>rfl
 | x::l=>by
   show (V.clean.cleanL 0 x.cells&&V.clean.cleanLL 0 (rws Ru.cells l))=true
   rw [rules_clean l]; rfl
theorem rules_leaf (l:List Ru):∀ e∈rws Ru.cells l,∀ x∈e,x.leaf=true:=by
 intro e he x hx
 obtain ⟨a,_,rfl⟩:=List.mem_map.1 he
 simp only [Ru.cells,List.mem_cons,List.not_mem_nil,or_false] at hx
 rcases hx with rfl | rfl | rfl <;> rfl
theorem ScIn.view {es h Ls} (H:ScIn es h Ls):View es (hdV h Ls.length) (.sl (rws Ru.cells (Ls.map LR.ru))):=by
 rcases h with _ | ⟨b,c⟩
 · have:Ls.map LR.cells=[]:=H.top
   have:Ls=[]:=List.map_eq_nil_iff.1 this
   subst this; exact .nils
 · have ht:ent b c 3 (Ls.map LR.cells)∈es:=H.top
   refine .dref ht (by simp) (by simp [rws]) (rules_clean _) (rules_leaf _) (fun i r r' p q=>?_) (fun i r r' j x y p q u v=>?_)
   · rw [List.getElem?_map] at p
     obtain ⟨L,_,rfl⟩:=Option.map_eq_some_iff.1 p
     obtain ⟨e1,e2⟩:=List.getElem?_eq_some_iff.1 q
     subst e2
     simp [rws,LR.cells,Ru.cells]
   · rw [List.getElem?_map] at p
     obtain ⟨L,hL,rfl⟩:=Option.map_eq_some_iff.1 p
     unfold rws at q
     rw [List.getElem?_map,List.getElem?_map,hL] at q
     cases q
     have hm:=List.mem_of_getElem? hL
     match j,u,v with
     | 0,u,v=>cases u; cases v; exact .same _
     | 1,u,v=>cases u; cases v; exact .same _
     | 2,u,v =>
       cases u; cases v
       exact plain_view (H.kids L hm) (items_clean _) (items_leaf _)
     | n+3,u,v=>simp [LR.cells] at u
end Go.Cod
set_option linter.all false
namespace Go.Cod
variable [Adr]
open Go Go.Proofs
set_option linter.all false
set_option maxRecDepth 10000
theorem semMore {o:Oper} {sl x:Operand} {t u e:TypeId} {ti:TI} (ho:o.op=.call { callee:=.builtin .append,args:=#[sl,x],argTypes:=#[t,u] }) (hk:kindOf (tauOf tauL) t=some (.slice e)) (hti:tauOf tauL e=some ti) (hu:notInt (kindOf (tauOf tauL) u)=true)
  (hz:ti.zero.cells.length=ti.size) {sz by_:Nat} (hsz:ti.size=sz) (hby:ti.bytes=by_) (hb0:0 < by_∧by_≤1000) {α:Type} {c:α→List V} (hc:∀ a,(c a).length=sz) {vs:List V} {vx:V} {k:Nat} {h:Option (Nat × Nat)} {L M:List α} {es:List (List V)} {st:St} {K:V→St→Prop} (hvs:vs=[hdV h L.length,vx]) (hpe:st[k]? = some (poolO es)) (hin:PlIn es sz h (L.map c))
  (hsrc:PSrc st vx (M.map c)) (hl:L.length+M.length≤10000000) (h0:h=none→M=[]→K .nils st)
  (hr:∀ b cc,h=some (b,cc)→K (.dref b (L++M).length cc) (st.set k (poolO (putEnt b ((L++M).map c) es))))
  (hn:∀ b cc,(∀ e∈es,labOf e≠b)→K (.dref b (L++M).length cc) (st.set k (poolO (es++[ent b cc sz ((L++M).map c)])))):SemOp Tryd.prog o vs st K:=by
 have hpe':poolEs st k=es:=by simp only [poolEs,hpe]; rfl
 have hw:∀ m∈M.map c,m.length=ti.size:=by
  rw [hsz]
  intro m hm
  obtain ⟨a,_,rfl⟩:=List.mem_map.1 hm
  exact hc a
 have hfit:∀ n:Nat,n≤10000000→n*ti.bytes≤140737488355328:=fun n h=>by
  rw [hby]
  have:=Nat.mul_le_mul h hb0.2
  omega
 rcases h with _ | ⟨b,cc⟩
 · have hL:L=[]:=List.map_eq_nil_iff.1 hin
   subst hL
   by_cases hM:M=[]
   · subst hM
     exact semAppendNil0 good ho hk hti hu hvs hsrc (h0 rfl rfl)
   · have hpos:0 < M.length:=List.length_pos_iff.2 hM
     refine semAppendNil (m:=M.length) good ho hk hti hu hz (by rw [hby]; exact hb0.1) hvs hpe hsrc hw (by simp) hpos (hfit _ (by simpa using hl)) fun b c' _ hf=>?_
     rw [hsz]
     exact hn b c' hf
 · have hm:ent b cc ti.size (L.map c)∈es:=by rw [hsz]; exact hin
   have hlaid:laidRows (L.map c) (M.map c) L.length=(L++M).map c:=by
    unfold laidRows
    rw [List.take_of_length_le (by simp),List.drop_of_length_le (by simp),List.map_append]
    simp
   refine semAppendE (m:=M.length) (rows:=L.map c) (es1:=putEnt b ((L++M).map c) es) good ho hk hti hu hz (by rw [hby]; exact hb0.1) hvs hpe' hm hsrc hw (by simp) (by simp) (hfit _ hl) (by rw [hlaid]) (fun _=>?_) fun _ b' c' _ hf=>?_
   · rw [← List.length_append]; exact hr b cc rfl
   · rw [List.take_of_length_le (by simp),← List.map_append,hsz,← List.length_append]
     exact hn b' c' hf
def scBox (root:List UInt8) (v:V):O:=⟨[[.str root,v]],2,true,true,true,.cell⟩
def L10R (root:List UInt8) (rs:List Ru) (o:Out) (st':St):Prop:=∃ (Ls:List LR) (h:Option (Nat × Nat)) (es:List (List V)),ScIn es h Ls∧Ls.map LR.ru=rs∧o=.ret (.agg [.str root,hdV h Ls.length])∧st'=[poolO es]
set_option maxHeartbeats 8000000 in
theorem l10Schema_full (s:Sc) (hs:s.Sm):Full Tryd.prog noY 62 [.agg s.cells] [poolO []] (L10R s.root s.rules):=by
 obtain ⟨root,rs⟩:=s
 obtain ⟨s1,s2,s3⟩:=hs
 simp only at s1 s2 s3
 show Full Tryd.prog noY 62 [.agg [.str root,.sl (rws Ru.cells rs)]] [poolO []] (L10R root rs)
 have hlr:=rws_len Ru.cells rs
 have hlg:=fun i h=>rws_get Ru.cells rs i h
 obtain ⟨rows,hrows⟩:∃ rows,rows=rws Ru.cells rs:=⟨_,rfl⟩
 rw [← hrows] at hlr ⊢
 simp only [← hrows] at hlg
 clear hrows
 refine full_of_draw good Tryd.func62 rfl (by kernel_rfl) (by decide) fun X hX=>?_
 conv=>whnf
 refine loop_drop (fun n fr st=>∃ (i:Nat) (Ls:List LR) (h:Option (Nat × Nat)) (es:List (List V)),n+i=rs.length∧ScIn es h Ls∧Ls.map LR.ru=rs.take i ∧
   Holds fr [(1,.ptr 1 0 0),(2,.ptr 2 0 0),(3,.ptr 3 0 0),(4,.int .i64 i)]∧st=[poolO es,scBox root (.sl rows),scBox [] .nils,scBox root (hdV h Ls.length)]) rs.length none ?_ ?_
 · exact ⟨0,[],none,[],rfl,.nil _,by simp,⟨rfl,rfl,rfl,rfl,trivial⟩,rfl⟩
 rintro n fr st ⟨i,Ls,h,es,hi,hS,hru,hh,rfl⟩
 obtain ⟨fr,rfl⟩:=hh.split
 clear hh
 have hLl:Ls.length=i∨rs.length < i:=by
  have:=congrArg List.length hru
  rw [List.length_map,List.length_take] at this
  omega
 conv=>whnf
 rw [hlr]
 by_cases hlt:i < rs.length
 · rw [ltB_t (by omega)]
   conv=>whnf
   have hg:=hlg i hlt
   have htk:rs.take (i+1)=rs.take i++[rs[i]]:=List.take_succ_eq_append_getElem hlt
   have hsm:=s3 _ (List.getElem_mem hlt)
   generalize rs[i]=q at *
   obtain ⟨qk,qt,qs⟩:=q
   have hwk:V.int .i64 (IntKind.i64.wrap ((i:Int)+1))=.int .i64 ((i+1:Nat):Int):=by rw [wrap64 (by omega) (by omega)]; simp
   refine ⟨by omega,rows,_,3,rfl,hg,rfl,rfl,?_⟩
   conv=>whnf
   have hE:∀ g,(Ls++[(⟨qk,qt,qs,g⟩:LR)]).map LR.ru=rs.take (i+1):=fun g=>by rw [List.map_append,hru,htk]; rfl
   refine semMore (k:=0) (sz:=3) (by_:=24) (c:=It.cells) (h:=none) (L:=[]) (M:=qs) (es:=es) rfl rfl rfl rfl rfl rfl rfl ⟨by omega,by omega⟩ (fun _=>rfl) rfl rfl rfl (.inl rfl) (by have:=hsm.2.1; simp only at this; rw [List.length_nil]; omega) (fun _ hq0=>?_) (fun _ _ h=>by cases h) fun b0 c0 hf0=>?_
   · subst hq0
     have H1:=hS
     have H2:PlIn es 3 (LR.mk qk qt [] none).hd (rws It.cells (LR.mk qk qt [] none).items):=rfl
     have H3:ApartH h (LR.mk qk qt [] none).hd:=fun _ _ _ _ _ h=>by cases h
     have H4:∀ M∈Ls,ApartH M.hd (LR.mk qk qt [] none).hd:=fun _ _ _ _ _ _ _ h=>by cases h
     rcases h with _ | ⟨b1,c1⟩
     · skip
       conv=>whnf
       refine semMore (k:=0) (sz:=3) (by_:=48) (c:=LR.cells) (h:=none) (L:=Ls) (M:=[⟨qk,qt,[],none⟩]) (es:=es) rfl rfl rfl rfl rfl rfl rfl ⟨by omega,by omega⟩ (fun _=>rfl) rfl rfl H1.top (.inl rfl) (by rw [List.length_singleton]; omega) (fun _ h=>by cases h) (fun b cc hb=>?_) fun b cc hf=>?_
       · cases hb
       · have HS:=H1.snoc_new (c:=cc) H2 H4 hf
         conv=>whnf
         refine ⟨n - 1,by omega,some [0,1,2,3],?_⟩
         conv=>whnf
         exact ⟨i+1,_,some (b,cc),_,by omega,HS,hE _,⟨rfl,rfl,rfl,hwk,trivial⟩,rfl⟩
     · skip
       conv=>whnf
       refine semMore (k:=0) (sz:=3) (by_:=48) (c:=LR.cells) (h:=some (b1,c1)) (L:=Ls) (M:=[⟨qk,qt,[],none⟩]) (es:=es) rfl rfl rfl rfl rfl rfl rfl ⟨by omega,by omega⟩ (fun _=>rfl) rfl rfl H1.top (.inl rfl) (by rw [List.length_singleton]; omega) (fun _ h=>by cases h) (fun b cc hb=>?_) fun b cc hf=>?_
       · cases hb
         have HS:=H1.snoc_in H2 H3 H4
         conv=>whnf
         refine ⟨n - 1,by omega,some [0,1,2,3],?_⟩
         conv=>whnf
         exact ⟨i+1,_,some (b1,c1),_,by omega,HS,hE _,⟨rfl,rfl,rfl,hwk,trivial⟩,rfl⟩
       · have HS:=H1.snoc_new (c:=cc) H2 H4 hf
         conv=>whnf
         refine ⟨n - 1,by omega,some [0,1,2,3],?_⟩
         conv=>whnf
         exact ⟨i+1,_,some (b,cc),_,by omega,HS,hE _,⟨rfl,rfl,rfl,hwk,trivial⟩,rfl⟩
   · have H1:ScIn (es++[ent b0 c0 3 (([]++qs).map It.cells)]) h Ls:=hS.more _
     have H2:PlIn (es++[ent b0 c0 3 (([]++qs).map It.cells)]) 3 (LR.mk qk qt qs (some (b0,c0))).hd (rws It.cells (LR.mk qk qt qs (some (b0,c0))).items):=List.mem_append_right _ List.mem_cons_self
     have H3:ApartH h (LR.mk qk qt qs (some (b0,c0))).hd:=(hS.top.fresh hf0).symm
     have H4:∀ M∈Ls,ApartH M.hd (LR.mk qk qt qs (some (b0,c0))).hd:=fun M hM=>((hS.kids M hM).fresh hf0).symm
     rcases h with _ | ⟨b1,c1⟩
     · skip
       conv=>whnf
       refine semMore (k:=0) (sz:=3) (by_:=48) (c:=LR.cells) (h:=none) (L:=Ls) (M:=[⟨qk,qt,qs,some (b0,c0)⟩]) (es:=_) rfl rfl rfl rfl rfl rfl rfl ⟨by omega,by omega⟩ (fun _=>rfl) rfl rfl H1.top (.inl rfl) (by rw [List.length_singleton]; omega) (fun _ h=>by cases h) (fun b cc hb=>?_) fun b cc hf=>?_
       · cases hb
       · have HS:=H1.snoc_new (c:=cc) H2 H4 hf
         conv=>whnf
         refine ⟨n - 1,by omega,some [0,1,2,3],?_⟩
         conv=>whnf
         exact ⟨i+1,_,some (b,cc),_,by omega,HS,hE _,⟨rfl,rfl,rfl,hwk,trivial⟩,rfl⟩
     · skip
       conv=>whnf
       refine semMore (k:=0) (sz:=3) (by_:=48) (c:=LR.cells) (h:=some (b1,c1)) (L:=Ls) (M:=[⟨qk,qt,qs,some (b0,c0)⟩]) (es:=_) rfl rfl rfl rfl rfl rfl rfl ⟨by omega,by omega⟩ (fun _=>rfl) rfl rfl H1.top (.inl rfl) (by rw [List.length_singleton]; omega) (fun _ h=>by cases h) (fun b cc hb=>?_) fun b cc hf=>?_
       · cases hb
         have HS:=H1.snoc_in H2 H3 H4
         conv=>whnf
         refine ⟨n - 1,by omega,some [0,1,2,3],?_⟩
         conv=>whnf
         exact ⟨i+1,_,some (b1,c1),_,by omega,HS,hE _,⟨rfl,rfl,rfl,hwk,trivial⟩,rfl⟩
       · have HS:=H1.snoc_new (c:=cc) H2 H4 hf
         conv=>whnf
         refine ⟨n - 1,by omega,some [0,1,2,3],?_⟩
         conv=>whnf
         exact ⟨i+1,_,some (b,cc),_,by omega,HS,hE _,⟨rfl,rfl,rfl,hwk,trivial⟩,rfl⟩
 · rw [ltB_f (by omega)]
   rcases h with _ | ⟨b1,c1⟩
   all_goals
    conv=>whnf
    refine ⟨[],true,?_⟩
    conv=>whnf
    exact ⟨Ls,_,es,hS,by rw [hru,List.take_of_length_le (by omega)],rfl,rfl⟩
end Go.Cod
set_option linter.all false
namespace Go.Cod
variable [Adr]
open Go Go.Proofs
set_option linter.all false
set_option maxRecDepth 10000
def sch11W:Sc:=⟨kDoc,[⟨kDoc,false,[⟨kTitle,false,true⟩,⟨kSec,true,false⟩,⟨kNote,false,true⟩]⟩,⟨kTitle,true,[]⟩,⟨kSec,true,[⟨kPar,true,false⟩,⟨kNote,false,true⟩]⟩,⟨kPar,true,[]⟩,⟨kNote,true,[⟨kPar,true,false⟩]⟩]⟩
theorem l11SchemaW_pure:Pure Tryd.prog 36 [] (·=.agg sch11W.cells):=l11Schema_pure
def ItS (x:It):Prop:=x.kind.length≤8
def RuS (r:Ru):Prop:=r.kind.length≤8∧r.kids.length≤4∧∀ x∈r.kids,ItS x
def ScS (s:Sc):Prop:=s.root.length≤8∧1≤s.rules.length∧s.rules.length≤100∧∀ r∈s.rules,RuS r
theorem ScS.sm {s:Sc} (h:ScS s):s.Sm:=⟨by have:=h.1; omega,by have:=h.2.2.1; omega,fun r hr=>by
 obtain ⟨h1,h2,h3⟩:=h.2.2.2 r hr
 exact ⟨by omega,by omega,fun x hx=>by have:=h3 x hx; unfold ItS at this; unfold It.Sm; omega⟩⟩
theorem sch11_S:ScS sch11W:=by
 refine ⟨by decide,by decide,by decide,fun r hr=>?_⟩
 simp only [sch11W,List.mem_cons,List.not_mem_nil,or_false] at hr
 rcases hr with rfl | rfl | rfl | rfl | rfl
 all_goals
  refine ⟨by decide,by decide,?_⟩
  unfold ItS
  decide
def AnyR (bs:List UInt8) (p:Int) (o:Out) (st':St):Prop:=∃ (root:List UInt8) (Ls:List LR) (h:Option (Nat × Nat)) (es:List (List V)) (p':Int),ScIn es h Ls∧ScS ⟨root,Ls.map LR.ru⟩∧p≤p'∧p'≤p+10∧o=.ret (.agg [.str root,hdV h Ls.length])∧st'=[rdO bs p',poolO es]
theorem set_S {root:List UInt8} {Ls:List LR} {k:Nat} {L:LR} (h:ScS ⟨root,Ls.map LR.ru⟩) (hL:RuS L.ru):ScS ⟨root,(Ls.set k L).map LR.ru⟩:=by
 obtain ⟨h1,h2,h3,h4⟩:=h
 simp only [List.length_map] at h2 h3
 refine ⟨h1,by simpa using h2,by simpa using h3,fun r hr=>?_⟩
 obtain ⟨M,hM,rfl⟩:=List.mem_map.1 hr
 rcases List.mem_or_eq_of_mem_set hM with hM | rfl
 · exact h4 _ (List.mem_map_of_mem hM)
 · exact hL
set_option maxHeartbeats 16000000 in
theorem l11AnySchema_full (bs:List UInt8) (hb:bs.length≤2000) (p:Int) (p0:0≤p) (p1:p≤1000000000):Full Tryd.prog noY 27 [.ptr 0 0 0] [rdO bs p,poolO []] (AnyR bs p):=by
 have hsch:=l11SchemaW_pure
 have h10:=l10Schema_full sch11W sch11_S.sm
 have hS0:=sch11_S
 unfold L10R at h10
 generalize sch11W=s0 at *
 obtain ⟨root,rs⟩:=s0
 unfold AnyR
 have hpk:=fun n q (h:p≤q∧q≤p+100)=>pick_full bs q n hb (by omega) (by omega)
 have hof:=fun q (h:p≤q∧q≤p+100)=>of_full bs q [[112,97,114],[110,111,116,101],[115,101,99]] hb (by omega) (by omega) (by simp) (by simp)
 refine full_of_draw2 good Tryd.func27 rfl (by kernel_rfl) (by decide) fun A hA X hX=>?_
 conv=>whnf
 refine box_go hA ?_
 conv=>whnf
 refine box_go hA ?_
 conv=>whnf
 refine .inl (hsch.mono ?_)
 rintro r rfl
 conv=>whnf
 refine .inr (.inl ⟨[1],true,?_⟩)
 conv=>whnf
 refine h10.mono ?_
 rintro o st' ⟨Ls,h,es,hS,hru,rfl,rfl⟩
 have hpos:1≤Ls.length:=by rw [← List.length_map (f:=LR.ru),hru]; exact hS0.2.1
 obtain ⟨b,c,rfl⟩:∃ b c,h=some (b,c):=by
  rcases h with _ | ⟨b,c⟩
  · have:Ls=[]:=List.map_eq_nil_iff.1 hS.top
    subst this; simp at hpos
  · exact ⟨b,c,rfl⟩
 have hSS:ScS ⟨root,Ls.map LR.ru⟩:=by rw [hru]; exact hS0
 clear hS0 hru h10 hsch
 conv=>whnf
 refine box_with hA [(0,.ptr 0 0 0),(2,.ptr 2 0 0),(3,.ptr 3 0 0)] ⟨rfl,rfl,rfl,trivial⟩ fun fr=>?_
 conv=>whnf
 refine ⟨[0],false,?_⟩
 conv=>whnf
 refine (hpk 3 p (by omega)).mono ?_
 rintro o st' ⟨m,m0,m1,rfl,rfl⟩
 have m1:=m1 (by omega)
 conv=>whnf
 refine loop_drop (fun n fr st=>∃ (Ls:List LR) (es:List (List V)) (b c:Nat) (p' m:Int),n=m.toNat∧m < 3∧1≤Ls.length∧ScIn es (some (b,c)) Ls∧ScS ⟨root,Ls.map LR.ru⟩∧(p≤p'∧p'+3*n≤p+7) ∧
   Holds fr [(0,.ptr 0 0 0),(2,.ptr 2 0 0),(3,.ptr 3 0 0),(4,.int .i64 m)]∧st=[rdO bs p',poolO es,scBox [] .nils,scBox root (.dref b Ls.length c)]) m.toNat none ?_ ?_
 · exact ⟨Ls,es,b,c,p+1,m,rfl,m1,hpos,hS,hSS,by omega,⟨rfl,rfl,rfl,rfl,trivial⟩,rfl⟩
 clear hS hSS hpos
 rintro n fr st ⟨Ls,es,b,c,p',m,rfl,m1,hpos,hS,hSS,hp,hh,rfl⟩
 obtain ⟨fr,rfl⟩:=hh.split
 clear hh
 conv=>whnf
 refine box_go hA ?_
 conv=>whnf
 by_cases hm:0 < m
 · rw [ltB_t hm]
   conv=>whnf
   refine box_with hA [(0,.ptr 0 0 0),(2,.ptr 2 0 0),(3,.ptr 3 0 0),(4,.int .i64 m)] ⟨rfl,rfl,rfl,rfl,trivial⟩ fun fr=>?_
   conv=>whnf
   refine ⟨[0],false,?_⟩
   conv=>whnf
   refine (hpk Ls.length p' (by omega)).mono ?_
   rintro o st' ⟨k,k0,k1,rfl,rfl⟩
   have k1:=k1 (by omega)
   obtain ⟨k,rfl⟩:∃ j:Nat,k=j:=⟨k.toNat,by omega⟩
   have hk:k < Ls.length:=by omega
   have hgL:(Ls.map LR.cells)[k]? = some Ls[k].cells:=by simp [hk]
   have hqs:Ls[k].items.length≤4∧Ls[k].kind.length≤8∧∀ x∈Ls[k].items,ItS x:=by
    obtain ⟨h1,h2,h3⟩:=hSS.2.2.2 Ls[k].ru (List.mem_map_of_mem (List.getElem_mem hk))
    exact ⟨h2,h1,h3⟩
   have hin:=hS.kids _ (List.getElem_mem hk)
   have hap:=hS.ap _ (List.getElem_mem hk)
   have hoth:∀ i (hi:i < Ls.length),i≠k→ApartH Ls[i].hd Ls[k].hd:=fun i hi hne=>pw_get (fun _ _ h=>h.symm) hS.pw hi hk hne
   generalize hq:Ls[k]=q at *
   obtain ⟨qk,qt,qs,g⟩:=q
   conv=>whnf
   refine box_with hA [(0,.ptr 0 0 0),(2,.ptr 2 0 0),(3,.ptr 3 0 0),(4,.int .i64 m),(5,.int .i64 k)] ⟨rfl,rfl,rfl,rfl,rfl,trivial⟩ fun fr=>?_
   conv=>whnf
   refine ⟨[0],false,?_⟩
   conv=>whnf
   refine (hof (p'+1) (by omega)).mono ?_
   rintro o st' ⟨kd,hkd,rfl,rfl⟩
   have hkl:kd.length≤8:=by
    simp only [List.mem_cons,List.not_mem_nil,or_false] at hkd
    rcases hkd with rfl | rfl | rfl <;> decide
   clear hkd
   conv=>whnf
   refine box_with hA [(0,.ptr 0 0 0),(2,.ptr 2 0 0),(3,.ptr 3 0 0),(4,.int .i64 m),(5,.int .i64 k),(6,.ptr 5 0 0)] ⟨rfl,rfl,rfl,rfl,rfl,rfl,trivial⟩ fun fr=>?_
   conv=>whnf
   refine ⟨[0],false,?_⟩
   conv=>whnf
   refine (hpk 3 (p'+1+1) (by omega)).mono ?_
   rintro o st' ⟨z,z0,z1,rfl,rfl⟩
   conv=>whnf
   refine box_go hA ?_
   conv=>whnf
   have hwm:V.int .i64 (IntKind.i64.wrap (m - 1))=.int .i64 (m - 1):=by rw [wrap64 (by omega) (by omega)]
   by_cases z2:z=0
   · rw [eqB_t z2]
     conv=>whnf
     refine box_with hA [(0,.ptr 0 0 0),(2,.ptr 2 0 0),(3,.ptr 3 0 0),(4,.int .i64 m),(5,.int .i64 k),(6,.ptr 5 0 0)] ⟨rfl,rfl,rfl,rfl,rfl,rfl,trivial⟩ fun fr=>?_
     conv=>whnf
     refine box_with hA [(0,.ptr 0 0 0),(2,.ptr 2 0 0),(3,.ptr 3 0 0),(4,.int .i64 m),(5,.int .i64 k),(6,.ptr 5 0 0)] ⟨rfl,rfl,rfl,rfl,rfl,rfl,trivial⟩ fun fr=>?_
     conv=>whnf
     refine ⟨by omega,by omega,?_⟩
     conv=>whnf
     refine ⟨1,c,_,_,hS.top,hgL,?_⟩
     rcases g with _ | ⟨b1,c1⟩
     · obtain rfl:qs=[]:=List.map_eq_nil_iff.1 hin
       conv=>whnf
       rw [ltB_t (by decide)]
       conv=>whnf
       refine draw_with hX [(0,.ptr 0 0 0),(2,.ptr 2 0 0),(3,.ptr 3 0 0),(4,.int .i64 m),(5,.int .i64 k),(6,.ptr 5 0 0)] ⟨rfl,rfl,rfl,rfl,rfl,rfl,trivial⟩ fun C hC fr=>?_
       show drawR _ _ _ _ _ [rdO bs (p'+1+1+1),poolO es,scBox [] .nils,scBox root (.dref b Ls.length c),⟨drows [[112,97,114],[110,111,116,101],[115,101,99]],1,true,false,false,.cell⟩,⟨[[.str kd,.bool true,.bool false]],3,true,true,true,.cell⟩] _ _
       have hJ:∀ fr es2 L' tmp,ScIn (putEnt b ((Ls.set k L').map LR.cells) es2) (some (b,c)) (Ls.set k L')→RuS L'.ru→Holds fr [(0,.ptr 0 0 0),(2,.ptr 2 0 0),(3,.ptr 3 0 0),(4,.int .i64 m)] →
         C fr [rdO bs (p'+1+1+1),poolO (putEnt b ((Ls.set k L').map LR.cells) es2),scBox [] .nils,scBox root (.dref b Ls.length c),⟨drows [[112,97,114],[110,111,116,101],[115,101,99]],1,true,false,false,.cell⟩,⟨[[.str kd,.bool true,.bool false]],3,true,true,true,.cell⟩,⟨tmp,3,true,true,false,.cell⟩]:=by
        intro fr es2 L' tmp HS HR hh
        obtain ⟨fr,rfl⟩:=hh.split
        refine hC _ _ ?_
        clear hC hh
        conv=>whnf
        refine box_with hA [(0,.ptr 0 0 0),(2,.ptr 2 0 0),(3,.ptr 3 0 0),(4,.int .i64 m)] ⟨rfl,rfl,rfl,rfl,trivial⟩ fun fr=>?_
        conv=>whnf
        refine ⟨(m - 1).toNat,by omega,some [0,1,2,3],?_⟩
        conv=>whnf
        exact ⟨Ls.set k L',_,b,c,p'+1+1+1,m - 1,rfl,by omega,by rw [List.length_set]; exact hpos,HS,set_S hSS HR,by omega,⟨rfl,rfl,rfl,hwm,trivial⟩,by rw [List.length_set]; rfl⟩
       clear hC
       conv=>whnf
       refine ⟨by omega,by omega,?_⟩
       conv=>whnf
       refine ⟨1,c,_,_,hS.top,hgL,?_⟩
       conv=>whnf
       refine semMore (k:=1) (sz:=3) (by_:=24) (c:=It.cells) (h:=none) (L:=[]) (M:=[⟨kd,true,false⟩]) (es:=es) rfl rfl rfl rfl rfl rfl rfl ⟨by omega,by omega⟩ (fun _=>rfl) rfl rfl rfl (.inl rfl) (by simp) (fun _ h=>by cases h) (fun b2 c2 hb=>by cases hb) fun b2 c2 hf=>?_
       have hT2:=hS.top.more [ent b2 c2 3 ((([]:List It)++[(⟨kd,true,false⟩:It)]).map It.cells)]
       conv=>whnf
       repeat (first
        | (refine And.intro (by (conv=>whnf); rfl) ?_
           conv=>whnf)
        | (refine And.intro (by (conv=>whnf); exact ⟨by omega,by omega,rfl⟩) ?_
           conv=>whnf)
        | (refine And.intro (by (conv=>whnf); exact ⟨1,c,_,_,hT2,hgL,rfl⟩) ?_
           conv=>whnf))
       refine ⟨by omega,by omega,?_⟩
       conv=>whnf
       have HS:=hS.set (L:=⟨qk,qt,([]:List It)++[(⟨kd,true,false⟩:It)],some (b2,c2)⟩) hk (List.mem_append_right _ List.mem_cons_self) hT2 ((hS.top.fresh hf).symm) fun i hi hne=>⟨(hS.kids _ (List.getElem_mem hi)).more _,((hS.kids _ (List.getElem_mem hi)).fresh hf).symm⟩
       have HR:RuS (LR.ru ⟨qk,qt,([]:List It)++[(⟨kd,true,false⟩:It)],some (b2,c2)⟩):=⟨hqs.2.1,by show (([]:List It)++[(⟨kd,true,false⟩:It)]).length≤4; simp only [List.length_append,List.length_cons,List.length_nil]; omega,fun x hx=>by
        rcases List.mem_append.1 hx with hx | hx
        · exact hqs.2.2 x hx
        · rw [List.mem_singleton.1 hx]; exact hkl⟩
       refine ⟨1,c,Ls.map LR.cells,_,putEnt b ((Ls.set k (LR.mk qk qt (([]:List It)++[(⟨kd,true,false⟩:It)]) (some (b2,c2)))).map LR.cells) _,hT2,hgL,by rw [List.map_set]; rfl,?_⟩
       conv=>whnf
       exact hJ _ _ _ _ HS HR ⟨rfl,rfl,rfl,rfl,trivial⟩
     · conv=>whnf
       by_cases h4:qs.length < 4
       · rw [ltB_t (show ((qs.length:Nat):Int) < 4 by omega)]
         conv=>whnf
         refine draw_with hX [(0,.ptr 0 0 0),(2,.ptr 2 0 0),(3,.ptr 3 0 0),(4,.int .i64 m),(5,.int .i64 k),(6,.ptr 5 0 0)] ⟨rfl,rfl,rfl,rfl,rfl,rfl,trivial⟩ fun C hC fr=>?_
         show drawR _ _ _ _ _ [rdO bs (p'+1+1+1),poolO es,scBox [] .nils,scBox root (.dref b Ls.length c),⟨drows [[112,97,114],[110,111,116,101],[115,101,99]],1,true,false,false,.cell⟩,⟨[[.str kd,.bool true,.bool false]],3,true,true,true,.cell⟩] _ _
         have hJ:∀ fr es2 L' tmp,ScIn (putEnt b ((Ls.set k L').map LR.cells) es2) (some (b,c)) (Ls.set k L')→RuS L'.ru→Holds fr [(0,.ptr 0 0 0),(2,.ptr 2 0 0),(3,.ptr 3 0 0),(4,.int .i64 m)] →
           C fr [rdO bs (p'+1+1+1),poolO (putEnt b ((Ls.set k L').map LR.cells) es2),scBox [] .nils,scBox root (.dref b Ls.length c),⟨drows [[112,97,114],[110,111,116,101],[115,101,99]],1,true,false,false,.cell⟩,⟨[[.str kd,.bool true,.bool false]],3,true,true,true,.cell⟩,⟨tmp,3,true,true,false,.cell⟩]:=by
          intro fr es2 L' tmp HS HR hh
          obtain ⟨fr,rfl⟩:=hh.split
          refine hC _ _ ?_
          clear hC hh
          conv=>whnf
          refine box_with hA [(0,.ptr 0 0 0),(2,.ptr 2 0 0),(3,.ptr 3 0 0),(4,.int .i64 m)] ⟨rfl,rfl,rfl,rfl,trivial⟩ fun fr=>?_
          conv=>whnf
          refine ⟨(m - 1).toNat,by omega,some [0,1,2,3],?_⟩
          conv=>whnf
          exact ⟨Ls.set k L',_,b,c,p'+1+1+1,m - 1,rfl,by omega,by rw [List.length_set]; exact hpos,HS,set_S hSS HR,by omega,⟨rfl,rfl,rfl,hwm,trivial⟩,by rw [List.length_set]; rfl⟩
         clear hC
         conv=>whnf
         refine ⟨by omega,by omega,?_⟩
         conv=>whnf
         refine ⟨1,c,_,_,hS.top,hgL,?_⟩
         conv=>whnf
         refine semMore (k:=1) (sz:=3) (by_:=24) (c:=It.cells) (h:=some (b1,c1)) (L:=qs) (M:=[⟨kd,true,false⟩]) (es:=es) rfl rfl rfl rfl rfl rfl rfl ⟨by omega,by omega⟩ (fun _=>rfl) rfl rfl hin (.inl rfl) (by rw [List.length_singleton]; omega) (fun h _=>by cases h) (fun b2 c2 hb=>?_) fun b2 c2 hf=>?_
         · cases hb
           have hT2:=hS.top.put hap.symm ((qs++[(⟨kd,true,false⟩:It)]).map It.cells)
           conv=>whnf
           repeat (first
            | (refine And.intro (by (conv=>whnf); rfl) ?_
               conv=>whnf)
            | (refine And.intro (by (conv=>whnf); exact ⟨by omega,by omega,rfl⟩) ?_
               conv=>whnf)
            | (refine And.intro (by (conv=>whnf); exact ⟨1,c,_,_,hT2,hgL,rfl⟩) ?_
               conv=>whnf))
           refine ⟨by omega,by omega,?_⟩
           conv=>whnf
           have HS:=hS.set (L:=⟨qk,qt,qs++[(⟨kd,true,false⟩:It)],some (b1,c1)⟩) hk (putEnt_mem hin) hT2 (hap) fun i hi hne=>⟨(hS.kids _ (List.getElem_mem hi)).put (hoth i hi hne).symm _,hoth i hi hne⟩
           have HR:RuS (LR.ru ⟨qk,qt,qs++[(⟨kd,true,false⟩:It)],some (b1,c1)⟩):=⟨hqs.2.1,by show (qs++[(⟨kd,true,false⟩:It)]).length≤4; simp only [List.length_append,List.length_cons,List.length_nil]; omega,fun x hx=>by
            rcases List.mem_append.1 hx with hx | hx
            · exact hqs.2.2 x hx
            · rw [List.mem_singleton.1 hx]; exact hkl⟩
           refine ⟨1,c,Ls.map LR.cells,_,putEnt b ((Ls.set k (LR.mk qk qt (qs++[(⟨kd,true,false⟩:It)]) (some (b1,c1)))).map LR.cells) _,hT2,hgL,by rw [List.map_set]; rfl,?_⟩
           conv=>whnf
           exact hJ _ _ _ _ HS HR ⟨rfl,rfl,rfl,rfl,trivial⟩
         · have hT2:=hS.top.more [ent b2 c2 3 ((qs++[(⟨kd,true,false⟩:It)]).map It.cells)]
           conv=>whnf
           repeat (first
            | (refine And.intro (by (conv=>whnf); rfl) ?_
               conv=>whnf)
            | (refine And.intro (by (conv=>whnf); exact ⟨by omega,by omega,rfl⟩) ?_
               conv=>whnf)
            | (refine And.intro (by (conv=>whnf); exact ⟨1,c,_,_,hT2,hgL,rfl⟩) ?_
               conv=>whnf))
           refine ⟨by omega,by omega,?_⟩
           conv=>whnf
           have HS:=hS.set (L:=⟨qk,qt,qs++[(⟨kd,true,false⟩:It)],some (b2,c2)⟩) hk (List.mem_append_right _ List.mem_cons_self) hT2 ((hS.top.fresh hf).symm) fun i hi hne=>⟨(hS.kids _ (List.getElem_mem hi)).more _,((hS.kids _ (List.getElem_mem hi)).fresh hf).symm⟩
           have HR:RuS (LR.ru ⟨qk,qt,qs++[(⟨kd,true,false⟩:It)],some (b2,c2)⟩):=⟨hqs.2.1,by show (qs++[(⟨kd,true,false⟩:It)]).length≤4; simp only [List.length_append,List.length_cons,List.length_nil]; omega,fun x hx=>by
            rcases List.mem_append.1 hx with hx | hx
            · exact hqs.2.2 x hx
            · rw [List.mem_singleton.1 hx]; exact hkl⟩
           refine ⟨1,c,Ls.map LR.cells,_,putEnt b ((Ls.set k (LR.mk qk qt (qs++[(⟨kd,true,false⟩:It)]) (some (b2,c2)))).map LR.cells) _,hT2,hgL,by rw [List.map_set]; rfl,?_⟩
           conv=>whnf
           exact hJ _ _ _ _ HS HR ⟨rfl,rfl,rfl,rfl,trivial⟩
       · rw [ltB_f (show (4:Int)≤((qs.length:Nat):Int) by omega)]
         conv=>whnf
         refine box_with hA [(0,.ptr 0 0 0),(2,.ptr 2 0 0),(3,.ptr 3 0 0),(4,.int .i64 m),(5,.int .i64 k),(6,.ptr 5 0 0)] ⟨rfl,rfl,rfl,rfl,rfl,rfl,trivial⟩ fun fr=>?_
         conv=>whnf
         refine ⟨(m - 1).toNat,by omega,some [0,1,2,3],?_⟩
         conv=>whnf
         exact ⟨Ls,es,b,c,p'+1+1+1,m - 1,rfl,by omega,hpos,hS,hSS,by omega,⟨rfl,rfl,rfl,hwm,trivial⟩,rfl⟩
   · rw [eqB_f z2]
     conv=>whnf
     refine box_with hA [(0,.ptr 0 0 0),(2,.ptr 2 0 0),(3,.ptr 3 0 0),(4,.int .i64 m),(5,.int .i64 k),(6,.ptr 5 0 0),(25,.int .i64 z)] ⟨rfl,rfl,rfl,rfl,rfl,rfl,rfl,trivial⟩ fun fr=>?_
     conv=>whnf
     by_cases z3:z=1
     · rw [eqB_t z3]
       conv=>whnf
       refine box_with hA [(0,.ptr 0 0 0),(2,.ptr 2 0 0),(3,.ptr 3 0 0),(4,.int .i64 m),(5,.int .i64 k),(6,.ptr 5 0 0)] ⟨rfl,rfl,rfl,rfl,rfl,rfl,trivial⟩ fun fr=>?_
       conv=>whnf
       refine box_with hA [(0,.ptr 0 0 0),(2,.ptr 2 0 0),(3,.ptr 3 0 0),(4,.int .i64 m),(5,.int .i64 k),(6,.ptr 5 0 0)] ⟨rfl,rfl,rfl,rfl,rfl,rfl,trivial⟩ fun fr=>?_
       conv=>whnf
       refine ⟨by omega,by omega,?_⟩
       conv=>whnf
       refine ⟨1,c,_,_,hS.top,hgL,?_⟩
       rcases g with _ | ⟨b1,c1⟩
       · obtain rfl:qs=[]:=List.map_eq_nil_iff.1 hin
         conv=>whnf
         rw [ltB_t (by decide)]
         conv=>whnf
         refine draw_with hX [(0,.ptr 0 0 0),(2,.ptr 2 0 0),(3,.ptr 3 0 0),(4,.int .i64 m),(5,.int .i64 k),(6,.ptr 5 0 0)] ⟨rfl,rfl,rfl,rfl,rfl,rfl,trivial⟩ fun C hC fr=>?_
         show drawR _ _ _ _ _ [rdO bs (p'+1+1+1),poolO es,scBox [] .nils,scBox root (.dref b Ls.length c),⟨drows [[112,97,114],[110,111,116,101],[115,101,99]],1,true,false,false,.cell⟩,⟨[[.str kd,.bool false,.bool true]],3,true,true,true,.cell⟩] _ _
         have hJ:∀ fr es2 L' tmp,ScIn (putEnt b ((Ls.set k L').map LR.cells) es2) (some (b,c)) (Ls.set k L')→RuS L'.ru→Holds fr [(0,.ptr 0 0 0),(2,.ptr 2 0 0),(3,.ptr 3 0 0),(4,.int .i64 m)] →
           C fr [rdO bs (p'+1+1+1),poolO (putEnt b ((Ls.set k L').map LR.cells) es2),scBox [] .nils,scBox root (.dref b Ls.length c),⟨drows [[112,97,114],[110,111,116,101],[115,101,99]],1,true,false,false,.cell⟩,⟨[[.str kd,.bool false,.bool true]],3,true,true,true,.cell⟩,⟨tmp,3,true,true,false,.cell⟩]:=by
          intro fr es2 L' tmp HS HR hh
          obtain ⟨fr,rfl⟩:=hh.split
          refine hC _ _ ?_
          clear hC hh
          conv=>whnf
          refine box_with hA [(0,.ptr 0 0 0),(2,.ptr 2 0 0),(3,.ptr 3 0 0),(4,.int .i64 m)] ⟨rfl,rfl,rfl,rfl,trivial⟩ fun fr=>?_
          conv=>whnf
          refine ⟨(m - 1).toNat,by omega,some [0,1,2,3],?_⟩
          conv=>whnf
          exact ⟨Ls.set k L',_,b,c,p'+1+1+1,m - 1,rfl,by omega,by rw [List.length_set]; exact hpos,HS,set_S hSS HR,by omega,⟨rfl,rfl,rfl,hwm,trivial⟩,by rw [List.length_set]; rfl⟩
         clear hC
         conv=>whnf
         refine ⟨by omega,by omega,?_⟩
         conv=>whnf
         refine ⟨1,c,_,_,hS.top,hgL,?_⟩
         conv=>whnf
         refine semMore (k:=1) (sz:=3) (by_:=24) (c:=It.cells) (h:=none) (L:=[]) (M:=[⟨kd,false,true⟩]) (es:=es) rfl rfl rfl rfl rfl rfl rfl ⟨by omega,by omega⟩ (fun _=>rfl) rfl rfl rfl (.inl rfl) (by simp) (fun _ h=>by cases h) (fun b2 c2 hb=>by cases hb) fun b2 c2 hf=>?_
         have hT2:=hS.top.more [ent b2 c2 3 ((([]:List It)++[(⟨kd,false,true⟩:It)]).map It.cells)]
         conv=>whnf
         repeat (first
          | (refine And.intro (by (conv=>whnf); rfl) ?_
             conv=>whnf)
          | (refine And.intro (by (conv=>whnf); exact ⟨by omega,by omega,rfl⟩) ?_
             conv=>whnf)
          | (refine And.intro (by (conv=>whnf); exact ⟨1,c,_,_,hT2,hgL,rfl⟩) ?_
             conv=>whnf))
         refine ⟨by omega,by omega,?_⟩
         conv=>whnf
         have HS:=hS.set (L:=⟨qk,qt,([]:List It)++[(⟨kd,false,true⟩:It)],some (b2,c2)⟩) hk (List.mem_append_right _ List.mem_cons_self) hT2 ((hS.top.fresh hf).symm) fun i hi hne=>⟨(hS.kids _ (List.getElem_mem hi)).more _,((hS.kids _ (List.getElem_mem hi)).fresh hf).symm⟩
         have HR:RuS (LR.ru ⟨qk,qt,([]:List It)++[(⟨kd,false,true⟩:It)],some (b2,c2)⟩):=⟨hqs.2.1,by show (([]:List It)++[(⟨kd,false,true⟩:It)]).length≤4; simp only [List.length_append,List.length_cons,List.length_nil]; omega,fun x hx=>by
          rcases List.mem_append.1 hx with hx | hx
          · exact hqs.2.2 x hx
          · rw [List.mem_singleton.1 hx]; exact hkl⟩
         refine ⟨1,c,Ls.map LR.cells,_,putEnt b ((Ls.set k (LR.mk qk qt (([]:List It)++[(⟨kd,false,true⟩:It)]) (some (b2,c2)))).map LR.cells) _,hT2,hgL,by rw [List.map_set]; rfl,?_⟩
         conv=>whnf
         exact hJ _ _ _ _ HS HR ⟨rfl,rfl,rfl,rfl,trivial⟩
       · conv=>whnf
         by_cases h4:qs.length < 4
         · rw [ltB_t (show ((qs.length:Nat):Int) < 4 by omega)]
           conv=>whnf
           refine draw_with hX [(0,.ptr 0 0 0),(2,.ptr 2 0 0),(3,.ptr 3 0 0),(4,.int .i64 m),(5,.int .i64 k),(6,.ptr 5 0 0)] ⟨rfl,rfl,rfl,rfl,rfl,rfl,trivial⟩ fun C hC fr=>?_
           show drawR _ _ _ _ _ [rdO bs (p'+1+1+1),poolO es,scBox [] .nils,scBox root (.dref b Ls.length c),⟨drows [[112,97,114],[110,111,116,101],[115,101,99]],1,true,false,false,.cell⟩,⟨[[.str kd,.bool false,.bool true]],3,true,true,true,.cell⟩] _ _
           have hJ:∀ fr es2 L' tmp,ScIn (putEnt b ((Ls.set k L').map LR.cells) es2) (some (b,c)) (Ls.set k L')→RuS L'.ru→Holds fr [(0,.ptr 0 0 0),(2,.ptr 2 0 0),(3,.ptr 3 0 0),(4,.int .i64 m)] →
             C fr [rdO bs (p'+1+1+1),poolO (putEnt b ((Ls.set k L').map LR.cells) es2),scBox [] .nils,scBox root (.dref b Ls.length c),⟨drows [[112,97,114],[110,111,116,101],[115,101,99]],1,true,false,false,.cell⟩,⟨[[.str kd,.bool false,.bool true]],3,true,true,true,.cell⟩,⟨tmp,3,true,true,false,.cell⟩]:=by
            intro fr es2 L' tmp HS HR hh
            obtain ⟨fr,rfl⟩:=hh.split
            refine hC _ _ ?_
            clear hC hh
            conv=>whnf
            refine box_with hA [(0,.ptr 0 0 0),(2,.ptr 2 0 0),(3,.ptr 3 0 0),(4,.int .i64 m)] ⟨rfl,rfl,rfl,rfl,trivial⟩ fun fr=>?_
            conv=>whnf
            refine ⟨(m - 1).toNat,by omega,some [0,1,2,3],?_⟩
            conv=>whnf
            exact ⟨Ls.set k L',_,b,c,p'+1+1+1,m - 1,rfl,by omega,by rw [List.length_set]; exact hpos,HS,set_S hSS HR,by omega,⟨rfl,rfl,rfl,hwm,trivial⟩,by rw [List.length_set]; rfl⟩
           clear hC
           conv=>whnf
           refine ⟨by omega,by omega,?_⟩
           conv=>whnf
           refine ⟨1,c,_,_,hS.top,hgL,?_⟩
           conv=>whnf
           refine semMore (k:=1) (sz:=3) (by_:=24) (c:=It.cells) (h:=some (b1,c1)) (L:=qs) (M:=[⟨kd,false,true⟩]) (es:=es) rfl rfl rfl rfl rfl rfl rfl ⟨by omega,by omega⟩ (fun _=>rfl) rfl rfl hin (.inl rfl) (by rw [List.length_singleton]; omega) (fun h _=>by cases h) (fun b2 c2 hb=>?_) fun b2 c2 hf=>?_
           · cases hb
             have hT2:=hS.top.put hap.symm ((qs++[(⟨kd,false,true⟩:It)]).map It.cells)
             conv=>whnf
             repeat (first
              | (refine And.intro (by (conv=>whnf); rfl) ?_
                 conv=>whnf)
              | (refine And.intro (by (conv=>whnf); exact ⟨by omega,by omega,rfl⟩) ?_
                 conv=>whnf)
              | (refine And.intro (by (conv=>whnf); exact ⟨1,c,_,_,hT2,hgL,rfl⟩) ?_
                 conv=>whnf))
             refine ⟨by omega,by omega,?_⟩
             conv=>whnf
             have HS:=hS.set (L:=⟨qk,qt,qs++[(⟨kd,false,true⟩:It)],some (b1,c1)⟩) hk (putEnt_mem hin) hT2 (hap) fun i hi hne=>⟨(hS.kids _ (List.getElem_mem hi)).put (hoth i hi hne).symm _,hoth i hi hne⟩
             have HR:RuS (LR.ru ⟨qk,qt,qs++[(⟨kd,false,true⟩:It)],some (b1,c1)⟩):=⟨hqs.2.1,by show (qs++[(⟨kd,false,true⟩:It)]).length≤4; simp only [List.length_append,List.length_cons,List.length_nil]; omega,fun x hx=>by
              rcases List.mem_append.1 hx with hx | hx
              · exact hqs.2.2 x hx
              · rw [List.mem_singleton.1 hx]; exact hkl⟩
             refine ⟨1,c,Ls.map LR.cells,_,putEnt b ((Ls.set k (LR.mk qk qt (qs++[(⟨kd,false,true⟩:It)]) (some (b1,c1)))).map LR.cells) _,hT2,hgL,by rw [List.map_set]; rfl,?_⟩
             conv=>whnf
             exact hJ _ _ _ _ HS HR ⟨rfl,rfl,rfl,rfl,trivial⟩
           · have hT2:=hS.top.more [ent b2 c2 3 ((qs++[(⟨kd,false,true⟩:It)]).map It.cells)]
             conv=>whnf
             repeat (first
              | (refine And.intro (by (conv=>whnf); rfl) ?_
                 conv=>whnf)
              | (refine And.intro (by (conv=>whnf); exact ⟨by omega,by omega,rfl⟩) ?_
                 conv=>whnf)
              | (refine And.intro (by (conv=>whnf); exact ⟨1,c,_,_,hT2,hgL,rfl⟩) ?_
                 conv=>whnf))
             refine ⟨by omega,by omega,?_⟩
             conv=>whnf
             have HS:=hS.set (L:=⟨qk,qt,qs++[(⟨kd,false,true⟩:It)],some (b2,c2)⟩) hk (List.mem_append_right _ List.mem_cons_self) hT2 ((hS.top.fresh hf).symm) fun i hi hne=>⟨(hS.kids _ (List.getElem_mem hi)).more _,((hS.kids _ (List.getElem_mem hi)).fresh hf).symm⟩
             have HR:RuS (LR.ru ⟨qk,qt,qs++[(⟨kd,false,true⟩:It)],some (b2,c2)⟩):=⟨hqs.2.1,by show (qs++[(⟨kd,false,true⟩:It)]).length≤4; simp only [List.length_append,List.length_cons,List.length_nil]; omega,fun x hx=>by
              rcases List.mem_append.1 hx with hx | hx
              · exact hqs.2.2 x hx
              · rw [List.mem_singleton.1 hx]; exact hkl⟩
             refine ⟨1,c,Ls.map LR.cells,_,putEnt b ((Ls.set k (LR.mk qk qt (qs++[(⟨kd,false,true⟩:It)]) (some (b2,c2)))).map LR.cells) _,hT2,hgL,by rw [List.map_set]; rfl,?_⟩
             conv=>whnf
             exact hJ _ _ _ _ HS HR ⟨rfl,rfl,rfl,rfl,trivial⟩
         · rw [ltB_f (show (4:Int)≤((qs.length:Nat):Int) by omega)]
           conv=>whnf
           refine box_with hA [(0,.ptr 0 0 0),(2,.ptr 2 0 0),(3,.ptr 3 0 0),(4,.int .i64 m),(5,.int .i64 k),(6,.ptr 5 0 0)] ⟨rfl,rfl,rfl,rfl,rfl,rfl,trivial⟩ fun fr=>?_
           conv=>whnf
           refine ⟨(m - 1).toNat,by omega,some [0,1,2,3],?_⟩
           conv=>whnf
           exact ⟨Ls,es,b,c,p'+1+1+1,m - 1,rfl,by omega,hpos,hS,hSS,by omega,⟨rfl,rfl,rfl,hwm,trivial⟩,rfl⟩
     · rw [eqB_f z3]
       conv=>whnf
       refine box_with hA [(0,.ptr 0 0 0),(2,.ptr 2 0 0),(3,.ptr 3 0 0),(4,.int .i64 m),(5,.int .i64 k),(6,.ptr 5 0 0)] ⟨rfl,rfl,rfl,rfl,rfl,rfl,trivial⟩ fun fr=>?_
       conv=>whnf
       refine ⟨by omega,by omega,?_⟩
       conv=>whnf
       refine ⟨1,c,_,_,hS.top,hgL,?_⟩
       rcases g with _ | ⟨b1,c1⟩
       · obtain rfl:qs=[]:=List.map_eq_nil_iff.1 hin
         conv=>whnf
         rw [ltB_t (by decide)]
         conv=>whnf
         refine draw_with hX [(0,.ptr 0 0 0),(2,.ptr 2 0 0),(3,.ptr 3 0 0),(4,.int .i64 m),(5,.int .i64 k),(6,.ptr 5 0 0)] ⟨rfl,rfl,rfl,rfl,rfl,rfl,trivial⟩ fun C hC fr=>?_
         show drawR _ _ _ _ _ [rdO bs (p'+1+1+1),poolO es,scBox [] .nils,scBox root (.dref b Ls.length c),⟨drows [[112,97,114],[110,111,116,101],[115,101,99]],1,true,false,false,.cell⟩,⟨[[.str kd,.bool false,.bool false]],3,true,true,true,.cell⟩] _ _
         have hJ:∀ fr es2 L' tmp,ScIn (putEnt b ((Ls.set k L').map LR.cells) es2) (some (b,c)) (Ls.set k L')→RuS L'.ru→Holds fr [(0,.ptr 0 0 0),(2,.ptr 2 0 0),(3,.ptr 3 0 0),(4,.int .i64 m)] →
           C fr [rdO bs (p'+1+1+1),poolO (putEnt b ((Ls.set k L').map LR.cells) es2),scBox [] .nils,scBox root (.dref b Ls.length c),⟨drows [[112,97,114],[110,111,116,101],[115,101,99]],1,true,false,false,.cell⟩,⟨[[.str kd,.bool false,.bool false]],3,true,true,true,.cell⟩,⟨tmp,3,true,true,false,.cell⟩]:=by
          intro fr es2 L' tmp HS HR hh
          obtain ⟨fr,rfl⟩:=hh.split
          refine hC _ _ ?_
          clear hC hh
          conv=>whnf
          refine box_with hA [(0,.ptr 0 0 0),(2,.ptr 2 0 0),(3,.ptr 3 0 0),(4,.int .i64 m)] ⟨rfl,rfl,rfl,rfl,trivial⟩ fun fr=>?_
          conv=>whnf
          refine ⟨(m - 1).toNat,by omega,some [0,1,2,3],?_⟩
          conv=>whnf
          exact ⟨Ls.set k L',_,b,c,p'+1+1+1,m - 1,rfl,by omega,by rw [List.length_set]; exact hpos,HS,set_S hSS HR,by omega,⟨rfl,rfl,rfl,hwm,trivial⟩,by rw [List.length_set]; rfl⟩
         clear hC
         conv=>whnf
         refine ⟨by omega,by omega,?_⟩
         conv=>whnf
         refine ⟨1,c,_,_,hS.top,hgL,?_⟩
         conv=>whnf
         refine semMore (k:=1) (sz:=3) (by_:=24) (c:=It.cells) (h:=none) (L:=[]) (M:=[⟨kd,false,false⟩]) (es:=es) rfl rfl rfl rfl rfl rfl rfl ⟨by omega,by omega⟩ (fun _=>rfl) rfl rfl rfl (.inl rfl) (by simp) (fun _ h=>by cases h) (fun b2 c2 hb=>by cases hb) fun b2 c2 hf=>?_
         have hT2:=hS.top.more [ent b2 c2 3 ((([]:List It)++[(⟨kd,false,false⟩:It)]).map It.cells)]
         conv=>whnf
         repeat (first
          | (refine And.intro (by (conv=>whnf); rfl) ?_
             conv=>whnf)
          | (refine And.intro (by (conv=>whnf); exact ⟨by omega,by omega,rfl⟩) ?_
             conv=>whnf)
          | (refine And.intro (by (conv=>whnf); exact ⟨1,c,_,_,hT2,hgL,rfl⟩) ?_
             conv=>whnf))
         refine ⟨by omega,by omega,?_⟩
         conv=>whnf
         have HS:=hS.set (L:=⟨qk,qt,([]:List It)++[(⟨kd,false,false⟩:It)],some (b2,c2)⟩) hk (List.mem_append_right _ List.mem_cons_self) hT2 ((hS.top.fresh hf).symm) fun i hi hne=>⟨(hS.kids _ (List.getElem_mem hi)).more _,((hS.kids _ (List.getElem_mem hi)).fresh hf).symm⟩
         have HR:RuS (LR.ru ⟨qk,qt,([]:List It)++[(⟨kd,false,false⟩:It)],some (b2,c2)⟩):=⟨hqs.2.1,by show (([]:List It)++[(⟨kd,false,false⟩:It)]).length≤4; simp only [List.length_append,List.length_cons,List.length_nil]; omega,fun x hx=>by
          rcases List.mem_append.1 hx with hx | hx
          · exact hqs.2.2 x hx
          · rw [List.mem_singleton.1 hx]; exact hkl⟩
         refine ⟨1,c,Ls.map LR.cells,_,putEnt b ((Ls.set k (LR.mk qk qt (([]:List It)++[(⟨kd,false,false⟩:It)]) (some (b2,c2)))).map LR.cells) _,hT2,hgL,by rw [List.map_set]; rfl,?_⟩
         conv=>whnf
         exact hJ _ _ _ _ HS HR ⟨rfl,rfl,rfl,rfl,trivial⟩
       · conv=>whnf
         by_cases h4:qs.length < 4
         · rw [ltB_t (show ((qs.length:Nat):Int) < 4 by omega)]
           conv=>whnf
           refine draw_with hX [(0,.ptr 0 0 0),(2,.ptr 2 0 0),(3,.ptr 3 0 0),(4,.int .i64 m),(5,.int .i64 k),(6,.ptr 5 0 0)] ⟨rfl,rfl,rfl,rfl,rfl,rfl,trivial⟩ fun C hC fr=>?_
           show drawR _ _ _ _ _ [rdO bs (p'+1+1+1),poolO es,scBox [] .nils,scBox root (.dref b Ls.length c),⟨drows [[112,97,114],[110,111,116,101],[115,101,99]],1,true,false,false,.cell⟩,⟨[[.str kd,.bool false,.bool false]],3,true,true,true,.cell⟩] _ _
           have hJ:∀ fr es2 L' tmp,ScIn (putEnt b ((Ls.set k L').map LR.cells) es2) (some (b,c)) (Ls.set k L')→RuS L'.ru→Holds fr [(0,.ptr 0 0 0),(2,.ptr 2 0 0),(3,.ptr 3 0 0),(4,.int .i64 m)] →
             C fr [rdO bs (p'+1+1+1),poolO (putEnt b ((Ls.set k L').map LR.cells) es2),scBox [] .nils,scBox root (.dref b Ls.length c),⟨drows [[112,97,114],[110,111,116,101],[115,101,99]],1,true,false,false,.cell⟩,⟨[[.str kd,.bool false,.bool false]],3,true,true,true,.cell⟩,⟨tmp,3,true,true,false,.cell⟩]:=by
            intro fr es2 L' tmp HS HR hh
            obtain ⟨fr,rfl⟩:=hh.split
            refine hC _ _ ?_
            clear hC hh
            conv=>whnf
            refine box_with hA [(0,.ptr 0 0 0),(2,.ptr 2 0 0),(3,.ptr 3 0 0),(4,.int .i64 m)] ⟨rfl,rfl,rfl,rfl,trivial⟩ fun fr=>?_
            conv=>whnf
            refine ⟨(m - 1).toNat,by omega,some [0,1,2,3],?_⟩
            conv=>whnf
            exact ⟨Ls.set k L',_,b,c,p'+1+1+1,m - 1,rfl,by omega,by rw [List.length_set]; exact hpos,HS,set_S hSS HR,by omega,⟨rfl,rfl,rfl,hwm,trivial⟩,by rw [List.length_set]; rfl⟩
           clear hC
           conv=>whnf
           refine ⟨by omega,by omega,?_⟩
           conv=>whnf
           refine ⟨1,c,_,_,hS.top,hgL,?_⟩
           conv=>whnf
           refine semMore (k:=1) (sz:=3) (by_:=24) (c:=It.cells) (h:=some (b1,c1)) (L:=qs) (M:=[⟨kd,false,false⟩]) (es:=es) rfl rfl rfl rfl rfl rfl rfl ⟨by omega,by omega⟩ (fun _=>rfl) rfl rfl hin (.inl rfl) (by rw [List.length_singleton]; omega) (fun h _=>by cases h) (fun b2 c2 hb=>?_) fun b2 c2 hf=>?_
           · cases hb
             have hT2:=hS.top.put hap.symm ((qs++[(⟨kd,false,false⟩:It)]).map It.cells)
             conv=>whnf
             repeat (first
              | (refine And.intro (by (conv=>whnf); rfl) ?_
                 conv=>whnf)
              | (refine And.intro (by (conv=>whnf); exact ⟨by omega,by omega,rfl⟩) ?_
                 conv=>whnf)
              | (refine And.intro (by (conv=>whnf); exact ⟨1,c,_,_,hT2,hgL,rfl⟩) ?_
                 conv=>whnf))
             refine ⟨by omega,by omega,?_⟩
             conv=>whnf
             have HS:=hS.set (L:=⟨qk,qt,qs++[(⟨kd,false,false⟩:It)],some (b1,c1)⟩) hk (putEnt_mem hin) hT2 (hap) fun i hi hne=>⟨(hS.kids _ (List.getElem_mem hi)).put (hoth i hi hne).symm _,hoth i hi hne⟩
             have HR:RuS (LR.ru ⟨qk,qt,qs++[(⟨kd,false,false⟩:It)],some (b1,c1)⟩):=⟨hqs.2.1,by show (qs++[(⟨kd,false,false⟩:It)]).length≤4; simp only [List.length_append,List.length_cons,List.length_nil]; omega,fun x hx=>by
              rcases List.mem_append.1 hx with hx | hx
              · exact hqs.2.2 x hx
              · rw [List.mem_singleton.1 hx]; exact hkl⟩
             refine ⟨1,c,Ls.map LR.cells,_,putEnt b ((Ls.set k (LR.mk qk qt (qs++[(⟨kd,false,false⟩:It)]) (some (b1,c1)))).map LR.cells) _,hT2,hgL,by rw [List.map_set]; rfl,?_⟩
             conv=>whnf
             exact hJ _ _ _ _ HS HR ⟨rfl,rfl,rfl,rfl,trivial⟩
           · have hT2:=hS.top.more [ent b2 c2 3 ((qs++[(⟨kd,false,false⟩:It)]).map It.cells)]
             conv=>whnf
             repeat (first
              | (refine And.intro (by (conv=>whnf); rfl) ?_
                 conv=>whnf)
              | (refine And.intro (by (conv=>whnf); exact ⟨by omega,by omega,rfl⟩) ?_
                 conv=>whnf)
              | (refine And.intro (by (conv=>whnf); exact ⟨1,c,_,_,hT2,hgL,rfl⟩) ?_
                 conv=>whnf))
             refine ⟨by omega,by omega,?_⟩
             conv=>whnf
             have HS:=hS.set (L:=⟨qk,qt,qs++[(⟨kd,false,false⟩:It)],some (b2,c2)⟩) hk (List.mem_append_right _ List.mem_cons_self) hT2 ((hS.top.fresh hf).symm) fun i hi hne=>⟨(hS.kids _ (List.getElem_mem hi)).more _,((hS.kids _ (List.getElem_mem hi)).fresh hf).symm⟩
             have HR:RuS (LR.ru ⟨qk,qt,qs++[(⟨kd,false,false⟩:It)],some (b2,c2)⟩):=⟨hqs.2.1,by show (qs++[(⟨kd,false,false⟩:It)]).length≤4; simp only [List.length_append,List.length_cons,List.length_nil]; omega,fun x hx=>by
              rcases List.mem_append.1 hx with hx | hx
              · exact hqs.2.2 x hx
              · rw [List.mem_singleton.1 hx]; exact hkl⟩
             refine ⟨1,c,Ls.map LR.cells,_,putEnt b ((Ls.set k (LR.mk qk qt (qs++[(⟨kd,false,false⟩:It)]) (some (b2,c2)))).map LR.cells) _,hT2,hgL,by rw [List.map_set]; rfl,?_⟩
             conv=>whnf
             exact hJ _ _ _ _ HS HR ⟨rfl,rfl,rfl,rfl,trivial⟩
         · rw [ltB_f (show (4:Int)≤((qs.length:Nat):Int) by omega)]
           conv=>whnf
           refine box_with hA [(0,.ptr 0 0 0),(2,.ptr 2 0 0),(3,.ptr 3 0 0),(4,.int .i64 m),(5,.int .i64 k),(6,.ptr 5 0 0)] ⟨rfl,rfl,rfl,rfl,rfl,rfl,trivial⟩ fun fr=>?_
           conv=>whnf
           refine ⟨(m - 1).toNat,by omega,some [0,1,2,3],?_⟩
           conv=>whnf
           exact ⟨Ls,es,b,c,p'+1+1+1,m - 1,rfl,by omega,hpos,hS,hSS,by omega,⟨rfl,rfl,rfl,hwm,trivial⟩,rfl⟩
 · rw [ltB_f (by omega)]
   conv=>whnf
   refine box_with hA [(2,.ptr 2 0 0),(3,.ptr 3 0 0)] ⟨rfl,rfl,trivial⟩ fun fr=>?_
   conv=>whnf
   refine ⟨[],true,?_⟩
   conv=>whnf
   exact ⟨root,Ls,_,es,p',hS,hSS,by omega,by omega,rfl,rfl⟩
end Go.Cod
set_option linter.all false
namespace Go.Cod
variable [Adr]
open Go Go.Proofs
set_option linter.all false
set_option maxRecDepth 10000
def DrawSF (r:V):Prop:=∃ (s:Sc) (t:T),ScS s∧t.Small∧t.size≤10000∧r=.tup [.agg s.cells,.agg t.cells]
theorem l11SchemaW_v:Pure Tryd.prog 36 [] (·=.agg [.str kDoc,.sl (rws Ru.cells sch11W.rules)]):=l11SchemaW_pure
def SFR (o:Out) (st':St):Prop:=∃ (root:List UInt8) (v:V) (s:Sc) (t:T) (es:List (List V)),s.root=root∧ScS s∧t.Small∧t.size≤10000∧View es v (.sl (rws Ru.cells s.rules))∧v.clean 0=true∧o=.ret (.tup [.agg [.str root,v],.agg t.cells])∧st'=[poolO es]
set_option maxHeartbeats 16000000 in
theorem drawSchemaFits_full (bs:List UInt8) (hb:bs.length≤1048576):Full Tryd.prog noY 10 [.sl (brows bs)] [poolO []] SFR:=by
 have ho:=l1Open_full bs hb
 have hsch:=l11SchemaW_v
 have hS0:=sch11_S
 unfold SFR
 generalize hrows:rws Ru.cells sch11W.rules=rows at *
 refine full_of_draw2 good Tryd.func10 rfl (by kernel_rfl) (by decide) fun A hA X hX=>?_
 conv=>whnf
 refine box_go hA ?_
 conv=>whnf
 refine box_go hA ?_
 conv=>whnf
 refine .inr (.inl ⟨[],false,?_⟩)
 conv=>whnf
 refine ho.mono ?_
 rintro o st' ⟨rfl,bs',hb',rfl⟩
 conv=>whnf
 refine box_go hA ?_
 conv=>whnf
 refine .inl (hsch.mono ?_)
 rintro r rfl
 conv=>whnf
 refine box_with hA [(2,.ptr 1 0 0),(3,.ptr 2 0 0),(4,.ptr 3 0 0),(5,.ptr 4 0 0)] ⟨rfl,rfl,rfl,rfl,trivial⟩ fun fr=>?_
 conv=>whnf
 refine ⟨[3],false,?_⟩
 conv=>whnf
 refine (l11Doc_full bs' hb' 0 (by omega) (by omega)).mono ?_
 rintro o st' ⟨t,p,s1,⟨s2,s5,s6,s7⟩,s3,s4,rfl,rfl⟩
 have hdr:Drawn t:=⟨t,s5,s6,s7,by omega,.inl rfl⟩
 have htr:t.Tried:=⟨s1,drawn_size hdr,drawn_even hdr⟩
 have hts:=drawn_size hdr
 have hpk:=pick_full bs' p 6 hb' (by omega) (by omega)
 have hed:=l11Edits_own bs' hb' t htr (p+1) (by omega) (by omega) 2 (by omega)
 have hany:=l11AnyTree_full bs' hb' (p+1) (by omega) (by omega)
 have hsp:=spoil_full bs' hb' t s1 (p+1) (by omega) (by omega) (by omega)
 have hsc:=l11AnySchema_full bs' hb' (p+1) (by omega) (by omega)
 unfold TreeR1 at hany
 unfold SpoilR at hsp
 unfold AnyR at hsc
 clear hdr htr s2 s3 s4 s5 s6 s7
 rcases t with ⟨ti,tk,tx,tks⟩
 conv=>whnf
 refine box_with hA [(2,.ptr 1 0 0),(3,.ptr 2 0 0),(4,.ptr 3 0 0),(5,.ptr 4 0 0),(6,.ptr 5 0 0)] ⟨rfl,rfl,rfl,rfl,rfl,trivial⟩ fun fr=>?_
 conv=>whnf
 refine ⟨[3],false,?_⟩
 conv=>whnf
 refine hpk.mono ?_
 rintro o st' ⟨z,z0,z1,rfl,rfl⟩
 conv=>whnf
 refine box_with hA [(2,.ptr 1 0 0),(3,.ptr 2 0 0),(4,.ptr 3 0 0),(5,.ptr 4 0 0),(6,.ptr 5 0 0),(13,.int .i64 z)] ⟨rfl,rfl,rfl,rfl,rfl,rfl,trivial⟩ fun fr=>?_
 conv=>whnf
 by_cases z2:z=0
 · rw [eqB_t z2]
   conv=>whnf
   refine box_with hA [(2,.ptr 1 0 0),(3,.ptr 2 0 0),(4,.ptr 3 0 0),(5,.ptr 4 0 0),(6,.ptr 5 0 0)] ⟨rfl,rfl,rfl,rfl,rfl,trivial⟩ fun fr=>?_
   conv=>whnf
   refine ⟨[3,0],true,?_⟩
   conv=>whnf
   refine hsc.mono ?_
   rintro o st' ⟨root,Ls,h,es,p',hS,hSS,_,_,rfl,rfl⟩
   obtain ⟨b,c,rfl⟩:∃ b c,h=some (b,c):=by
    have hpos:=hSS.2.1
    rcases h with _ | ⟨b,c⟩
    · have:Ls=[]:=List.map_eq_nil_iff.1 hS.top
      subst this; simp at hpos
    · exact ⟨b,c,rfl⟩
   conv=>whnf
   refine draw_go hX ?_
   conv=>whnf
   repeat' (first
    | (refine And.intro (by (conv=>whnf); rfl) ?_
       conv=>whnf)
    | (refine And.intro ?_ ?_ <;> (conv=>whnf)))
   all_goals
    refine ⟨[],true,?_⟩
    conv=>whnf
    exact ⟨root,_,⟨root,Ls.map LR.ru⟩,.mk ti tk tx tks,es,rfl,hSS,s1,by omega,hS.view,rfl,rfl,rfl⟩
 rw [eqB_f z2]
 conv=>whnf
 refine box_with hA [(2,.ptr 1 0 0),(3,.ptr 2 0 0),(4,.ptr 3 0 0),(5,.ptr 4 0 0),(6,.ptr 5 0 0),(13,.int .i64 z)] ⟨rfl,rfl,rfl,rfl,rfl,rfl,trivial⟩ fun fr=>?_
 conv=>whnf
 by_cases z3:z=1
 · rw [eqB_t z3]
   conv=>whnf
   refine box_with hA [(2,.ptr 1 0 0),(3,.ptr 2 0 0),(4,.ptr 3 0 0),(5,.ptr 4 0 0),(6,.ptr 5 0 0)] ⟨rfl,rfl,rfl,rfl,rfl,trivial⟩ fun fr=>?_
   conv=>whnf
   refine ⟨[3],false,?_⟩
   conv=>whnf
   refine hany.mono ?_
   rintro o st' ⟨t,p',q1,⟨_,q5,q6,q7⟩,_,_,rfl,rfl⟩
   have hsz:t.size≤60:=drawn_size ⟨t,q5,q6,q7,by omega,.inl rfl⟩
   clear q5 q6 q7
   rcases t with ⟨xi,xk,xx,xks⟩
   conv=>whnf
   refine draw_go hX ?_
   conv=>whnf
   repeat' (first
    | (refine And.intro (by (conv=>whnf); rfl) ?_
       conv=>whnf)
    | (refine And.intro ?_ ?_ <;> (conv=>whnf)))
   all_goals
    refine ⟨[],true,?_⟩
    conv=>whnf
    exact ⟨kDoc,.sl rows,sch11W,.mk xi xk xx xks,[],rfl,hS0,q1,by omega,by rw [hrows]; exact .same _,rfl,rfl,rfl⟩
 rw [eqB_f z3]
 conv=>whnf
 refine box_with hA [(2,.ptr 1 0 0),(3,.ptr 2 0 0),(4,.ptr 3 0 0),(5,.ptr 4 0 0),(6,.ptr 5 0 0),(13,.int .i64 z)] ⟨rfl,rfl,rfl,rfl,rfl,rfl,trivial⟩ fun fr=>?_
 conv=>whnf
 by_cases z4:z=2
 · rw [eqB_t z4]
   conv=>whnf
   refine box_with hA [(2,.ptr 1 0 0),(3,.ptr 2 0 0),(4,.ptr 3 0 0),(5,.ptr 4 0 0),(6,.ptr 5 0 0)] ⟨rfl,rfl,rfl,rfl,rfl,trivial⟩ fun fr=>?_
   conv=>whnf
   refine ⟨[3],false,?_⟩
   conv=>whnf
   refine hed.mono ?_
   rintro o st' ⟨x,p2,⟨x1,x2,_⟩,_,_,rfl,rfl⟩
   rcases x with ⟨xi,xk,xx,_ | ⟨x0,xs⟩⟩
   · conv=>whnf
     refine draw_go hX ?_
     conv=>whnf
     repeat' (first
      | (refine And.intro (by (conv=>whnf); rfl) ?_
         conv=>whnf)
      | (refine And.intro ?_ ?_ <;> (conv=>whnf)))
     all_goals
      refine ⟨[],false,?_⟩
      conv=>whnf
      exact ⟨kDoc,.sl rows,sch11W,.mk xi xk xx [],[],rfl,hS0,x1,by omega,by rw [hrows]; exact .same _,rfl,rfl,rfl⟩
   · conv=>whnf
     refine draw_go hX ?_
     conv=>whnf
     repeat' (first
      | (refine And.intro (by (conv=>whnf); rfl) ?_
         conv=>whnf)
      | (refine And.intro ?_ ?_ <;> (conv=>whnf)))
     all_goals
      refine ⟨[],false,?_⟩
      conv=>whnf
      exact ⟨kDoc,.sl rows,sch11W,.mk xi xk xx (x0::xs),[],rfl,hS0,x1,by omega,by rw [hrows]; exact .same _,rfl,rfl,rfl⟩
 rw [eqB_f z4]
 conv=>whnf
 refine box_with hA [(2,.ptr 1 0 0),(3,.ptr 2 0 0),(4,.ptr 3 0 0),(5,.ptr 4 0 0),(6,.ptr 5 0 0),(13,.int .i64 z)] ⟨rfl,rfl,rfl,rfl,rfl,rfl,trivial⟩ fun fr=>?_
 conv=>whnf
 by_cases z5:z=3
 · rw [eqB_t z5]
   conv=>whnf
   refine box_with hA [(2,.ptr 1 0 0),(3,.ptr 2 0 0),(4,.ptr 3 0 0),(5,.ptr 4 0 0),(6,.ptr 5 0 0)] ⟨rfl,rfl,rfl,rfl,rfl,trivial⟩ fun fr=>?_
   conv=>whnf
   refine ⟨[3],false,?_⟩
   conv=>whnf
   refine hsp.mono ?_
   rintro o st' ⟨x,p2,x1,⟨x2,_⟩,_,_,rfl,rfl⟩
   rcases x with ⟨xi,xk,xx,xks⟩
   conv=>whnf
   refine draw_go hX ?_
   conv=>whnf
   repeat' (first
    | (refine And.intro (by (conv=>whnf); rfl) ?_
       conv=>whnf)
    | (refine And.intro ?_ ?_ <;> (conv=>whnf)))
   all_goals
    refine ⟨[],true,?_⟩
    conv=>whnf
    exact ⟨kDoc,.sl rows,sch11W,.mk xi xk xx xks,[],rfl,hS0,x1,by omega,by rw [hrows]; exact .same _,rfl,rfl,rfl⟩
 rw [eqB_f z5]
 conv=>whnf
 refine draw_go hX ?_
 conv=>whnf
 repeat' (first
  | (refine And.intro (by (conv=>whnf); rfl) ?_
     conv=>whnf)
  | (refine And.intro ?_ ?_ <;> (conv=>whnf)))
 all_goals
  refine ⟨[],true,?_⟩
  conv=>whnf
  exact ⟨kDoc,.sl rows,sch11W,.mk ti tk tx tks,[],rfl,hS0,s1,by omega,by rw [hrows]; exact .same _,rfl,rfl,rfl⟩
theorem drawSchemaFits_pure (bs:List UInt8) (hb:bs.length≤1048576):Pure Tryd.prog 10 [.sl (brows bs)] DrawSF:=by
 refine Full.freeze (Full.start (st0:=[]) (drawSchemaFits_full bs hb)) ?_
 rintro o st' ⟨root,v,s,t,es,h1,h2,h3,h4,h5,h6,rfl,rfl⟩
 subst h1
 refine ⟨_,_,.tup [.agg s.cells,.agg t.cells],rfl,rfl,?_,?_,s,t,h2,h3,h4,rfl⟩
 · refine .tup rfl fun i x y p q=>?_
   match i,p,q with
   | 1,p,q=>cases p; cases q; exact .same _
   | 0,p,q =>
     cases p; cases q
     refine .agg rfl fun i x y p q=>?_
     match i,p,q with
     | 0,p,q=>cases p; cases q; exact .same _
     | 1,p,q=>cases p; cases q; exact h5
 · obtain ⟨ti,tk,tx,tks⟩:=t
   show (V.clean 0 (.agg [.str s.root,v])&&_)=true
   simp only [V.clean,V.clean.cleanL,h6,T.cells,Bool.and_self]
end Go.Cod
set_option linter.all false
namespace Go.Cod
variable [Adr]
open Go Go.Proofs Go.ChangeShapes Go.WideShapes Go.ChangeAt Go.RowKit
set_option maxRecDepth 10000
omit [Adr] in
theorem ownK:ownKnob Tryd.prog.godebug=none:=by kernel_rfl
def byteOf:List V→UInt8
 | [.int _ i]=>UInt8.ofNat i.toNat
 | _=>0
theorem argBytes {H:Type} {enc:TypeId × Value→H} {W:World}:ReadsA enc Tryd.prog W 22 fun x=>∃ bs:List UInt8,x=.sl (brows bs):=by
 intro base v d p hv h
 obtain ⟨x,⟨es,hx,_,hr⟩,hrep⟩:=readsA_slice (S:=fun vs=>∃ es,vs=[.sl es]∧es.length≤maxLen∧∀ r∈es,(∃ i,r=[.int .u8 i]∧IntKind.u8.min≤i∧i≤IntKind.u8.max)∧r.length=Tryd.prog.cellsOf 5∧(∀ v∈r,v.leaf=true)∧V.clean.cleanL 0 r=true)
  Tryd.underlying22 (fun n=>reads_slice Tryd.underlying22 (by decide +kernel) fun m _=>reads_int Tryd.underlying5) base v d p hv h
 cases hx
 refine ⟨_,⟨es.map byteOf,?_⟩,hrep⟩
 congr 1
 rw [brows,List.map_map]
 refine (List.map_id es).symm.trans (List.map_congr_left fun r hr'=>?_)
 obtain ⟨⟨i,rfl,h1,h2⟩,_⟩:=hr r hr'
 have h1:0≤i:=h1
 have h2:i≤255:=h2
 simp only [id_eq,Function.comp,byteOf,cellB]
 congr 2
 simp only [UInt8.toNat_ofNat']
 omega
end Go.Cod
