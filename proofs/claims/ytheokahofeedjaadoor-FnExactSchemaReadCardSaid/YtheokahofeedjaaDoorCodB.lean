import Derived.Lib.ConvBytes
import Derived.Great.BuildSlice
import Derived.Test.YtheokahofeedjaaDoorCodA
namespace Go.Cod
open Go
variable [Lam]
omit [Lam] in
theorem cleanL_iff {n:Nat}:∀ {cs:List V},V.clean.cleanL n cs=true↔∀ x∈cs,x.clean n=true
 | []=>by simp [V.clean.cleanL]
 | x::xs=>by simp [V.clean.cleanL,cleanL_iff (cs:=xs)]
omit [Lam] in
theorem cleanLL_iff {n:Nat}:∀ {cs:List (List V)},V.clean.cleanLL n cs=true↔∀ x∈cs,V.clean.cleanL n x=true
 | []=>by simp [V.clean.cleanLL]
 | x::xs=>by simp [V.clean.cleanLL,cleanLL_iff (cs:=xs)]
theorem aMake_sound {P:Program} {τ:Tau} (hτ:TauOk P τ) {t:TypeId} {n c:V} {st:St} {K:V→St→Prop} {w0 mod γ0 Pr0 nt Pr γ fr a w} (A:AR w0 mod γ0 Pr0 nt Pr γ fr st a w)
  {cn cc:Value} (h:aMake τ t n c st K) (hn:Rep Pr γ w n cn) (hc:Rep Pr γ w c cc) :
  ∃ v cv st' γ' w',K v st'∧Keep Pr Pr γ γ' w w'∧AR w0 mod γ0 Pr0 nt Pr γ' fr st' a w'∧Rep Pr γ' w' v cv∧(Instr.makeSlice t cn cc).run P w=.ok cv w':=by
 unfold aMake at h
 simp only [lenK0] at h
 simp only [Chk_iff,decide_eq_true_eq] at h
 split at h
 · rename_i e k1 n k2 c hk
   have ht:=kind_slice hτ hk
   obtain ⟨h0,h1,h⟩:=h
   split at h
   · rename_i ti hti
     obtain ⟨ie,z,g1,g2,g3,g4,g5⟩:=(hτ _ _ hti).info
     obtain ⟨hb,h63,hpos,hz,hlf,hcl,h⟩:=h
     cases hn; cases hc
     have hb':(ie.bytes:Int)*c≤281474976710656:=by
      rw [g3,Int.mul_comm]
      have:((c.toNat*ti.bytes:Nat):Int)≤281474976710656:=by omega
      rw [Int.natCast_mul,Int.toNat_of_nonneg (by omega)] at this
      exact this
     have run:=run_make (P:=P) w t e ie z ht g1 g4 k1 k2 n c h0 h1 hb' h63
     rw [g2] at run
     have hzr:=(Rep.zero (Pr:=Pr) (γ:=γ) (w:=w) _ z g5).cellsL hlf
     have hzs:=zrep_size g5
     obtain ⟨γ',g,_,e1,e2,e3,_,hk',A',hg⟩:=A.newObj (grew_alloc w (.cells (madeCells z.cells (c.toNat*ti.size)) e)) (newO (List.replicate n.toNat ti.zero.cells) ti.size false) c.toNat ti.size e (madeCells z.cells (c.toNat*ti.size)) (0,0) (by simp [World.alloc,-World.alloc_eq]) (by simp)
      (size_madeCells _ _) (by simp [newO]; omega) (by simp only [maxLen]; omega) rfl (fun e' he'=>by simp [newO] at he'; rw [he'.2,hz]) (fun e' he' x hx=>by simp [newO] at he'; rw [he'.2] at hx; exact List.all_eq_true.1 hlf x hx)
      (fun _=>by rw [cleanLL_iff]; intro x hx; simp [newO] at hx; rw [hx.2]; exact hcl) rfl
      (fun i e' j y a b=>by
        simp [newO,List.getElem?_replicate] at a
        obtain ⟨hi,rfl⟩:=a
        have hj:j < ti.size:=by rw [← hz]; exact (List.getElem?_eq_some_iff.1 b).1
        have hlt:=idx_lt (show i < c.toNat by omega) hj
        have hjz:j < z.cells.size:=by rw [hzs,hz]; exact hj
        refine ⟨z.cells[j],?_,hzr.1.2 j y _ b (by simp [hjz])⟩
        simp only [madeCells,Array.getElem?_map,Array.getElem?_range,hlt,if_true,Option.map_some]
        rw [hzs,hz,Nat.mul_comm,Nat.mul_add_mod,Nat.mod_eq_of_lt hj]
        simp [hjz])
     refine ⟨_,_,_,γ',_,h,hk',A',?_,run⟩
     have:=Rep.own (Pr:=Pr) (w:=w.alloc (.cells (madeCells z.cells (c.toNat*ti.size)) e)) hg
     rw [e1,e2,e3] at this
     simpa [newO] using this
   · exact h.elim
 · exact h.elim
omit [Lam] in
theorem push_foldl (bs:List UInt8):∀ s:ByteArray,(bs.map fun b=>((b.toNat:Nat):Int)).foldl (fun r (n:Int)=>r.push (UInt8.ofNat n.toNat)) s=⟨(s.data.toList++bs).toArray⟩:=by
 induction bs with
 | nil=>intro s; simp
 | cons b bs ih =>
   intro s
   simp only [List.map_cons,List.foldl_cons,ih]
   simp
omit [Lam] in
theorem run_bytesOf {P:Program} {src dst e:TypeId} (hs:P.underlying src=some (.slice e)) (he:P.underlying e=some (.int .u8)) (hd:P.underlying dst=some .string) {w:World} {b off cap:Nat} {bs:List UInt8}
  (h:∀ (j:Nat) c,bs[j]? = some c→w.cell? ⟨b,off+j,none⟩=some (.int .u8 c.toNat)) :
  (convert src dst (.slice (some ⟨b,off,none⟩) bs.length cap)).run P w=.ok (.string ⟨bs.toArray⟩) w:=by
 rw [run_convert_bytes_string w src dst e _ _ _ hs he hd]
 have hl:(loadCells ⟨b,off,none⟩ bs.length).run P w=.ok ((bs.map fun c=>((c.toNat:Nat):Int)).map (Value.int .u8)).toArray w:=by
  have:=run_loadCells_list (P:=P) w ⟨b,off,none⟩ ((bs.map fun c=>((c.toNat:Nat):Int)).map (Value.int .u8)) (fun j v hv=>by
   simp only [List.map_map,List.getElem?_map,Option.map_eq_some_iff] at hv
   obtain ⟨c,hc,rfl⟩:=hv
   rw [addr_add]; exact h j c hc)
  simpa using this
 rw [run_bytesToString w _ _ _ _ hl,push_foldl]
 simp
theorem aConvert_sound {P:Program} {τ:Tau} (hτ:TauOk P τ) {src dst:TypeId} {x:V} {st:St} {K:V→St→Prop} {w0 mod γ0 Pr0 nt Pr γ fr a w} (A:AR w0 mod γ0 Pr0 nt Pr γ fr st a w)
  {cx:Value} (h:aConvert τ src dst x st K) (hx:Rep Pr γ w x cx) :
  ∃ v cv st' γ' w',K v st'∧Keep Pr Pr γ γ' w w'∧AR w0 mod γ0 Pr0 nt Pr γ' fr st' a w'∧Rep Pr γ' w' v cv∧(convert src dst cx).run P w=.ok cv w':=by
 unfold aConvert at h
 simp only [lenK0] at h
 simp only [Chk_iff,decide_eq_true_eq] at h
 split at h
 · rename_i k1 k2 k3 n hs hd
   cases hx
   exact ⟨_,_,st,γ,w,h,Keep.refl _ _ _,A,.int _ _,by simp [convert,run_underlying (kind_int hτ hs),run_underlying (kind_int hτ hd),Conv.intToInt]⟩
 · rename_i s hs hd
   cases hx
   exact ⟨_,_,st,γ,w,h,Keep.refl _ _ _,A,.str _,by simp [convert,run_underlying (kind_str hτ hs),run_underlying (kind_str hτ hd)]⟩
 · rename_i e s hs hd
   obtain ⟨he,_,hlen,h⟩:=h
   cases hx
   have he':=kind_int hτ he
   have run:=Lib.run_convert_string_bytes (P:=P) w src dst e ⟨s.toArray⟩ (kind_str hτ hs) (kind_slice hτ hd) he'
   have hsz:=ba_size s
   have hgc:=grownCap_ge w s.length 0 e
   have hG:Grew w (Lib.bytesWorld w e ⟨s.toArray⟩):=⟨by unfold Lib.bytesWorld World.freeze; split <;> rfl,by unfold Lib.bytesWorld World.freeze; split <;> rfl,by unfold Lib.bytesWorld World.freeze; split <;> rfl,Lib.bytesWorld_size _ _ _,fun b hb=>Lib.bytesWorld_at_old _ _ _ b hb⟩
   have hcs:(Lib.bytesCells w e ⟨s.toArray⟩).size=grownCap w s.length 0 e:=by
    simp [Lib.bytesCells,ba_size]; omega
   obtain ⟨γ',g,_,e1,e2,e3,_,hk',A',hg⟩:=A.newObj hG (newO (s.map fun b=>[cellB b]) 1 false) (grownCap w s.length 0 e) 1 e (Lib.bytesCells w e ⟨s.toArray⟩) _ (Lib.bytesWorld_at_new w e ⟨s.toArray⟩) (fun n hn=>by
     rcases hn with hn | hn
     · simp; omega
     · omega)
    (by rw [hcs,Nat.mul_one]) (by simpa [newO] using hgc) (grownCap_le_maxLen w _ 0 e (by simp only [maxLen]; omega)) rfl (by simp [newO]) (by simp [newO,cellB,V.leaf]) (fun _=>by rw [cleanLL_iff]; intro x hx; simp [newO] at hx; obtain ⟨b,_,rfl⟩:=hx; simp [V.clean.cleanL,cellB,V.clean]) rfl
    (fun i e' j y a b=>by
      simp only [newO,List.getElem?_map,Option.map_eq_some_iff] at a
      obtain ⟨c,hc,rfl⟩:=a
      cases j with
      | succ j=>simp at b
      | zero =>
        simp at b; subst b
        refine ⟨.int .u8 c.toNat,?_,.int _ _⟩
        have hi:i < s.length:=(List.getElem?_eq_some_iff.1 hc).1
        simp only [Nat.mul_one,Nat.add_zero,Lib.bytesCells]
        rw [Array.getElem?_append_left (by simpa using hi)]
        simp [hc])
   refine ⟨_,_,_,γ',_,h,hk',A',?_,run⟩
   have:=Rep.own (Pr:=Pr) (w:=Lib.bytesWorld w e ⟨s.toArray⟩) hg
   rw [e1,e2,e3] at this
   simpa [newO,hsz] using this
 · rename_i e x hs hd
   obtain ⟨he,h⟩:=h
   split at h
   · rename_i es hes
     obtain ⟨bs,rfl,h⟩:=h
     obtain ⟨a',cap,rfl,hcap,hR⟩:=elems_rows A.st hes hx
     refine ⟨_,_,st,γ,w,h,Keep.refl _ _ _,A,.str _,?_⟩
     rw [List.length_map]
     by_cases hz:bs=[]
     · subst hz
       rw [run_convert_bytes_string w src dst _ _ _ _ (kind_slice hτ hs) (kind_int hτ he) (kind_str hτ hd)]
       cases a' with
       | none=>rfl
       | some a' =>
         rw [run_bytesToString w a' _ _ [] (by simp [loadCells,loadCellsFrom])]
         rfl
     · obtain ⟨b,off,c,rfl,R⟩:=hR (by simpa using hz)
       have hc:c=1:=by
        obtain ⟨y,hy⟩:=List.exists_mem_of_ne_nil _ hz
        exact (R.wid [cellB y] (by simp; exact ⟨y,hy,rfl⟩)).symm
       subst hc
       refine run_bytesOf (kind_slice hτ hs) (kind_int hτ he) (kind_str hτ hd) fun j y hy=>?_
       obtain ⟨u,h1,h2⟩:=R.lies j [cellB y] (by simp [hy]) 0 (cellB y) rfl
       cases h2
       simpa using h1
   · exact h.elim
 · exact h.elim
end Go.Cod
namespace Go.Cod
open Go
variable [Lam]
omit [Lam] in
theorem foldSet (off:Nat):∀ (l:List Value) (k:Nat) (cells:Array Value),off+k+l.length≤cells.size →
  ((l.zipIdx k).foldl (fun cs (c,j)=>cs.setIfInBounds (off+j) c) cells).size=cells.size ∧
  ∀ n,((l.zipIdx k).foldl (fun cs (c,j)=>cs.setIfInBounds (off+j) c) cells)[n]? = if off+k≤n∧n < off+k+l.length then l[n - (off+k)]? else cells[n]?
 | [],k,cells,_=>⟨rfl,fun n=>by rw [if_neg (by simp)]; rfl⟩
 | v::l,k,cells,h=>by
   simp only [List.length_cons] at h
   obtain ⟨h1,h2⟩:=foldSet off l (k+1) (cells.setIfInBounds (off+k) v) (by simp; omega)
   simp only [List.zipIdx_cons,List.foldl_cons]
   refine ⟨by rw [h1]; simp,fun n=>?_⟩
   rw [h2 n]
   simp only [List.length_cons]
   by_cases e:off+(k+1)≤n∧n < off+(k+1)+l.length
   · rw [if_pos e,if_pos (by omega),show n - (off+k)=(n - (off+(k+1)))+1 by omega]; rfl
   · rw [if_neg e]
     by_cases e2:n=off+k
     · subst e2; rw [if_pos (by omega)]; simp [show off+k < cells.size by omega]
     · rw [if_neg (by omega)]; simp [Ne.symm e2]
omit [Lam] in
theorem foldSet_arr (off:Nat) (v cells:Array Value) (h:off+v.size≤cells.size) :
  (v.zipIdx.foldl (fun cs (c,j)=>cs.setIfInBounds (off+j) c) cells).size=cells.size ∧
  ∀ n,(v.zipIdx.foldl (fun cs (c,j)=>cs.setIfInBounds (off+j) c) cells)[n]? = if off≤n∧n < off+v.size then v[n - off]? else cells[n]? := by
 have:=foldSet off v.toList 0 cells (by simpa using h)
 rw [← Array.foldl_toList,Array.toList_zipIdx]
 simpa using this
omit [Lam] in
theorem RepL.splice {Pr γ w cs us vs} {v:Array Value} {off:Nat} (h:RepL Pr γ w cs us) (hv:RepL Pr γ w vs v.toList) (hf:off+vs.length≤cs.length) :
  RepL Pr γ w (splice cs off vs) (v.zipIdx.foldl (fun cs (c,j)=>cs.setIfInBounds (off+j) c) us.toArray).toList:=by
 have hvl:vs.length=v.size:=by simpa using hv.1
 obtain ⟨h1,h2⟩:=foldSet_arr off v us.toArray (by rw [← hvl]; simp [← h.1]; exact hf)
 refine ⟨(splice_len _ _ _ hf).trans (h.1.trans (by simpa using h1.symm)),fun i x u a b=>?_⟩
 rw [splice_get _ _ _ _ hf] at a
 rw [Array.getElem?_toList,h2 i] at b
 by_cases e:off≤i∧i < off+vs.length
 · rw [if_pos e] at a
   rw [if_pos (by omega)] at b
   exact hv.2 _ x u a (by rw [Array.getElem?_toList]; exact b)
 · rw [if_neg e] at a
   rw [if_neg (by omega)] at b
   exact h.2 i x u a (by simpa using b)
omit [Lam] in
theorem fill_go {P:Program} {fs:List (Nat × Nat × Bool)} {place:Nat→Option (Nat × Nat)} (hp:∀ (i:Nat) q,fs[i]? = some q→place i=some (q.1,q.2.1)) {Pr γ w} {K:V→Prop} :
  ∀ (parts:List (Nat × V)) (cparts:List (Nat × Value)) (cs:List V) (us:List Value),parts.length=cparts.length →
    (∀ (j:Nat) p q,parts[j]? = some p→cparts[j]? = some q→p.1=q.1∧Rep Pr γ w p.2 q.2)→RepL Pr γ w cs us→aBuild.go fs parts cs K →
    ∃ cs' us',K (.agg cs')∧RepL Pr γ w cs' us'∧Instr.fill place us.toArray cparts=some us'.toArray
 | [],cparts,cs,us,hl,_,hr,h=>by
   cases cparts with
   | nil=>exact ⟨cs,us,h,hr,rfl⟩
   | cons=>simp at hl
 | (i,v)::rest,cparts,cs,us,hl,hq,hr,h=>by
   cases cparts with
   | nil=>simp at hl
   | cons q crest =>
     obtain ⟨i',cv⟩:=q
     obtain ⟨e,hv⟩:=hq 0 (i,v) (i',cv) rfl rfl
     simp only at e hv
     subst e
     simp only [aBuild.go,Chk_iff,decide_eq_true_eq] at h
     split at h
     · rename_i off size b hf
       obtain ⟨h1,h1',h2,h⟩:=h
       have hvc:=(hv.cellsL h1').1
       have hcs:cv.cells.size=size:=by rw [← h1]; simpa using hvc.1.symm
       have hsp:=hr.splice hvc (off:=off) (by rw [h1]; exact h2)
       obtain ⟨cs',us',k1,k2,k3⟩:=fill_go (P:=P) hp rest crest _ _ (by simpa using hl) (fun j p q a b=>hq (j+1) p q (by simpa using a) (by simpa using b)) hsp h
       refine ⟨cs',us',k1,k2,?_⟩
       have hlen:us.length=cs.length:=hr.1.symm
       simp only [Instr.fill,hp i _ hf,hcs,ne_eq,not_true_eq_false,Bool.false_or,decide_false,List.size_toArray]
       rw [if_neg (by simp; omega)]
       simpa using k3
     · exact h.elim
omit [Lam] in
theorem range_some {n i j:Nat} (h:(List.range n)[i]? = some j):i < n∧j=i:=by
 obtain ⟨h1,h2⟩:=List.getElem?_eq_some_iff.1 h
 rw [List.getElem_range] at h2
 exact ⟨by simpa using h1,h2.symm⟩
omit [Lam] in
theorem aBuild_sound {P:Program} {τ:Tau} (hτ:TauOk P τ) {t:TypeId} {parts:List (Nat × V)} {cparts:Array (Nat × Value)} {K:V→Prop} {Pr γ w}
  (h:aBuild τ t parts K) (hl:parts.length=cparts.toList.length) (hq:∀ (j:Nat) p q,parts[j]? = some p→cparts.toList[j]? = some q→p.1=q.1∧Rep Pr γ w p.2 q.2) :
  ∃ v cv,K v∧Rep Pr γ w v cv∧(Instr.build t cparts).run P w=.ok cv w:=by
 unfold aBuild at h
 simp only [Chk_iff,decide_eq_true_eq] at h
 split at h
 · rename_i ti hti
   obtain ⟨hk,hf,h⟩:=h
   split at h
   · rename_i z hz
     have ht:=hτ _ _ hti
     obtain ⟨ie,zv,g1,g2,g3,g4,g5⟩:=ht.info
     cases hp:ti.pair with
     | true =>
       obtain ⟨et,ei,t1,t2,t3,t4⟩:=ht.pair hp
       have ef:ti.flds=[(0,1,false),(1,1,false)]:=by unfold TI.flds; rw [hp]
       rw [ef] at h
       rw [hz] at g5
       have hzr:=Rep.zero (Pr:=Pr) (γ:=γ) (w:=w) _ zv g5
       cases hzr with
       | agg hzl hzh =>
         rename_i us
         obtain ⟨cs',us',k1,k2,k3⟩:=fill_go (P:=P) (place:=fun i=>some (i*1,1)) (fs:=[(0,1,false),(1,1,false)]) (fun i q hq=>by
          match i with
          | 0=>simp at hq; subst hq; rfl
          | 1=>simp at hq; subst hq; rfl
          | i+2=>simp at hq) parts cparts.toList z us hl hq ⟨hzl,hzh⟩ h
         refine ⟨_,.agg us'.toArray,k1,.agg k2.1 k2.2,?_⟩
         have z1:∀ w:World,(Go.sizeOf et).run P w=.ok 1 w:=fun w=>by simp [Go.sizeOf,typeInfo,t2,t3]
         simp only [Instr.build,zeroValue,typeInfo,Sem.run_bind,run_program,Result.andThen_ok,g1,Sem.run_pure,g4,run_underlying t1,z1,Value.cells]
         rw [k3]
         rfl
     | false =>
     cases ha:ti.arr with
     | some n =>
       obtain ⟨et,ei,ik,t1,t2,t3,t4⟩:=ht.arr n ha
       have ef:ti.flds=arrF n:=by unfold TI.flds; rw [hp,ha]
       rw [ef] at h
       rw [hz] at g5
       have hzr:=Rep.zero (Pr:=Pr) (γ:=γ) (w:=w) _ zv g5
       cases hzr with
       | agg hzl hzh =>
         rename_i us
         obtain ⟨cs',us',k1,k2,k3⟩:=fill_go (P:=P) (place:=fun i=>some (i*1,1)) (fs:=arrF n) (fun i q hq=>by
          rw [arrF,List.getElem?_map,Option.map_eq_some_iff] at hq
          obtain ⟨j,hj,rfl⟩:=hq
          obtain ⟨_,rfl⟩:=range_some hj
          rw [Nat.mul_one]) parts cparts.toList z us hl hq ⟨hzl,hzh⟩ h
         refine ⟨_,.agg us'.toArray,k1,.agg k2.1 k2.2,?_⟩
         have z1:∀ w:World,(Go.sizeOf et).run P w=.ok 1 w:=fun w=>by simp [Go.sizeOf,typeInfo,t2,t3]
         simp only [Instr.build,zeroValue,typeInfo,Sem.run_bind,run_program,Result.andThen_ok,g1,Sem.run_pure,g4,run_underlying t1,z1,Value.cells]
         rw [k3]
         rfl
     | none =>
     have ef:ti.flds=ti.fields:=by unfold TI.flds; rw [hp,ha]
     rw [ef] at h hf
     obtain ⟨fs,f1,f2,f3⟩:=ht.fields (by intro e; rw [e] at hf; exact hf rfl)
     rw [hz] at g5
     have hzr:=Rep.zero (Pr:=Pr) (γ:=γ) (w:=w) _ zv g5
     cases hzr with
     | agg hzl hzh =>
       rename_i us
       have hplaces:∀ w:World,(fs.mapM fun f=>do pure (f.offset,← Go.sizeOf f.type):Sem (Array (Nat × Nat))).run P w=.ok (ti.fields.map fun q=>(q.1,q.2.1)).toArray w:=by
        intro w
        have key:∀ (l:List Field) (m:List (Nat × Nat × Bool)),l.length=m.length→(∀ (i:Nat) f,l[i]? = some f→∃ fi:TypeInfo,∃ b:Bool,P.info? f.type=some fi∧m[i]? = some (f.offset,fi.size,b)) →
          (l.mapM fun f=>do pure (f.offset,← Go.sizeOf f.type):Sem (List (Nat × Nat))).run P w=.ok (m.map fun q=>(q.1,q.2.1)) w:=by
         intro l
         induction l with
         | nil=>intro m hm _; cases m with | nil=>rfl | cons=>simp at hm
         | cons f l ih =>
           intro m hm hh
           cases m with
           | nil=>simp at hm
           | cons q m =>
             obtain ⟨fi,b,i1,i2⟩:=hh 0 f rfl
             simp at i2
             have:=ih m (by simpa using hm) (fun i f' hf'=>hh (i+1) f' (by simpa using hf'))
             simp [List.mapM_cons,Go.sizeOf,typeInfo,i1,i2]
             simp [Go.sizeOf,typeInfo] at this
             simp [this]
        have:=key fs.toList ti.fields (by simpa using f2) (fun i f hf=>by
         obtain ⟨fi,b,a1,a2,_⟩:=f3 i f (by simpa using hf)
         exact ⟨fi,b,a1,a2⟩)
        rw [← Array.toArray_toList (xs:=fs),List.mapM_toArray,Sem.run_map,this]
        rfl
       obtain ⟨cs',us',k1,k2,k3⟩:=fill_go (P:=P) (place:=fun i=>((ti.fields.map fun q=>(q.1,q.2.1)).toArray)[i]?) (fs:=ti.fields) (fun i q hq=>by simp [hq]) parts cparts.toList z us hl hq ⟨hzl,hzh⟩ h
       refine ⟨_,.agg us'.toArray,k1,.agg k2.1 k2.2,?_⟩
       simp only [Instr.build,zeroValue,typeInfo,Sem.run_bind,run_program,Result.andThen_ok,g1,Sem.run_pure,g4,run_underlying f1,hplaces,Value.cells]
       rw [k3]
       rfl
   · exact h.elim
 · exact h.elim
end Go.Cod
namespace Go.Cod
open Go
variable [Lam]
omit [Lam] in
theorem fill_rows (size:Nat):∀ (cp:List (Nat × Value)) (k:Nat) (cells:Array Value),cp.map (·.1)=List.range' k cp.length→(∀ q∈cp,q.2.cells.size=size)→(k+cp.length)*size≤cells.size →
  ∃ cells',Instr.fill (fun i=>some (i*size,size)) cells cp=some cells'∧cells'.size=cells.size∧(∀ n,n < k*size→cells'[n]? = cells[n]?) ∧
    ∀ (i:Nat) q (j:Nat),cp[i]? = some q→j < size→cells'[(k+i)*size+j]? = q.2.cells[j]?
 | [],k,cells,_,_,_=>⟨cells,rfl,rfl,fun _ _=>rfl,fun i q j h=>by simp at h⟩
 | (i0,v)::cp,k,cells,hr,hs,hl=>by
   simp only [List.map_cons,List.length_cons,List.range'_succ,List.cons.injEq] at hr
   obtain ⟨rfl,hr⟩:=hr
   have hv:v.cells.size=size:=hs (i0,v) (by simp)
   simp only [List.length_cons] at hl
   have hle:(i0+1)*size≤(i0+(cp.length+1))*size:=Nat.mul_le_mul_right _ (by omega)
   rw [Nat.add_mul,Nat.one_mul] at hle
   obtain ⟨f1,f2⟩:=foldSet_arr (i0*size) v.cells cells (by rw [hv]; omega)
   obtain ⟨c',g1,g2,g3,g4⟩:=fill_rows size cp (i0+1) _ hr (fun q hq=>hs q (by simp [hq])) (by rw [f1]; have:i0+1+cp.length=i0+(cp.length+1):=by omega
                                                                                              rw [this]; exact hl)
   refine ⟨c',?_,by rw [g2,f1],fun n hn=>?_,fun i q j hi hj=>?_⟩
   · simp only [Instr.fill,hv,ne_eq,not_true_eq_false,decide_false,Bool.false_or]
     rw [if_neg (by simp; omega)]
     exact g1
   · rw [g3 n (by rw [Nat.add_mul]; omega),f2 n,if_neg (by omega)]
   · cases i with
     | zero =>
       simp at hi; subst hi
       rw [Nat.add_zero,g3 _ (by rw [Nat.add_mul,Nat.one_mul]; omega),f2,if_pos (by rw [hv]; omega)]
       congr 1; omega
     | succ i =>
       simp at hi
       rw [show i0+(i+1)=i0+1+i by omega]
       exact g4 i q j hi hj
theorem AR.garbage {w0 mod γ0 Pr0 nt Pr γ fr st a w w'} (A:AR w0 mod γ0 Pr0 nt Pr γ fr st a w) (hw:Grew w w'):Keep Pr Pr γ γ w w'∧AR w0 mod γ0 Pr0 nt Pr γ fr st a w':=by
 have hk:Keep Pr Pr γ γ w w':=⟨fun _ _ h=>h,fun b n h=>cell_of_block (hw.old b (A.st.low b n h)) n,fun _ _ h=>h⟩
 have B:=A.base
 refine ⟨hk,A.mine,A.fr.keep hk,A.st.still ⟨hk,fun k o' g' h1 h2 h3 _=>hw.old _ ((A.st.obj k o' g' h1 h2 h3).lt),fun _ _ _ _ _ _ _ _ h=>h⟩ (fun b n h=>by rw [hw.size]; exact Nat.lt_succ_of_lt (A.st.low b n h)),
  ⟨hw.os.trans B.os,hw.tape.trans B.tape,hw.output.trans B.output,by rw [hw.size]; have:=B.size; omega,fun b hb hv=>by rw [hw.old b (Nat.lt_of_lt_of_le hb B.size)]; exact B.old b hb hv,B.sub,B.new,B.names⟩⟩
omit [Lam] in
theorem shareOwn_leaf (st:St) (k:Nat):(shareOwn st k).leaf=true:=by
 unfold shareOwn; cases liveEs st k <;> rfl
omit [Lam] in
theorem shareX_leaf (st:St) (x:V):(shareX st x).leaf=x.leaf:=by
 cases x <;> first | rfl | exact shareOwn_leaf _ _
omit [Lam] in
theorem shareC_eq (st:St):∀ cs:List V,shareC st cs=cs.map (shareX st)
 | []=>rfl
 | x::xs=>by simp [shareC,shareC_eq st xs]
omit [Lam] in
theorem shareC_length (st:St) (cs:List V):(shareC st cs).length=cs.length:=by rw [shareC_eq,List.length_map]
omit [Lam] in
theorem shareC_leaf (st:St) (cs:List V) (h:cs.all V.leaf=true):(shareC st cs).all V.leaf=true:=by
 rw [shareC_eq,List.all_map,List.all_eq_true]
 intro x hx
 exact (shareX_leaf st x).trans (List.all_eq_true.1 h x hx)
omit [Lam] in
theorem owns_cells (x:V):owns.go x.cells=owns x:=by
 cases x <;> simp [V.cells,owns.go,owns]
omit [Lam] in
theorem owns_mem {x:V}:∀ {vs:List V},x∈vs→∀ k∈owns x,k∈owns.go vs
 | y::ys,h,k,hk=>by
   simp only [owns.go,List.mem_append]
   rcases List.mem_cons.1 h with rfl | h
   · exact .inl hk
   · exact .inr (owns_mem h k hk)
omit [Lam] in
theorem shareX_rep {Pr Pr':Nat→Nat→Prop} {γ:List G} {w:World} {st:St} (K:Keep Pr Pr' γ γ w w) (x:V) (cv:Value) (hk:∀ k∈owns x,∀ es cv,liveEs st k=some es→Rep Pr γ w (.own k) cv→Rep Pr' γ w (.sl es) cv)
  (h:Rep Pr γ w x cv):Rep Pr' γ w (shareX st x) cv:=by
 cases x
 case nils=>exact h.keep K
 all_goals exact share_rep K _ cv hk h
omit [Lam] in
theorem shareC_rep {Pr Pr':Nat→Nat→Prop} {γ:List G} {w:World} {st:St} (K:Keep Pr Pr' γ γ w w) (cs:List V) (us:List Value) (hk:∀ k∈owns.go cs,∀ es cv,liveEs st k=some es→Rep Pr γ w (.own k) cv→Rep Pr' γ w (.sl es) cv)
  (h:RepL Pr γ w cs us):RepL Pr' γ w (shareC st cs) us:=by
 refine ⟨(shareC_length st cs).trans h.1,fun i y u a b=>?_⟩
 rw [shareC_eq,List.getElem?_map,Option.map_eq_some_iff] at a
 obtain ⟨x,hx,rfl⟩:=a
 exact shareX_rep K x u (fun k hm=>hk k (owns_mem (List.mem_of_getElem? hx) k hm)) (h.2 i x u hx b)
theorem aBuildSlice_sound {P:Program} {τ:Tau} (hτ:TauOk P τ) {t:TypeId} {len:Nat} {parts:List (Nat × V)} {cparts:Array (Nat × Value)} {st:St} {K:V→St→Prop} {w0 mod γ0 Pr0 nt Pr γ fr a w} (A:AR w0 mod γ0 Pr0 nt Pr γ fr st a w)
  (h:aBuildSlice τ t len parts st K) (hl:parts.length=cparts.toList.length) (hq:∀ (j:Nat) p q,parts[j]? = some p→cparts.toList[j]? = some q→p.1=q.1∧Rep Pr γ w p.2 q.2) :
  ∃ v cv st' Pr' γ' w',K v st'∧Keep Pr Pr' γ γ' w w'∧AR w0 mod γ0 Pr0 nt Pr' γ' fr st' a w'∧Rep Pr' γ' w' v cv∧(Instr.buildSlice t len cparts).run P w=.ok cv w':=by
 unfold aBuildSlice at h
 simp only [lenK0] at h
 simp only [Chk_iff,decide_eq_true_eq] at h
 split at h
 · rename_i e hk
   have ht:=kind_slice hτ hk
   split at h
   · rename_i ti hti
     obtain ⟨ie,z,g1,g2,g3,g4,g5⟩:=(hτ _ _ hti).info
     obtain ⟨hr,hsm,hpt0,hpos,hz,h⟩:=h
     have hpt:∀ p∈parts,p.2.cells.length=ti.size∧p.2.cells.all V.leaf=true:=fun p hp=>of_decide_eq_true (List.all_eq_true.1 hpt0 p hp)
     have hlen:parts.length=len:=by have:=congrArg List.length hr; simpa using this
     by_cases h0:len=0
     · rw [if_pos h0] at h
       subst h0
       have hc0:cparts.toList=[]:=List.length_eq_zero_iff.1 (by omega)
       have hc0':cparts=#[]:=Array.toList_inj.1 (by simpa using hc0)
       subst hc0'
       obtain ⟨hk',A'⟩:=A.garbage (grew_alloc w (.cells #[] e))
       refine ⟨_,.slice (some ⟨w.heap.size,0,none⟩) 0 0,st,Pr,γ,_,h,hk',A',.nils _,?_⟩
       simp [Instr.buildSlice,run_underlying ht,Go.sizeOf,typeInfo,g1,Instr.fill,newRow]
       rw [show (Array.range 0)=#[] from rfl,Array.map_empty]
     · rw [if_neg h0] at h
       obtain ⟨hcl,h⟩:=h
       obtain ⟨Pr',K1,A1,R⟩:=AR.lend (owns.go (parts.map (·.2))) A
       have hcp:cparts.toList.map (·.1)=List.range' 0 cparts.toList.length:=by
        rw [← List.range_eq_range',← hl,hlen,← hr]
        apply List.ext_getElem?
        intro i
        simp only [List.getElem?_map]
        by_cases hi:i < parts.length
        · have:=hq i parts[i] cparts.toList[i] (by simp [hi]) (by rw [List.getElem?_eq_getElem])
          rw [List.getElem?_eq_getElem hi,List.getElem?_eq_getElem (by omega)]
          simp [this.1]
        · rw [List.getElem?_eq_none (by omega),List.getElem?_eq_none (by omega)]
          rfl
       have hcell:∀ (i:Nat) p q,parts[i]? = some p→cparts.toList[i]? = some q→RepL Pr' γ w (shareC st p.2.cells) q.2.cells.toList∧q.2.cells.size=ti.size:=by
        intro i p q hp hq'
        obtain ⟨e1,e2⟩:=hq i p q hp hq'
        have hpm:=List.mem_of_getElem? hp
        have hcl':=(e2.cellsL (hpt p hpm).2).1
        refine ⟨shareC_rep K1 _ _ (fun k hk=>R k (owns_mem (List.mem_map.2 ⟨p,hpm,rfl⟩) k (by rw [← owns_cells]; exact hk))) hcl',?_⟩
        rw [← (hpt p hpm).1]; simpa using hcl'.1.symm
       have hzs:z.cells.size=ti.size:=by rw [zrep_size g5,hz]
       obtain ⟨cells',k1,k2,_,k4⟩:=fill_rows ti.size cparts.toList 0 ((Array.range (len*ti.size)).map (z.cells[· % z.cells.size]!)) hcp (fun q hq'=>by
         obtain ⟨i,hi⟩:=List.getElem?_of_mem hq'
         have hip:i < parts.length:=by rw [hl]; exact (List.getElem?_eq_some_iff.1 hi).1
         exact (hcell i parts[i] q (by simp [hip]) hi).2) (by simp [← hl,hlen])
       have run:=run_buildSlice (P:=P) w t e len cparts cells' ie z ht g1 g4 (by rw [g2]; omega) (by rw [g2]; exact Nat.pos_iff_ne_zero.1 (Nat.mul_pos (by omega) hpos)) (by rw [g2]; exact k1)
       have hL:(lend st (owns.go (parts.map (·.2)))).length=st.length:=by
        rw [← A1.st.len,A.st.len]
       obtain ⟨γ',g,_,e1,e2,e3,_,hk',A',hg⟩:=A1.newObj (grew_alloc w (.cells cells' e)) (newO (parts.map fun p:Nat × V=>shareC st p.2.cells) ti.size false) len ti.size e cells' (0,0) (by simp [World.alloc,-World.alloc_eq]) (by simp)
        (by rw [k2]; simp) (by simp [newO,hlen]) (by
          simp only [maxLen]
          have:len≤len*ti.size:=Nat.le_mul_of_pos_right _ hpos
          omega) rfl (fun e' he'=>by simp only [newO,List.mem_map] at he'; obtain ⟨p,hp,rfl⟩:=he'; rw [shareC_length]; exact (hpt p hp).1)
        (fun e' he' x hx=>by
          simp only [newO,List.mem_map] at he'; obtain ⟨p,hp,rfl⟩:=he'
          exact List.all_eq_true.1 (shareC_leaf st _ (hpt p hp).2) x hx)
        (fun _=>hcl) rfl
        (fun i e' j y a b=>by
          simp only [newO,List.getElem?_map,Option.map_eq_some_iff] at a
          obtain ⟨p,hp,rfl⟩:=a
          have hi:i < cparts.toList.length:=by rw [← hl]; exact (List.getElem?_eq_some_iff.1 hp).1
          obtain ⟨c1,c2⟩:=hcell i p cparts.toList[i] hp (by rw [List.getElem?_eq_getElem])
          have hj:j < ti.size:=by rw [← c2,← Array.length_toList,← c1.1]; exact (List.getElem?_eq_some_iff.1 b).1
          have hkk:=k4 i cparts.toList[i] j (by rw [List.getElem?_eq_getElem]) hj
          rw [Nat.zero_add] at hkk
          have hjc:j < cparts.toList[i].2.cells.toList.length:=by rw [Array.length_toList,c2]; exact hj
          refine ⟨cparts.toList[i].2.cells.toList[j],?_,c1.2 j y _ b (by rw [List.getElem?_eq_getElem])⟩
          rw [hkk,← Array.getElem?_toList,List.getElem?_eq_getElem hjc])
       rw [hL] at hg
       refine ⟨_,_,_,Pr',γ',_,h,K1.trans hk',A',?_,run⟩
       have:=Rep.own (Pr:=Pr') (w:=w.alloc (.cells cells' e)) hg
       rw [e1,e2,e3] at this
       simpa [newO,hlen] using this
   · exact h.elim
 · exact h.elim
end Go.Cod
namespace Go.Cod
open Go
variable [Lam]
def liveMod (st:St) (γ:List G) (b:Nat):Prop:=∃ (k:Nat) (o:O) (g:G),st[k]? = some o∧γ[k]? = some g∧o.live=true∧g.blk=b
structure XSame (st st':St):Prop where
 to:∀ (k:Nat) (o:O),st[k]? = some o→o.kind≠.cell→st'[k]? = some o
 of:∀ (k:Nat) (o:O),st'[k]? = some o→o.kind≠.cell→st[k]? = some o
omit [Lam] in
theorem XSame.refl (st:St):XSame st st:=⟨fun _ _ h _=>h,fun _ _ h _=>h⟩
omit [Lam] in
theorem XSame.trans {a b c:St} (h:XSame a b) (k:XSame b c):XSame a c:=⟨fun i o x y=>k.to i o (h.to i o x y) y,fun i o x y=>h.of i o (k.of i o x y) y⟩
omit [Lam] in
theorem XSame.push (st:St) {o:O} (ho:o.kind=.cell):XSame st (st++[o]):=by
 refine ⟨fun k p h _=>?_,fun k p h hp=>?_⟩
 · rw [List.getElem?_append_left (List.getElem?_eq_some_iff.1 h).1]; exact h
 · by_cases hk:k < st.length
   · rw [List.getElem?_append_left hk] at h; exact h
   · have:k=st.length:=by
      have:=(List.getElem?_eq_some_iff.1 h).1
      simp at this; omega
     subst this
     simp at h; subst h; exact absurd ho hp
omit [Lam] in
theorem XSame.set {st:St} {k:Nat} {o o':O} (hk:st[k]? = some o) (h:o.kind=.cell) (h':o'.kind=.cell):XSame st (st.set k o'):=by
 refine ⟨fun j p hj hp=>?_,fun j p hj hp=>?_⟩
 · rw [List.getElem?_set]
   by_cases e:k=j
   · subst e; rw [hk] at hj; cases hj; exact absurd h hp
   · rw [if_neg e]; exact hj
 · rw [List.getElem?_set] at hj
   by_cases e:k=j
   · subst e
     have:=(List.getElem?_eq_some_iff.1 hk).1
     simp [this] at hj; subst hj; exact absurd h' hp
   · rw [if_neg e] at hj; exact hj
theorem live_kind {Pr γ w st} (S:StOk Pr γ w st) {k:Nat} {o:O} (hk:st[k]? = some o) (hl:o.live=true):o.kind=.cell:=by
 obtain ⟨g,hg⟩:=S.at hk
 exact (S.obj k o g hk hg hl).kd
theorem XSame.lend1 {Pr γ w st} (S:StOk Pr γ w st) (k:Nat):XSame st (lend1 st k):=by
 unfold Cod.lend1
 split
 · rename_i o ho
   split
   · rename_i hc
     simp at hc
     have:=live_kind S ho hc.1
     exact .set ho this this
   · exact .refl _
 · exact .refl _
theorem live_heap {Pr γ w st} (S:StOk Pr γ w st) {b:Nat} (h:liveMod st γ b):∃ cur ty f,w.heap[b]? = some (.cells cur ty f):=by
 obtain ⟨k,o,g,h1,h2,h3,rfl⟩:=h
 obtain ⟨cur,f,h4,_⟩:=(S.obj k o g h1 h2 h3).row
 exact ⟨cur,_,f,h4.1⟩
omit [Lam] in
theorem EntOk.lab {Pr w e} (h:EntOk Pr w e):(∃ cur ty f,w.heap[labOf e]? = some (.cells cur ty f))∧∀ n,¬ Pr (labOf e) n:=by
 obtain ⟨b,cap,sz,rows,ty,rfl,hO⟩:=h
 obtain ⟨cur,f,h1,_⟩:=hO.row
 exact ⟨⟨cur,_,f,h1.1⟩,hO.excl rfl⟩
omit [Lam] in
theorem Pools.cells {lo mod C Pr γ st w} (H:Pools lo mod C Pr γ st w) {b:Nat} (h:Lab st b):∃ cur ty f,w.heap[b]? = some (.cells cur ty f):=by
 obtain ⟨k,o,e,h1,h2,h3,rfl⟩:=h
 exact (H.ent k o h1 h2 e h3).lab.1
omit [Lam] in
theorem Pools.lt {lo mod C Pr γ st w} (H:Pools lo mod C Pr γ st w) {b:Nat} (h:Lab st b):b < w.heap.size:=by
 obtain ⟨cur,ty,f,h1⟩:=H.cells h
 exact (Array.getElem?_eq_some_iff.1 h1).1
omit [Lam] in
theorem Pools.unp {lo mod C Pr γ st w} (H:Pools lo mod C Pr γ st w) {b n:Nat} (h:Lab st b):¬ Pr b n:=by
 obtain ⟨k,o,e,h1,h2,h3,rfl⟩:=h
 exact (H.ent k o h1 h2 e h3).lab.2 n
omit [Lam] in
theorem Pools.at {lo mod C Pr γ st w} (H:Pools lo mod C Pr γ st w) {b:Nat} (h:Lab st b):¬ C b∧(lo≤b∨mod b):=by
 obtain ⟨k,o,e,h1,h2,h3,rfl⟩:=h
 exact H.free k o e h1 h2 h3
omit [Lam] in
theorem Pools.notLive {lo mod C Pr γ st w} (H:Pools lo mod C Pr γ st w) {b:Nat} (h:Lab st b):¬ liveMod st γ b:=by
 rintro ⟨k',o',g',a1,a2,a3,rfl⟩
 obtain ⟨k,o,e,h1,h2,h3,h4⟩:=h
 exact H.sep k k' o o' g' e h1 h2 h3 a1 a2 a3 h4.symm
omit [Lam] in
theorem EntOk.move {Pr Pr' w w' e} (h:EntOk Pr w e) (hb:w'.heap[labOf e]? = w.heap[labOf e]?) (hs:∀ b n,Pr b n→Pr' b n) (hc:∀ b n,Pr b n→w'.cell? ⟨b,n,none⟩=w.cell? ⟨b,n,none⟩) (hu:∀ n,¬ Pr' (labOf e) n):EntOk Pr' w' e:=by
 obtain ⟨b,cap,sz,rows,ty,rfl,hO⟩:=h
 have K:Keep Pr Pr' ([]:List G) [] w w':=⟨hs,hc,fun _ _ h=>h⟩
 refine ⟨b,cap,sz,rows,ty,rfl,⟨hO.len,hO.wid,hO.le,hO.max,hO.sz,hO.lf,?_,fun n _=>hu n,fun _=>hu,hO.cl,hO.kd⟩⟩
 obtain ⟨cur,f,h1,h2,h3⟩:=hO.row
 refine ⟨cur,f,⟨hb.trans h1.1,h1.2⟩,h2,fun i e j x p q=>?_⟩
 obtain ⟨u,hu,hr⟩:=h3 i e j x p q
 exact ⟨u,hu,hr.keep K⟩
omit [Lam] in
theorem Pools.move {lo lo' mod mod' C C' Pr Pr' γ γ' st st' w w'} (H:Pools lo mod C Pr γ st w) (f:Nat→Nat) (hf:∀ (k:Nat) (o:O),st'[k]? = some o→o.kind=.pool→st[f k]? = some o)
  (hinj:∀ (k k':Nat) (o o':O),st'[k]? = some o→st'[k']? = some o'→o.kind=.pool→o'.kind=.pool→f k=f k'→k=k')
  (hb:∀ b,Lab st b→w'.heap[b]? = w.heap[b]?) (hs:∀ b n,Pr b n→Pr' b n) (hc:∀ b n,Pr b n→w'.cell? ⟨b,n,none⟩=w.cell? ⟨b,n,none⟩) (hu:∀ b n,Lab st b→¬ Pr' b n)
  (hC:∀ b,Lab st b→¬ C' b) (hm:∀ b,Lab st b→lo'≤b∨mod' b) (hl:∀ (k:Nat) (o:O) (g:G),st'[k]? = some o→γ'[k]? = some g→o.live=true→¬ Lab st g.blk):Pools lo' mod' C' Pr' γ' st' w':=by
 have lab:∀ {k:Nat} {o:O} {e:List V},st'[k]? = some o→o.kind=.pool→e∈o.es→Lab st (labOf e):=fun h1 h2 h3=>⟨_,_,_,hf _ _ h1 h2,h2,h3,rfl⟩
 refine ⟨fun k o h1 h2 e h3=>?_,fun k o e h1 h2 h3=>⟨hC _ (lab h1 h2 h3),hm _ (lab h1 h2 h3)⟩,fun k k' o o' i i' e e' h1 h2 h3 h4 h5 h6 h7=>?_,fun k k' o o' g' e h1 h2 h3 h4 h5 h6 h7=>?_,fun k o h1 h2=>H.bx _ o (hf k o h1 h2) h2⟩
 · exact (H.ent _ o (hf k o h1 h2) h2 e h3).move (hb _ (lab h1 h2 h3)) hs hc fun n=>hu _ n (lab h1 h2 h3)
 · obtain ⟨a,b⟩:=H.one _ _ o o' i i' e e' (hf k o h1 h3) (hf k' o' h2 h4) h3 h4 h5 h6 h7
   exact ⟨hinj k k' o o' h1 h2 h3 h4 a,b⟩
 · exact hl k' o' g' h4 h5 h6 (h7 ▸ lab h1 h2 h3)
omit [Lam] in
theorem Pools.none {lo mod C Pr γ st w} (h:∀ (k:Nat) (o:O),st[k]? = some o→o.kind≠.pool):Pools lo mod C Pr γ st w :=
 ⟨fun k o h1 h2=>absurd h2 (h k o h1),fun k o _ h1 h2=>absurd h2 (h k o h1),fun k _ o _ _ _ _ _ h1 _ h3=>absurd h3 (h k o h1),fun k _ o _ _ _ h1 h2=>absurd h2 (h k o h1),fun k o h1 h2=>absurd h2 (h k o h1)⟩
variable {P:Program} {ok:OkY} {E:Env P ok} {w0:World} {mod:Nat→Prop} {γ0:List G} {Pr0:Nat→Nat→Prop} {C0:Nat→Prop} {nt:Nat} {ρ:Option Nat}
 {Pr Pr':Nat→Nat→Prop} {γ γ':List G} {C:Nat→Prop} {fr fr':Nat→V} {st st':St} {a a':Act} {w w':World}
theorem X.core (H:X P ok E w0 mod γ0 Pr0 C0 nt ρ Pr γ C fr st a w):AR w (liveMod st γ) γ Pr nt Pr γ fr st a w where
 mine:=fun k o g h1 h2 h3=>.inr ⟨k,o,g,h1,h2,h3,rfl⟩
 fr:=H.fr
 st:=H.st
 base:=⟨rfl,rfl,rfl,Nat.le_refl _,fun _ _ _=>rfl,fun _ _ h=>h,fun _ _ h=>.inl h,fun _ _ h=>h⟩
omit [Lam] in
theorem MEnts.keep {es ents} (K:Keep Pr Pr' γ γ' w w') (h:MEnts Pr γ w es ents):MEnts Pr' γ' w' es ents :=
 ⟨h.1,fun i e m x y=>by obtain ⟨kx,vx,e1,e2,e3⟩:=h.2 i e m x y; exact ⟨kx,vx,e1,e2.keep K,e3.keep K⟩⟩
omit [Lam] in
theorem MapOk.keep {o g} (K:Keep Pr Pr' γ γ' w w') (hb:w'.heap[g.blk]? = w.heap[g.blk]?) (h:MapOk Pr γ w o g):MapOk Pr' γ' w' o g :=
 ⟨h.cl,h.ky,h.bx,by obtain ⟨ents,clock,h1,h2,h3⟩:=h.ex; exact ⟨ents,clock,by rw [hb]; exact h1,h2.keep K,h3⟩⟩
omit [Lam] in
theorem Ext.frame {ds:List Deferred} {L:Nat→Prop} (H:Ext P ok E w0 mod C ρ Pr γ st ds w) (K:Keep Pr Pr' γ γ' w w') (S:XSame st st')
  (hos:w'.os=w.os) (htape:w'.tape=w.tape) (hout:w'.output=w.output) (hsz:w.heap.size≤w'.heap.size) (hold:∀ b,b < w.heap.size→¬ L b→w'.heap[b]? = w.heap[b]?)
  (hL:∀ b,L b→(∃ cur ty f,w.heap[b]? = some (.cells cur ty f))∧¬ C b∧¬ Lab st b) (hnew:∀ b n,Pr' b n→Pr b n∨w.heap.size≤b∨L b)
  (hlive:∀ (k:Nat) (o:O) g,st'[k]? = some o→γ'[k]? = some g→o.live=true→w.heap.size≤g.blk∨L g.blk) (hγ:∀ (k:Nat) (o:O),st[k]? = some o→∃ g,γ[k]? = some g) :
  Ext P ok E w0 mod C ρ Pr' γ' st' ds w':=by
 have nm:∀ {k:Nat} {o:O} {g:G},st'[k]? = some o→γ'[k]? = some g→o.kind≠.cell→st[k]? = some o∧γ[k]? = some g:=by
  intro k o g h1 h2 h3
  have h4:=S.of k o h1 h3
  obtain ⟨g',h5⟩:=hγ k o h4
  have h6:=K.names k g' h5
  rw [h2] at h6; cases h6
  exact ⟨h4,h5⟩
 have mk:∀ {k:Nat} {o:O} {g:G},st'[k]? = some o→γ'[k]? = some g→o.kind=.map→st[k]? = some o∧γ[k]? = some g∧w'.heap[g.blk]? = w.heap[g.blk]? := by
  intro k o g h1 h2 h3
  obtain ⟨h4,h5⟩:=nm h1 h2 (by rw [h3]; simp)
  refine ⟨h4,h5,?_⟩
  obtain ⟨ents,clock,h6,_⟩:=(H.maps k o g h4 h5 h3).ex
  refine hold _ (Array.getElem?_eq_some_iff.1 h6).1 fun hl=>?_
  obtain ⟨cur,ty,f,h7⟩:=(hL _ hl).1
  rw [h6] at h7; cases h7
 constructor
 · exact fun b h=>Nat.lt_of_lt_of_le (H.clow b h) hsz
 · intro k o g h1 h2 h3 hc
   simp only [O.own,Bool.or_eq_true,decide_eq_true_eq] at h3
   rcases h3 with h3 | h3
   · rcases hlive k o g h1 h2 h3 with h4 | h4
     · have:=H.clow _ hc; omega
     · exact (hL _ h4).2.1 hc
   · obtain ⟨h4,h5,_⟩:=mk h1 h2 h3
     exact H.apart k o g h4 h5 (by simp [O.own,h3]) hc
 · intro b n h
   rcases hnew b n h with h | h | h
   · exact H.prC b n h
   · right; intro hc; have:=H.clow _ hc; omega
   · exact .inr (hL _ h).2.1
 · intro k o g h1 h2 h3
   obtain ⟨h4,h5,h6⟩:=mk h1 h2 h3
   exact (H.maps k o g h4 h5 h3).keep K h6
 · intro k k' o o' g g' h1 h2 h3 h4 h5 h6 h7
   obtain ⟨a1,a2,_⟩:=mk h1 h3 h5
   obtain ⟨b1,b2,_⟩:=mk h2 h4 h6
   exact H.mone k k' o o' g g' a1 b1 a2 b2 h5 h6 h7
 · intro k o g h1 h2 h3
   obtain ⟨h4,h5,h6⟩:=mk h1 h2 h3
   exact H.mmine k o g h4 h5 h3
 · intro k o g h1 h2 h3
   obtain ⟨h4,h5⟩:=nm h1 h2 (by rw [h3]; simp)
   obtain ⟨e1,e0,e2⟩:=H.yld k o g h4 h5 h3
   refine ⟨e1,e0,E.mono (E.stable e2 ⟨hos,htape,hout,hsz,fun b hc=>hold b (H.clow b hc) fun hl=>(hL b hl).2.1 hc,K.cell⟩) K.sub⟩
 · intro k k' o o' h1 h2 h3 h4
   exact H.yone k k' o o' (S.of k o h1 (by rw [h3]; simp)) (S.of k' o' h2 (by rw [h4]; simp)) h3 h4
 · obtain ⟨rs,h1,h2,h3⟩:=H.marks
   refine ⟨rs,h1,h2,fun r hr=>?_⟩
   obtain ⟨h4,h5,h6⟩:=h3 r hr
   refine ⟨?_,h5,h6⟩
   rw [hold r (Array.getElem?_eq_some_iff.1 h4).1 fun hl=>?_]
   · exact h4
   · obtain ⟨cur,ty,f,h7⟩:=(hL _ hl).1
     rw [h4] at h7; cases h7
 · intro l hl
   obtain ⟨h0,L0,h1,h2⟩:=H.round l hl
   refine ⟨h0,L0,?_,h2⟩
   rw [hold l (Array.getElem?_eq_some_iff.1 h1).1 fun hl=>?_]
   · exact h1
   · obtain ⟨cur,ty,f,h7⟩:=(hL _ hl).1
     rw [h1] at h7; cases h7
 · have Q:=H.pools
   refine Q.move (fun k=>k) (fun k o h1 h2=>S.of k o h1 (by rw [h2]; simp)) (fun _ _ _ _ _ _ _ _ h=>h) (fun b h=>hold b (Q.lt h) fun hl=>(hL b hl).2.2 h) K.sub K.cell (fun b n h hp=>?_) (fun b h=>(Q.at h).1) (fun b h=>(Q.at h).2) (fun k o g h1 h2 h3 hlab=>?_)
   · rcases hnew b n hp with hp | hp | hp
     · exact Q.unp h hp
     · have:=Q.lt h; omega
     · exact (hL b hp).2.2 h
   · rcases hlive k o g h1 h2 h3 with h4 | h4
     · have:=Q.lt hlab; omega
     · exact (hL _ h4).2.2 hlab
theorem X.live (H:X P ok E w0 mod γ0 Pr0 C0 nt ρ Pr γ C fr st a w) {b:Nat} (h:liveMod st γ b):(∃ cur ty f,w.heap[b]? = some (.cells cur ty f))∧¬ C b∧¬ Lab st b:=by
 refine ⟨live_heap H.st h,?_,fun hl=>H.ext.pools.notLive hl h⟩
 obtain ⟨k,o,g,h1,h2,h3,rfl⟩:=h
 exact H.ext.apart k o g h1 h2 (by simp [O.own,h3])
theorem X.step (H:X P ok E w0 mod γ0 Pr0 C0 nt ρ Pr γ C fr st a w) (A:AR w (liveMod st γ) γ Pr nt Pr' γ' fr' st' a' w') (K:Keep Pr Pr' γ γ' w w') (S:XSame st st') (hd:a'.defers=a.defers) :
  X P ok E w0 mod γ0 Pr0 C0 nt ρ Pr' γ' C fr' st' a' w':=by
 have B:=A.base
 have B2:=H.base
 refine ⟨fun k o g h1 h2 h3=>?_,?_,A.fr,A.st,?_⟩
 · rcases A.mine k o g h1 h2 h3 with h4 | ⟨k',o',g',a1,a2,a3,a4⟩
   · exact .inl (Nat.le_trans B2.size h4)
   · rw [← a4]; exact H.mine k' o' g' a1 a2 a3
 · rw [hd]
   exact H.ext.frame K S B.os B.tape B.output B.size B.old (fun b hb=>H.live hb) B.new A.mine fun k o h=>H.st.at h
 · refine ⟨B.os.trans B2.os,B.tape.trans B2.tape,B.output.trans B2.output,Nat.le_trans B2.size B.size,fun b h1 h2 h3=>?_,fun b n h=>B.sub b n (B2.sub b n h),fun b n h=>?_,fun k g h=>B.names k g (B2.names k g h),fun b n h=>(K.cell b n (B2.sub b n h)).trans (B2.cell b n h),B2.csub,B2.cnew⟩
   · rw [B.old b (Nat.lt_of_lt_of_le h1 B2.size) fun hl=>?_]
     · exact B2.old b h1 h2 h3
     · obtain ⟨k,o,g,a1,a2,a3,rfl⟩:=hl
       rcases H.mine k o g a1 a2 a3 with h | h
       · omega
       · exact h2 h
   · rcases B.new b n h with h | h | ⟨k,o,g,a1,a2,a3,rfl⟩
     · exact B2.new b n h
     · exact .inr (.inl (Nat.le_trans B2.size h))
     · exact .inr (H.mine k o g a1 a2 a3)
end Go.Cod
namespace Go.Cod
open Go
variable [Lam]
variable {Pr:Nat→Nat→Prop} {γ:List G} {w:World} {st:St}
theorem XSame.lend {γ w nt mod γ0 Pr0 w0 fr a}:∀ (ks:List Nat) {st:St} {Pr:Nat→Nat→Prop},AR w0 mod γ0 Pr0 nt Pr γ fr st a w→XSame st (Cod.lend st ks)
 | [],_,_,_=>.refl _
 | k::ks,st,Pr,A=>by
   obtain ⟨P1,K1,A1,R1⟩:=A.lend1 k
   exact (XSame.lend1 A.st k).trans (XSame.lend ks A1)
theorem aStore_x {τ:Tau} {t:TypeId} {p v:V} {K:St→Prop} (hnd:∀ b sz i j,p≠.dptr b sz i j) (S:StOk Pr γ w st) (h:aStore τ t p v st K):aStore τ t p v st fun st'=>K st'∧XSame st st':=by
 unfold aStore at h ⊢
 split at h
 · split at h
   · exact h.elim
   · rename_i o ho
     simp only [atRow_iff,Chk_iff] at h ⊢
     obtain ⟨h1,h2,h3,h4,h5,e,h6,h7,h8⟩:=h
     have:=live_kind S ho h1
     exact ⟨h1,h2,h3,h4,h5,e,h6,h7,h8,.set ho this this⟩
 · obtain ⟨o,e,e',ho,he,hj,hee,h⟩:=h
   simp only [Chk_iff,decide_eq_true_eq] at h
   obtain ⟨h1,h2,h3,h4,h5,h6,h7⟩:=h
   refine ⟨o,e,e',ho,he,hj,hee,?_⟩
   simp only [Chk_iff,decide_eq_true_eq]
   have:=live_kind S ho h2
   exact ⟨h1,h2,h3,h4,h5,h6,h7,.set ho this this⟩
 · exact absurd rfl (hnd _ _ _ _)
 · exact h.elim
omit [Lam] in
theorem aMake_x {τ:Tau} {t:TypeId} {n c:V} {K:V→St→Prop} (h:aMake τ t n c st K):aMake τ t n c st fun v st'=>K v st'∧XSame st st':=by
 unfold aMake at h ⊢
 simp only [lenK0] at h ⊢
 split at h
 · obtain ⟨h0,h1,h⟩:=h
   refine ⟨h0,h1,?_⟩
   split at h
   · simp only [Chk_iff] at h ⊢
     obtain ⟨a,b,c,d,e,f,g⟩:=h
     exact ⟨a,b,c,d,e,f,g,.push st rfl⟩
   · exact h.elim
 · exact h.elim
omit [Lam] in
theorem aConvert_x {τ:Tau} {s d:TypeId} {x:V} {K:V→St→Prop} (h:aConvert τ s d x st K):aConvert τ s d x st fun v st'=>K v st'∧XSame st st':=by
 unfold aConvert at h ⊢
 simp only [lenK0] at h ⊢
 split at h
 · exact ⟨h,.refl _⟩
 · exact ⟨h,.refl _⟩
 · simp only [Chk_iff] at h ⊢
   obtain ⟨a,b,c,d⟩:=h
   exact ⟨a,b,c,d,.push st rfl⟩
 · simp only [Chk_iff] at h ⊢
   refine ⟨h.1,?_⟩
   have h:=h.2
   split at h
   · obtain ⟨bs,h1,h2⟩:=h
     exact ⟨bs,h1,h2,.refl _⟩
   · exact h.elim
 · exact h.elim
theorem aSlice_x {τ:Tau} {t:TypeId} {x:V} {lo hi:Option V} {K:V→St→Prop} {w0 mod γ0 Pr0 nt fr a} (A:AR w0 mod γ0 Pr0 nt Pr γ fr st a w) (h:aSlice τ t x lo hi st K):aSlice τ t x lo hi st fun v st'=>K v st'∧XSame st st':=by
 have bound:∀ {x y} {C C':Nat→Prop},(∀ n,C n→C' n)→aBound x y C→aBound x y C':=by
  intro x y C C' hc h
  unfold aBound at h ⊢
  split at h
  · exact ⟨h.1,h.2.1,hc _ h.2.2⟩
  · exact h.elim
 have low:∀ {lo n} {C C':Nat→Nat→Prop},(∀ a b,C a b→C' a b)→aLow lo n C→aLow lo n C':=by
  intro lo n C C' hc h
  unfold aLow at h ⊢
  cases lo with
  | none=>exact hc _ _ h
  | some l=>exact bound (fun k hk=>hc _ _ hk) h
 have range:∀ {lo hi n} {C C':Nat→Nat→Prop},(∀ a b,C a b→C' a b)→aRange lo hi n C→aRange lo hi n C':=by
  intro lo hi n C C' hc h
  unfold aRange at h ⊢
  cases hi with
  | none=>exact low hc h
  | some l=>exact bound (fun k hk=>low hc hk) h
 have lowD:∀ {lo n c b s} {C C':V→Prop},(∀ v,C v→C' v)→aLowD lo n c b s C→aLowD lo n c b s C':=by
  intro lo n c b s C C' hc h
  unfold aLowD at h ⊢
  cases lo with
  | none=>exact hc _ h
  | some l=>exact bound (fun k hk=>⟨fun e=>hc _ (hk.1 e),fun e=>hc _ (hk.2 e)⟩) h
 unfold aSlice at h ⊢
 split at h
 · exact range (fun _ _ h=>⟨h,.refl _⟩) h
 · split at h
   · refine ⟨h.1,?_⟩
     have h:=h.2
     cases hi with
     | none=>exact lowD (fun _ h=>⟨h,.refl _⟩) h
     | some x=>exact bound (fun k hk=>lowD (fun _ h=>⟨h,.refl _⟩) hk) h
   · exact h.elim
 · split at h
   · refine range (fun _ _ h=>?_) h
     obtain ⟨h1,h2⟩:=Chk_iff.1 h
     exact Chk_iff.2 ⟨h1,h2,.refl _⟩
   · exact h.elim
 · split at h
   · exact ⟨h.1,range (fun _ _ h=>⟨h,XSame.lend _ A⟩) h.2⟩
   · exact h.elim
 · exact h.elim
theorem aAppend_x {τ:Tau} {t u:TypeId} {s x:V} {K:V→St→Prop} (S:StOk Pr γ w st) (h:aAppend τ t u s x st K):aAppend τ t u s x st fun v st'=>K v st'∧XSame st st':=by
 unfold aAppend at h ⊢
 simp only [lenK0] at h ⊢
 simp only [Chk_iff] at h ⊢
 split at h
 · split at h
   · refine ⟨h.1,?_⟩
     have h:=h.2
     split at h
     · exact h.elim
     · obtain ⟨h1,h2,h3,h4,h⟩:=h
       refine ⟨h1,h2,h3,h4,?_⟩
       split at h
       · refine ⟨h.1,?_⟩
         rcases h.2 with ⟨a,b⟩ | ⟨a,b⟩
         · exact .inl ⟨a,b,.refl _⟩
         · exact .inr ⟨a,b,.push st rfl⟩
       · split at h
         · exact h.elim
         · rename_i o ho
           obtain ⟨a,b,c,d,e⟩:=h
           have:=live_kind S ho a
           exact ⟨a,b,c,d,e,(XSame.set (o':={ o with live:=false }) ho this this).trans (.push _ rfl)⟩
       · exact h.elim
   · exact h.elim
 · exact h.elim
theorem aBuildSlice_x {τ:Tau} {t:TypeId} {len:Nat} {parts:List (Nat × V)} {K:V→St→Prop} {w0 mod γ0 Pr0 nt fr a} (A:AR w0 mod γ0 Pr0 nt Pr γ fr st a w) (h:aBuildSlice τ t len parts st K):aBuildSlice τ t len parts st fun v st'=>K v st'∧XSame st st':=by
 unfold aBuildSlice at h ⊢
 simp only [lenK0] at h ⊢
 simp only [Chk_iff] at h ⊢
 split at h
 · split at h
   · obtain ⟨a,b,c,d,e,h⟩:=h
     refine ⟨a,b,c,d,e,?_⟩
     split at h
     · rw [if_pos ‹_›]; exact ⟨h,.refl _⟩
     · rw [if_neg ‹_›]; exact ⟨h.1,h.2,(XSame.lend _ A).trans (.push _ rfl)⟩
   · exact h.elim
 · exact h.elim
end Go.Cod
namespace Go.Cod
open Go
variable [Lam]
omit [Lam] in
theorem intKind_eq {k k':IntKind} (h:kindCode k=kindCode k'):k=k':=by
 cases k <;> cases k' <;> first | rfl | (simp [kindCode] at h)
omit [Lam] in
theorem ba_beq (a b:List UInt8):((⟨a.toArray⟩:ByteArray) == ⟨b.toArray⟩)=decide (a=b):=by
 have e:((⟨a.toArray⟩:ByteArray) == ⟨b.toArray⟩)=(a.toArray == b.toArray):=rfl
 rw [e,Bool.eq_iff_iff]
 simp
def BasicK (k:TK) (kd:TypeDesc):Prop:=match k with
 | .int k=>kd=.int k
 | .str=>kd=.string
 | .bool=>kd=.bool
 | _=>False
omit [Lam] in
theorem pairCode_or (cs:List V):pairCode cs=0∨∃ a b,cs=[.int .i64 a,.int .i64 b]:=by
 unfold pairCode
 split
 · exact .inr ⟨_,_,rfl⟩
 · exact .inl rfl
omit [Lam] in
theorem pairCode_le (cs:List V):pairCode cs=0∨pairCode cs=11:=by
 rcases pairCode_or cs with h | ⟨a,b,rfl⟩
 · exact .inl h
 · exact .inr rfl
omit [Lam] in
theorem same_now {kd:TypeDesc} {tk:TK} {key kx:V} {ck cx:Value} {Pr γ w} (htk:BasicK tk kd)
  (h1:keyCode key=codeOf tk) (h2:keyCode kx=codeOf tk) (hk:Rep Pr γ w key ck) (hx:Rep Pr γ w kx cx) :
  Instr.sameNow kd ck cx=some (keyEq kx key)∧(keyEq kx key=true→Instr.sameBits 10000 cx ck=true):=by
 unfold BasicK at htk
 cases tk with
 | int k =>
   simp only at htk
   subst htk
   cases key <;> simp only [keyCode,codeOf] at h1 <;> try (first | (cases k <;> simp [kindCode] at h1; done) | (rename_i cs; rcases pairCode_le cs with e | e <;> rw [e] at h1 <;> cases k <;> simp [kindCode] at h1; done))
   cases kx <;> simp only [keyCode,codeOf] at h2 <;> try (first | (cases k <;> simp [kindCode] at h2; done) | (rename_i cs; rcases pairCode_le cs with e | e <;> rw [e] at h2 <;> cases k <;> simp [kindCode] at h2; done))
   have e1:=intKind_eq h1
   have e2:=intKind_eq h2
   subst e1; subst e2
   cases hk; cases hx
   refine ⟨?_,fun h=>?_⟩
   · simp only [Instr.sameNow,if_true,keyEq]
     congr 1
     rw [Bool.eq_iff_iff]; simp; exact eq_comm
   · simp only [keyEq,decide_eq_true_eq] at h
     subst h
     unfold Instr.sameBits
     simp
 | str =>
   simp only at htk
   subst htk
   cases key <;> simp only [keyCode,codeOf] at h1 <;> try (first | omega | (rename_i k _; cases k <;> simp [kindCode] at h1; done) | (rename_i cs; rcases pairCode_le cs with e | e <;> rw [e] at h1 <;> omega))
   cases kx <;> simp only [keyCode,codeOf] at h2 <;> try (first | omega | (rename_i k _; cases k <;> simp [kindCode] at h2; done) | (rename_i cs; rcases pairCode_le cs with e | e <;> rw [e] at h2 <;> omega))
   cases hk; cases hx
   rename_i a b
   refine ⟨?_,fun h=>?_⟩
   · simp only [Instr.sameNow,keyEq,ba_beq]
     congr 1
     rw [Bool.eq_iff_iff]; simp; exact eq_comm
   · simp only [keyEq,decide_eq_true_eq] at h
     subst h
     unfold Instr.sameBits
     simp [ba_beq]
 | bool =>
   simp only at htk
   subst htk
   cases key <;> simp only [keyCode,codeOf] at h1 <;> try (first | omega | (rename_i k _; cases k <;> simp [kindCode] at h1; done) | (rename_i cs; rcases pairCode_le cs with e | e <;> rw [e] at h1 <;> omega))
   cases kx <;> simp only [keyCode,codeOf] at h2 <;> try (first | omega | (rename_i k _; cases k <;> simp [kindCode] at h2; done) | (rename_i cs; rcases pairCode_le cs with e | e <;> rw [e] at h2 <;> omega))
   cases hk; cases hx
   rename_i a b
   refine ⟨?_,fun h=>?_⟩
   · simp only [Instr.sameNow,keyEq]
     congr 1
     cases a <;> cases b <;> rfl
   · simp only [keyEq,beq_iff_eq] at h
     subst h
     unfold Instr.sameBits
     simp
 | _=>exact htk.elim
omit [Lam] in
theorem find_sound {kd:TypeDesc} {tk:TK} {key v:V} {ck:Value} {Pr γ w} (htk:BasicK tk kd)
  (h1:keyCode key=codeOf tk) (hk:Rep Pr γ w key ck):∀ (es:List (List V)) (ents:List MapEntry) (i0:Nat),MEnts Pr γ w es ents→(∀ e∈es,keyCode (rowKey e)=codeOf tk) →
    (findRow key es=none∧Instr.findNow kd ck ents i0=some none∧putRow key v es=es++[[key,v]]) ∨
    (∃ (j:Nat) (e:List V) (m:MapEntry),es[j]? = some e∧ents[j]? = some m∧findRow key es=some (rowVal e)∧Instr.findNow kd ck ents i0=some (some (i0+j,m.val))∧putRow key v es=es.set j [key,v]∧Instr.sameBits 10000 m.key ck=true)
 | [],[],i0,_,_=>.inl ⟨rfl,rfl,rfl⟩
 | [],_::_,_,h,_=>by simp [MEnts] at h
 | _::_,[],_,h,_=>by simp [MEnts] at h
 | e::es,m::ents,i0,h,hc=>by
   obtain ⟨kx,vx,rfl,e2,e3⟩:=h.2 0 e m rfl rfl
   obtain ⟨s1,s2⟩:=same_now (kx:=kx) htk h1 (hc [kx,vx] (by simp)) hk e2
   have ht:MEnts Pr γ w es ents:=⟨by simpa using h.1,fun i a b x y=>h.2 (i+1) a b (by simpa using x) (by simpa using y)⟩
   by_cases hq:keyEq kx key=true
   · right
     refine ⟨0,[kx,vx],m,rfl,rfl,?_,?_,?_,s2 hq⟩
     · simp [findRow,rowKey,hq]
     · simp [Instr.findNow,s1,hq]
     · simp [putRow,rowKey,hq]
   · have hq':keyEq kx key=false:=by simpa using hq
     rcases find_sound (v:=v) htk h1 hk es ents (i0+1) ht (fun e he=>hc e (by simp [he])) with ⟨a,b,c⟩ | ⟨j,e',m',a,b,c,d,f,g⟩
     · exact .inl ⟨by simp [findRow,rowKey,hq',a],by simp [Instr.findNow,s1,hq',b],by simp [putRow,rowKey,hq',c]⟩
     · refine .inr ⟨j+1,e',m',by simpa using a,by simpa using b,by simp [findRow,rowKey,hq',c],?_,by simp [putRow,rowKey,hq',f],g⟩
       simp [Instr.findNow,s1,hq',d]; omega
omit [Lam] in
theorem run_checkKey {P:Program} {tk:TypeId} {k:TK} {ik:TI} (hk:TIok P tk ik) (e:ik.kind=k) (hc:codeOf k≠0) {ck:Value} (b:Bool) (n:Nat) (w1:World) :
  (Instr.checkKey b (n+1) tk ck).run P w1=.ok () w1∧∃ kd,P.underlying tk=some kd∧BasicK k kd:=by
 have hd:=hk.kind
 rw [e] at hd
 cases k <;> simp only [codeOf,ne_eq,not_true_eq_false] at hc <;> simp only at hd
 · exact ⟨by unfold Instr.checkKey; simp [run_underlying hd],_,hd,rfl⟩
 · exact ⟨by unfold Instr.checkKey; simp [run_underlying hd],_,hd,rfl⟩
 · exact ⟨by unfold Instr.checkKey; simp [run_underlying hd],_,hd,rfl⟩
omit [Lam] in
theorem run_findKey {P:Program} {tk:TypeId} {kd:TypeDesc} (hu:P.underlying tk=some kd) {ck:Value} {ents:List MapEntry} {r:Option (Nat × Value)} (h:Instr.findNow kd ck ents 0=some r) (w:World) :
  (Instr.findKey tk ck ents).run P w=.ok r w:=by
 unfold Instr.findKey
 simp [run_underlying hu,h]
omit [Lam] in
theorem key_pair:∀ {v:V},keyCode v=11→∃ a b,v=.agg [.int .i64 a,.int .i64 b]:=by
 intro v h
 match v,h with
 | .agg cs,h =>
   rcases pairCode_or cs with e | ⟨a,b,rfl⟩
   · exact absurd ((show pairCode cs=11 from h).symm.trans e) (by decide)
   · exact ⟨a,b,rfl⟩
 | .int k n,h=>cases k <;> exact absurd h (by intro h; cases h)
 | .bool _,h | .str _,h=>exact absurd h (by intro h; cases h)
 | .tup _,h | .nils,h | .sl _,h | .own _,h | .ptr _ _ _,h | .win _ _ _ _,h | .cptr _ _,h | .rptr _,h | .fn _ _,h | .raw _,h | .any,h | .map _,h | .yld _,h | .iface _ _,h | .dref _ _ _,h | .dptr _ _ _ _,h | .meth _ _,h | .bnd _ _,h=>exact absurd h (by intro h; cases h)
omit [Lam] in
theorem rep_pair {Pr γ w} {a b:Int} {cv:Value} (h:Rep Pr γ w (.agg [.int .i64 a,.int .i64 b]) cv):cv=.agg #[.int .i64 a,.int .i64 b]:=by
 cases h with
 | agg hl hh =>
   rename_i us
   match us,hl,hh with
   | [x,y],_,hh =>
     have e0:=hh 0 _ x rfl rfl
     have e1:=hh 1 _ y rfl rfl
     cases e0; cases e1
     rfl
omit [Lam] in
theorem run_equal_pair {P:Program} {t e:TypeId} {i:TypeInfo} (ht:P.underlying t=some (.array 2 e)) (hi:P.info? e=some i) (hs:i.size=1) (he:P.underlying e=some (.int .i64)) (a b c d:Int) (w:World) :
  (Op.equal t (.agg #[.int .i64 a,.int .i64 b]) (.agg #[.int .i64 c,.int .i64 d])).run P w=.ok (decide (a=c)&&decide (b=d)) w:=by
 have z:(Go.sizeOf e).run P w=.ok 1 w:=by simp [Go.sizeOf,typeInfo,hi,hs]
 have g:(Go.isAgg e).run P w=.ok false w:=by unfold Go.isAgg; simp [run_underlying he]
 have p0:∀ x y:Int,(part e #[.int .i64 x,.int .i64 y] 0).run P w=.ok (.int .i64 x) w:=fun x y=>by simp [part,g]
 have p1:∀ x y:Int,(part e #[.int .i64 x,.int .i64 y] 1).run P w=.ok (.int .i64 y) w:=fun x y=>by simp [part,g]
 have q:∀ (n:Nat) (x y:Int),(Op.equalIn (n+1) e (.int .i64 x) (.int .i64 y)).run P w=.ok (x == y) w:=fun n x y=>by
  unfold Op.equalIn; simp [run_underlying he]
 unfold Op.equal
 rw [show Op.maxDepth=9998+1+1 from rfl]
 unfold Op.equalIn
 simp only [Sem.run_bind,run_underlying ht,Result.andThen_ok,z]
 simp only [Std.Legacy.Range.forIn_eq_forIn_range',Std.Legacy.Range.size,Nat.sub_zero,Nat.add_sub_cancel,Nat.div_one,List.range'_succ,List.range'_zero,List.forIn_cons,List.forIn_nil]
 by_cases h1:a=c <;> by_cases h2:b=d <;> simp [p0,p1,q,h1,h2]
omit [Lam] in
theorem run_checkKey_pair {P:Program} {t e:TypeId} {i:TypeInfo} (ht:P.underlying t=some (.array 2 e)) (hi:P.info? e=some i) (hs:i.size=1) (he:P.underlying e=some (.int .i64)) (a b:Int) (m:Bool) (n:Nat) (w:World) :
  (Instr.checkKey m (n+1+1) t (.agg #[.int .i64 a,.int .i64 b])).run P w=.ok () w:=by
 have z:(Go.sizeOf e).run P w=.ok 1 w:=by simp [Go.sizeOf,typeInfo,hi,hs]
 have g:(Go.isAgg e).run P w=.ok false w:=by unfold Go.isAgg; simp [run_underlying he]
 have p0:∀ x y:Int,(part e #[.int .i64 x,.int .i64 y] 0).run P w=.ok (.int .i64 x) w:=fun x y=>by simp [part,g]
 have p1:∀ x y:Int,(part e #[.int .i64 x,.int .i64 y] 1).run P w=.ok (.int .i64 y) w:=fun x y=>by simp [part,g]
 have q:∀ (x:Int),(Instr.checkKey m (n+1) e (.int .i64 x)).run P w=.ok () w:=fun x=>by
  unfold Instr.checkKey; simp [run_underlying he]
 unfold Instr.checkKey
 simp only [Sem.run_bind,run_underlying ht,Result.andThen_ok]
 simp only [Std.Legacy.Range.forIn_eq_forIn_range',Std.Legacy.Range.size,Nat.sub_zero,Nat.add_sub_cancel,Nat.div_one,List.range'_succ,List.range'_zero,List.forIn_cons,List.forIn_nil]
 simp [p0,p1,q,z]
omit [Lam] in
theorem findNow_pair {e:TypeId} {a b:Int}:∀ (ents:List MapEntry) (i:Nat),ents≠[]→Instr.findNow (.array 2 e) (.agg #[.int .i64 a,.int .i64 b]) ents i=none
 | [],_,h=>absurd rfl h
 | _::_,_,_=>by simp [Instr.findNow,Instr.sameNow]
omit [Lam] in
theorem find_pair {P:Program} {t e:TypeId} {i:TypeInfo} (ht:P.underlying t=some (.array 2 e)) (hi:P.info? e=some i) (hs:i.size=1) (he:P.underlying e=some (.int .i64)) {Pr γ} {w:World} {a b:Int} {v:V} :
  ∀ (es:List (List V)) (ents:List MapEntry) (i0:Nat),MEnts Pr γ w es ents→(∀ e∈es,keyCode (rowKey e)=11) →
    (findRow (.agg [.int .i64 a,.int .i64 b]) es=none∧(Instr.findAsking t (.agg #[.int .i64 a,.int .i64 b]) ents i0).run P w=.ok none w∧putRow (.agg [.int .i64 a,.int .i64 b]) v es=es++[[.agg [.int .i64 a,.int .i64 b],v]]) ∨
    (∃ (j:Nat) (e:List V) (m:MapEntry),es[j]? = some e∧ents[j]? = some m∧findRow (.agg [.int .i64 a,.int .i64 b]) es=some (rowVal e)∧(Instr.findAsking t (.agg #[.int .i64 a,.int .i64 b]) ents i0).run P w=.ok (some (i0+j,m.val)) w ∧
      putRow (.agg [.int .i64 a,.int .i64 b]) v es=es.set j [.agg [.int .i64 a,.int .i64 b],v]∧Instr.sameBits 10000 m.key (.agg #[.int .i64 a,.int .i64 b])=true)
 | [],[],i0,_,_=>.inl ⟨rfl,by simp [Instr.findAsking],rfl⟩
 | [],_::_,_,h,_=>by simp [MEnts] at h
 | _::_,[],_,h,_=>by simp [MEnts] at h
 | e1::es,m::ents,i0,h,hc=>by
   obtain ⟨kx,vx,rfl,e2,e3⟩:=h.2 0 e1 m rfl rfl
   obtain ⟨c,d,rfl⟩:=key_pair (hc [kx,vx] (by simp))
   have hk:=rep_pair e2
   have s1:=run_equal_pair (P:=P) ht hi hs he a b c d w
   have htl:MEnts Pr γ w es ents:=⟨by simpa using h.1,fun i a b x y=>h.2 (i+1) a b (by simpa using x) (by simpa using y)⟩
   by_cases hq:c=a∧d=b
   · obtain ⟨rfl,rfl⟩:=hq
     right
     refine ⟨0,_,m,rfl,rfl,?_,?_,?_,?_⟩
     · simp [findRow,rowKey,keyEq]
     · simp [Instr.findAsking,hk,s1]
     · simp [putRow,rowKey,keyEq]
     · rw [hk]; unfold Instr.sameBits; simp [Instr.sameBits]
   · have hq1:(decide (c=a)&&decide (d=b))=false:=by simpa using hq
     have hq2:(decide (a=c)&&decide (b=d))=false:=by
      rw [show decide (a=c)=decide (c=a) from by simp only [eq_comm],show decide (b=d)=decide (d=b) from by simp only [eq_comm]]; exact hq1
     rw [hq2] at s1
     rcases find_pair (v:=v) (a:=a) (b:=b) ht hi hs he es ents (i0+1) htl (fun e he=>hc e (by simp [he])) with ⟨p,q,r⟩ | ⟨j,e',m',p,q,r,s,u,x⟩
     · refine .inl ⟨by simp only [findRow,rowKey,keyEq,hq1,Bool.false_eq_true,if_false]; exact p,?_,by simp only [putRow,rowKey,keyEq,hq1,Bool.false_eq_true,if_false]; rw [r]; rfl⟩
       simp [Instr.findAsking,hk,s1,q]
     · refine .inr ⟨j+1,e',m',by simpa using p,by simpa using q,by simp only [findRow,rowKey,keyEq,hq1,Bool.false_eq_true,if_false]; exact r,?_,by simp only [putRow,rowKey,keyEq,hq1,Bool.false_eq_true,if_false]; rw [u]; rfl,x⟩
       simp [Instr.findAsking,hk,s1,s]; omega
omit [Lam] in
theorem key_sound {P:Program} {tk:TypeId} {ik:TI} (hk:TIok P tk ik) (hc:codeI ik≠0) {key v:V} {ck:Value} {Pr γ w} (h1:keyCode key=codeI ik) (hr:Rep Pr γ w key ck)
  {es:List (List V)} {ents:List MapEntry} (hM:MEnts Pr γ w es ents) (hky:∀ e∈es,keyCode (rowKey e)=codeI ik) (b:Bool) :
  (Instr.checkKey b 10000 tk ck).run P w=.ok () w ∧
  ((findRow key es=none∧(Instr.findKey tk ck ents).run P w=.ok none w∧putRow key v es=es++[[key,v]]) ∨
    (∃ (j:Nat) (e:List V) (m:MapEntry),es[j]? = some e∧ents[j]? = some m∧findRow key es=some (rowVal e)∧(Instr.findKey tk ck ents).run P w=.ok (some (0+j,m.val)) w∧putRow key v es=es.set j [key,v]∧Instr.sameBits 10000 m.key ck=true)):=by
 cases hp:ik.pair with
 | false =>
   have e:codeI ik=codeOf ik.kind:=by unfold codeI; rw [hp]
   rw [e] at hc h1 hky
   obtain ⟨q1,kd,q2,q3⟩:=run_checkKey (ck:=ck) hk rfl hc b 9999 w
   refine ⟨q1,?_⟩
   rcases find_sound (v:=v) q3 h1 hr es ents 0 hM hky with ⟨a,b,c⟩ | ⟨j,e,me,a,b,f1,f2,f3,f4⟩
   · exact .inl ⟨a,run_findKey q2 b w,c⟩
   · exact .inr ⟨j,e,me,a,b,f1,run_findKey q2 f2 w,f3,f4⟩
 | true =>
   have e:codeI ik=11:=by unfold codeI; rw [hp]
   rw [e] at h1 hky
   obtain ⟨et,i,t1,t2,t3,t4⟩:=hk.pair hp
   obtain ⟨a,b',rfl⟩:=key_pair h1
   have hck:=rep_pair hr
   subst hck
   refine ⟨run_checkKey_pair t1 t2 t3 t4 a b' b 9998 w,?_⟩
   have hf:∀ r,(Instr.findAsking tk (.agg #[.int .i64 a,.int .i64 b']) ents 0).run P w=.ok r w→(Instr.findKey tk (.agg #[.int .i64 a,.int .i64 b']) ents).run P w=.ok r w:=fun r hr=>by
    unfold Instr.findKey
    simp only [Sem.run_bind,run_underlying t1,Result.andThen_ok]
    cases ents with
    | nil=>simpa [Instr.findNow,Instr.findAsking] using hr
    | cons x xs=>rw [findNow_pair (x::xs) 0 (by simp)]; exact hr
   rcases find_pair (v:=v) t1 t2 t3 t4 es ents 0 hM hky with ⟨p,q,r⟩ | ⟨j,e,m,p,q,r,s,u,x⟩
   · exact .inl ⟨p,hf _ q,r⟩
   · exact .inr ⟨j,e,m,p,q,r,hf _ s,u,x⟩
omit [Lam] in
theorem TIok.zeroRun {P t ti} (h:TIok P t ti) (Pr γ) (w:World):∃ z,(zeroValue t).run P w=.ok z w∧Rep Pr γ w ti.zero z:=by
 obtain ⟨i,z,g1,_,_,g4,g5⟩:=h.info
 exact ⟨z,by simp [zeroValue,typeInfo,g1,g4],Rep.zero _ z g5⟩
omit [Lam] in
theorem tup2 {Pr γ w a b u v} (ha:Rep Pr γ w a u) (hb:Rep Pr γ w b v):Rep Pr γ w (.tup [a,b]) (.tuple #[u,v]):=by
 have:=RepL.cons ha (RepL.cons hb RepL.nil)
 exact Rep.tup this.1 this.2
omit [Lam] in
theorem aLookup_sound {P:Program} {τ:Tau} (hτ:TauOk P τ) {t:TypeId} {m key:V} {c:Bool} {st:St} {K:V→Prop} {Pr γ w} (hmap:∀ (k:Nat) (o:O) g,st[k]? = some o→γ[k]? = some g→o.kind=.map→MapOk Pr γ w o g)
  {cm ck:Value} (h:aLookup τ t m key c st K) (hm:Rep Pr γ w m cm) (hk:Rep Pr γ w key ck):∃ v cv,K v∧Rep Pr γ w v cv∧(Instr.lookup t cm ck c).run P w=.ok cv w:=by
 unfold aLookup at h
 split at h
 · rename_i tk te k hkd
   split at h
   · rename_i o ik ie ho hik hie
     obtain ⟨hc,h⟩:=Chk_iff.1 h
     rw [AtKey_iff] at h
     simp only [Bool.and_eq_true,decide_eq_true_eq] at hc
     obtain ⟨⟨⟨c1,c2⟩,c3⟩,c4⟩:=hc
     cases hm with
     | map hg =>
     rename_i g
     obtain ⟨ents,clock,e1,e2,e3⟩:=(hmap k o g ho hg c1).ex
     obtain ⟨q1,hq⟩:=key_sound (v:=.nils) (hτ _ _ hik) c3 c2 hk e2 (fun e he=>by rw [(hmap k o g ho hg c1).ky e he,c4]) ents.isEmpty
     have hu:=kind_map hτ hkd
     have hgo:(getObj g.blk).run P w=.ok (.map ents clock) w:=by simp [getObj,e1,Sem.run]
     rcases hq with ⟨a,hf,_⟩ | ⟨j,e,me,a,b,f1,hf,_,_⟩
     · rw [a] at h
       obtain ⟨z,z1,z2⟩:=(hτ _ _ hie).zeroRun Pr γ w
       have run:(Instr.lookup t (.map (some g.blk)) ck c).run P w=.ok (if c then .tuple #[z,.bool false] else z) w:=by
        simp only [Instr.lookup,Sem.run_bind,run_underlying hu,Result.andThen_ok,hgo,Sem.run_pure,q1,hf,z1]
       cases c
       · exact ⟨_,z,h,z2,run⟩
       · exact ⟨_,_,h,tup2 z2 (.bool false),run⟩
     · rw [f1] at h
       obtain ⟨kx,vx,rfl,r1,r2⟩:=e2.2 j e me a b
       have run:(Instr.lookup t (.map (some g.blk)) ck c).run P w=.ok (if c then .tuple #[me.val,.bool true] else me.val) w:=by
        simp only [Instr.lookup,Sem.run_bind,run_underlying hu,Result.andThen_ok,hgo,Sem.run_pure,q1,hf]
       cases c
       · exact ⟨_,me.val,h,r2,run⟩
       · exact ⟨_,_,h,tup2 r2 (.bool true),run⟩
   · exact h.elim
 · exact h.elim
end Go.Cod
namespace Go.Cod
open Go
variable [Lam]
theorem StOk.setDead {Pr γ w st} (h:StOk Pr γ w st) {k:Nat} {o o':O} (hk:st[k]? = some o) (_hl:o.live=false) (hl':o'.live=false):StOk Pr γ w (st.set k o') where
 len:=by simp [h.len]
 obj:=fun j p g hj hg hp=>by
  rw [List.getElem?_set] at hj
  by_cases e:k=j
  · subst e
    have:=(List.getElem?_eq_some_iff.1 hk).1
    simp [this] at hj; subst hj; rw [hl'] at hp; cases hp
  · rw [if_neg e] at hj; exact h.obj j p g hj hg hp
 one:=fun i j p q g g' hi hj hg hg' hp hq he=>by
  have key:∀ (i:Nat) p,(st.set k o')[i]? = some p→p.live=true→st[i]? = some p:=by
   intro i p hi hp
   rw [List.getElem?_set] at hi
   by_cases e:k=i
   · subst e
     have:=(List.getElem?_eq_some_iff.1 hk).1
     simp [this] at hi; subst hi; rw [hl'] at hp; cases hp
   · rw [if_neg e] at hi; exact hi
  exact h.one i j p q g g' (key i p hi hp) (key j q hj hq) hg hg' hp hq he
 low:=h.low
 laid:=h.laid
variable {P:Program} {ok:OkY} {E:Env P ok} {w0:World} {mod:Nat→Prop} {γ0:List G} {Pr0:Nat→Nat→Prop} {C0:Nat→Prop} {nt:Nat} {ρ:Option Nat}
 {Pr Pr':Nat→Nat→Prop} {γ γ':List G} {C:Nat→Prop} {fr fr':Nat→V} {st st':St} {a a':Act} {w w':World}
theorem map_dead (H:X P ok E w0 mod γ0 Pr0 C0 nt ρ Pr γ C fr st a w) {k:Nat} {o:O} (hk:st[k]? = some o) (hm:o.kind=.map):o.live=false:=by
 cases hl:o.live with
 | false=>rfl
 | true=>have:=live_kind H.st hk hl; rw [hm] at this; cases this
theorem X.putMap (H:X P ok E w0 mod γ0 Pr0 C0 nt ρ Pr γ C fr st a w) {k:Nat} {o o':O} {g:G} (hk:st[k]? = some o) (hg:γ[k]? = some g) (hm:o.kind=.map) (hm':o'.kind=.map) (hl':o'.live=false)
  {ents:Array MapEntry} {clock:Nat} (hOk:∀ w':World,Keep Pr Pr γ γ w w'→w'.heap[g.blk]? = some (.map ents clock)→MapOk Pr γ w' o' g) :
  X P ok E w0 mod γ0 Pr0 C0 nt ρ Pr γ C fr (st.set k o') a (w.putObj g.blk (.map ents clock)):=by
 obtain ⟨ents0,clock0,e1,_⟩:=(H.ext.maps k o g hk hg hm).ex
 have hlt:=(Array.getElem?_eq_some_iff.1 e1).1
 have hnew:(w.putObj g.blk (.map ents clock)).heap[g.blk]? = some (.map ents clock):=World.putObj_heap_same hlt
 have hold:∀ b,b≠g.blk→(w.putObj g.blk (.map ents clock)).heap[b]? = w.heap[b]? := fun b hb=>World.putObj_heap_other hb
 have hcell:∀ b n,(w.putObj g.blk (.map ents clock)).cell? ⟨b,n,none⟩=w.cell? ⟨b,n,none⟩:=by
  intro b n
  by_cases e:b=g.blk
  · subst e; simp [World.cell?,hnew,e1]
  · exact cell_of_block (hold b e) n
 have K:Keep Pr Pr γ γ w (w.putObj g.blk (.map ents clock)):=⟨fun _ _ h=>h,fun b n _=>hcell b n,fun _ _ h=>h⟩
 have hd:=map_dead H hk hm
 have hklt:k < st.length:=(List.getElem?_eq_some_iff.1 hk).1
 have get:∀ {j:Nat} {p:O},(st.set k o')[j]? = some p→(j=k∧p=o')∨(j≠k∧st[j]? = some p):=by
  intro j p hj
  rw [List.getElem?_set] at hj
  by_cases e:k=j
  · subst e; simp [hklt] at hj; exact .inl ⟨rfl,hj.symm⟩
  · rw [if_neg e] at hj; exact .inr ⟨Ne.symm e,hj⟩
 have hC:¬ C g.blk:=H.ext.apart k o g hk hg (by simp [O.own,hm])
 have hS:StOk Pr γ (w.putObj g.blk (.map ents clock)) st:=H.st.still ⟨K,fun j p q h1 h2 h3 _=>hold _ (fun e=>by
  obtain ⟨cur,f,h4,_⟩:=(H.st.obj j p q h1 h2 h3).row
  rw [e,e1] at h4; cases h4.1),fun _ _ _ _ _ _ _ _ h=>h⟩ (fun b n h=>by simpa using H.st.low b n h)
 refine ⟨fun j p q hj hq hl=>?_,?_,H.fr.keep K,hS.setDead hk hd hl',?_⟩
 · rcases get hj with ⟨rfl,rfl⟩ | ⟨_,hj⟩
   · rw [hl'] at hl; cases hl
   · exact H.mine j p q hj hq hl
 · have D:=H.ext
   refine ⟨fun b h=>by simpa using D.clow b h,fun j p q hj hq h=>?_,D.prC,fun j p q hj hq h=>?_,fun i j p q r s hi hj hr hs h1 h2 he=>?_,fun j p q hj hq h=>?_,fun j p q hj hq h=>?_,fun i j p q hi hj h1 h2=>?_,?_,fun l hl=>?_,?_⟩
   · rcases get hj with ⟨rfl,rfl⟩ | ⟨_,hj⟩
     · rw [hg] at hq; cases hq; exact hC
     · exact D.apart j p q hj hq h
   · rcases get hj with ⟨rfl,rfl⟩ | ⟨hne,hj⟩
     · rw [hg] at hq; cases hq; exact hOk _ K hnew
     · exact (D.maps j p q hj hq h).keep K (hold _ fun e=>hne (D.mone j k p o q g hj hk hq hg h hm e))
   · rcases get hi with ⟨e1,rfl⟩ | ⟨_,hi'⟩ <;> rcases get hj with ⟨e2,rfl⟩ | ⟨_,hj'⟩
     · rw [e1,e2]
     · rw [e1,hg] at hr; cases hr; rw [e1]; exact D.mone _ _ o q g s hk hj' hg hs hm h2 he
     · rw [e2,hg] at hs; cases hs; rw [e2]; exact D.mone _ _ p o r g hi' hk hr hg h1 hm he
     · exact D.mone i j p q r s hi' hj' hr hs h1 h2 he
   · rcases get hj with ⟨rfl,rfl⟩ | ⟨_,hj⟩
     · rw [hg] at hq; cases hq; exact D.mmine _ o g hk hg hm
     · exact D.mmine j p q hj hq h
   · rcases get hj with ⟨rfl,rfl⟩ | ⟨_,hj⟩
     · rw [hm'] at h; cases h
     · obtain ⟨y1,y0,y2⟩:=D.yld j p q hj hq h
       exact ⟨y1,y0,E.stable y2 ⟨rfl,rfl,rfl,by simp,fun b hb=>hold b (fun e=>hC (e ▸ hb)),fun b n _=>hcell b n⟩⟩
   · rcases get hi with ⟨rfl,rfl⟩ | ⟨_,hi⟩
     · rw [hm'] at h1; cases h1
     · rcases get hj with ⟨rfl,rfl⟩ | ⟨_,hj⟩
       · rw [hm'] at h2; cases h2
       · exact D.yone i j p q hi hj h1 h2
   · obtain ⟨rs,m1,m2,m3⟩:=D.marks
     refine ⟨rs,m1,m2,fun r hr=>?_⟩
     obtain ⟨m4,m5,m6⟩:=m3 r hr
     exact ⟨by rw [hold r (fun e=>by rw [e,e1] at m4; cases m4)]; exact m4,m5,m6⟩
   · obtain ⟨l0,L,l1,l2⟩:=D.round l hl
     exact ⟨l0,L,by rw [hold l (fun e=>by rw [e,e1] at l1; cases l1)]; exact l1,l2⟩
   · have Q:=D.pools
     refine Q.move (fun k=>k) (fun j p hj hp=>?_) (fun _ _ _ _ _ _ _ _ h=>h) (fun b hb=>hold b fun e=>?_) (fun _ _ h=>h) (fun b n _=>hcell b n) (fun b n hb=>Q.unp hb) (fun b hb=>(Q.at hb).1) (fun b hb=>(Q.at hb).2) (fun j p q hj hq hl hlab=>?_)
     · rcases get hj with ⟨rfl,rfl⟩ | ⟨_,hj⟩
       · rw [hm'] at hp; cases hp
       · exact hj
     · obtain ⟨cur,ty,f,h7⟩:=Q.cells hb
       rw [e,e1] at h7; cases h7
     · rcases get hj with ⟨rfl,rfl⟩ | ⟨_,hj⟩
       · rw [hl'] at hl; cases hl
       · exact Q.notLive hlab ⟨j,p,q,hj,hq,hl,rfl⟩
 · have B:=H.base
   refine ⟨B.os,B.tape,B.output,by simpa using B.size,fun b h1 h2 h3=>?_,B.sub,B.new,B.names,fun b n h=>(hcell b n).trans (B.cell b n h),B.csub,B.cnew⟩
   rw [hold b (fun e=>?_)]
   · exact B.old b h1 h2 h3
   · subst e
     rcases H.ext.mmine k o g hk hg hm with h | h
     · omega
     · exact h2 h
theorem X.garbage (H:X P ok E w0 mod γ0 Pr0 C0 nt ρ Pr γ C fr st a w) (hw:Grew w w'):Keep Pr Pr γ γ w w'∧X P ok E w0 mod γ0 Pr0 C0 nt ρ Pr γ C fr st a w':=by
 obtain ⟨K,A⟩:=H.core.garbage hw
 exact ⟨K,H.step A K (.refl _) rfl⟩
theorem X.name (H:X P ok E w0 mod γ0 Pr0 C0 nt ρ Pr γ C fr st a w) {o:O} {g:G} (hl:o.live=false) (hm:o.kind=.map) (hok:MapOk Pr (γ++[g]) w o g) (hnew:∀ (k:Nat) (p:O) q,st[k]? = some p→γ[k]? = some q→p.kind=.map→q.blk≠g.blk) (hb:w0.heap.size≤g.blk) (hC:¬ C g.blk) :
  X P ok E w0 mod γ0 Pr0 C0 nt ρ Pr (γ++[g]) C fr (st++[o]) a w:=by
 have K:Keep Pr Pr γ (γ++[g]) w w:=⟨fun _ _ h=>h,fun _ _ _=>rfl,fun k q h=>by rw [List.getElem?_append_left (List.getElem?_eq_some_iff.1 h).1]; exact h⟩
 have hgl:(γ++[g])[st.length]? = some g:=by rw [← H.st.len]; simp
 have get:∀ {j:Nat} {p:O} {q:G},(st++[o])[j]? = some p→(γ++[g])[j]? = some q→(j=st.length∧p=o∧q=g)∨(st[j]? = some p∧γ[j]? = some q):=by
  intro j p q hj hq
  by_cases hlt:j < st.length
  · rw [List.getElem?_append_left hlt] at hj
    rw [List.getElem?_append_left (by rw [H.st.len]; exact hlt)] at hq
    exact .inr ⟨hj,hq⟩
  · have:j=st.length:=by
     have:=(List.getElem?_eq_some_iff.1 hj).1
     simp at this; omega
    subst this
    rw [hgl] at hq; cases hq
    simp at hj
    exact .inl ⟨rfl,hj.symm,rfl⟩
 have D:=H.ext
 refine ⟨fun j p q hj hq hlv=>?_,?_,H.fr.keep K,⟨by simp [H.st.len],fun j p q hj hq hlv=>?_,fun i j p q r s hi hj hr hs h1 h2 he=>?_,H.st.low,H.st.laid⟩,?_⟩
 · rcases get hj hq with ⟨_,rfl,_⟩ | ⟨hj,hq⟩
   · rw [hl] at hlv; cases hlv
   · exact H.mine j p q hj hq hlv
 · refine ⟨D.clow,fun j p q hj hq h=>?_,D.prC,fun j p q hj hq h=>?_,fun i j p q r s hi hj hr hs h1 h2 he=>?_,fun j p q hj hq h=>?_,fun j p q hj hq h=>?_,fun i j p q hi hj h1 h2=>?_,D.marks,D.round,?_⟩
   · rcases get hj hq with ⟨_,rfl,rfl⟩ | ⟨hj,hq⟩
     · exact hC
     · exact D.apart j p q hj hq h
   · rcases get hj hq with ⟨_,rfl,rfl⟩ | ⟨hj,hq⟩
     · exact hok
     · exact (D.maps j p q hj hq h).keep K rfl
   · rcases get hi hr with ⟨a1,e1,e2⟩ | ⟨hi',hr'⟩ <;> rcases get hj hs with ⟨b1,e3,e4⟩ | ⟨hj',hs'⟩
     · omega
     · exact absurd (he.symm.trans (by rw [e2])) (hnew j q s hj' hs' h2)
     · exact absurd (he.trans (by rw [e4])) (hnew i p r hi' hr' h1)
     · exact D.mone i j p q r s hi' hj' hr' hs' h1 h2 he
   · rcases get hj hq with ⟨_,rfl,rfl⟩ | ⟨hj,hq⟩
     · exact .inl hb
     · exact D.mmine j p q hj hq h
   · rcases get hj hq with ⟨_,rfl,rfl⟩ | ⟨hj,hq⟩
     · rw [hm] at h; cases h
     · exact D.yld j p q hj hq h
   · have key:∀ {j:Nat} {p:O},(st++[o])[j]? = some p→p.kind=.yld→st[j]? = some p:=by
      intro j p hj hp
      by_cases hlt:j < st.length
      · rw [List.getElem?_append_left hlt] at hj; exact hj
      · have:j=st.length:=by
         have:=(List.getElem?_eq_some_iff.1 hj).1
         simp at this; omega
        subst this
        simp at hj; subst hj; rw [hm] at hp; cases hp
     exact D.yone i j p q (key hi h1) (key hj h2) h1 h2
   · have Q:=D.pools
     refine Q.move (fun k=>k) (fun j p hj hp=>?_) (fun _ _ _ _ _ _ _ _ h=>h) (fun b hb=>rfl) (fun _ _ h=>h) (fun b n _=>rfl) (fun b n hb=>Q.unp hb) (fun b hb=>(Q.at hb).1) (fun b hb=>(Q.at hb).2) (fun j p q hj hq hlv hlab=>?_)
     · by_cases hlt:j < st.length
       · rw [List.getElem?_append_left hlt] at hj; exact hj
       · have:j=st.length:=by
          have:=(List.getElem?_eq_some_iff.1 hj).1
          simp at this; omega
         subst this
         simp at hj; subst hj; rw [hm] at hp; cases hp
     · rcases get hj hq with ⟨_,rfl,_⟩ | ⟨hj,hq⟩
       · rw [hl] at hlv; cases hlv
       · exact Q.notLive hlab ⟨j,p,q,hj,hq,hlv,rfl⟩
 · rcases get hj hq with ⟨_,rfl,_⟩ | ⟨hj,hq⟩
   · rw [hl] at hlv; cases hlv
   · exact (H.st.obj j p q hj hq hlv).stepd (t:=none) ⟨K,fun _ _ _ _ _ _ _=>rfl,fun _ _ _ _ _ _ _ _ h=>h⟩ hj hq hlv (by simp)
 · rcases get hi hr with ⟨_,rfl,_⟩ | ⟨hi,hr⟩
   · rw [hl] at h1; cases h1
   · rcases get hj hs with ⟨_,rfl,_⟩ | ⟨hj,hs⟩
     · rw [hl] at h2; cases h2
     · exact H.st.one i j p q r s hi hj hr hs h1 h2 he
 · have B:=H.base
   exact ⟨B.os,B.tape,B.output,B.size,B.old,B.sub,B.new,fun k q h=>K.names k q (B.names k q h),B.cell,B.csub,B.cnew⟩
theorem aMakeMap_sound {τ:Tau} {t:TypeId} {K:V→St→Prop} (H:X P ok E w0 mod γ0 Pr0 C0 nt ρ Pr γ C fr st a w) (h:aMakeMap τ t st K) :
  ∃ v cv st' γ' w',K v st'∧X P ok E w0 mod γ0 Pr0 C0 nt ρ Pr γ' C fr st' a w'∧Rep Pr γ' w' v cv∧(Instr.makeMap t none).run P w=.ok cv w':=by
 unfold aMakeMap at h
 simp only [lenK0] at h
 split at h
 · split at h
   · rename_i ik _
     obtain ⟨K1,H1⟩:=H.garbage (grew_alloc w (.map #[] 0))
     have hblk:(w.alloc (.map #[] 0)).heap[w.heap.size]? = some (.map #[] 0):=World.alloc_heap_new _ _
     have H2:=H1.name (o:=⟨[],codeI ik,false,true,false,.map⟩) (g:=⟨w.heap.size,0,0,0,0⟩) rfl rfl
      ⟨rfl,by simp,rfl,#[],0,hblk,⟨rfl,fun i e m h=>by simp at h⟩,by simp,by simp⟩
      (fun k p q h1 h2 h3=>by
        obtain ⟨ents,clock,h4,_⟩:=(H.ext.maps k p q h1 h2 h3).ex
        have:=(Array.getElem?_eq_some_iff.1 h4).1
        simp only; omega) H.base.size (fun hc=>by have:=H.ext.clow _ hc; simp at this)
     refine ⟨_,.map (some w.heap.size),_,_,_,h,H2,?_,rfl⟩
     exact .map (g:=⟨w.heap.size,0,0,0,0⟩) (by rw [← H.st.len]; simp)
   · exact h.elim
 · exact h.elim
end Go.Cod
namespace Go.Cod
open Go
variable [Lam]
variable {P:Program} {ok:OkY} {E:Env P ok} {w0:World} {mod:Nat→Prop} {γ0:List G} {Pr0:Nat→Nat→Prop} {C0:Nat→Prop} {nt:Nat} {ρ:Option Nat}
 {Pr Pr':Nat→Nat→Prop} {γ γ':List G} {C:Nat→Prop} {fr fr':Nat→V} {st st':St} {a a':Act} {w w':World}
theorem X.lend (H:X P ok E w0 mod γ0 Pr0 C0 nt ρ Pr γ C fr st a w) (ks:List Nat):∃ Pr',Keep Pr Pr' γ γ w w∧X P ok E w0 mod γ0 Pr0 C0 nt ρ Pr' γ C fr (lend st ks) a w∧(∀ k∈ks,∀ es cv,liveEs st k=some es→Rep Pr γ w (.own k) cv→Rep Pr' γ w (.sl es) cv):=by
 obtain ⟨Pr',K,A,R⟩:=AR.lend ks H.core
 exact ⟨Pr',K,H.step A K (XSame.lend ks H.core) rfl,R⟩
omit [Lam] in
theorem key_clean {key:V} {k:Nat} (h:keyCode key=k) (h0:k≠0):key.clean 0=true:=by
 cases key <;> first
  | rfl
  | (exact absurd h.symm h0)
  | (rename_i cs; rcases pairCode_or cs with e | ⟨a,b,rfl⟩ <;> first | rfl | exact absurd ((show pairCode cs=k from h).symm.trans e) h0)
omit [Lam] in
theorem MapOk.add {Pr γ w} {o:O} {g:G} {key v:V} {ck cv:Value} {tk:Nat} {w1:World} {ents:Array MapEntry} {clock:Nat} (K:Keep Pr Pr γ γ w w1) (hcl:V.clean.cleanLL 0 o.es=true) (hky:∀ e∈o.es,keyCode (rowKey e)=o.wid) (hbx:o.box=false)
  (hM:MEnts Pr γ w o.es ents.toList) (hb1:∀ (i:Nat) m,ents[i]? = some m→m.born < clock) (hb2:∀ (i j:Nat) m m',i < j→ents[i]? = some m→ents[j]? = some m'→m.born < m'.born)
  (hc:keyCode key=tk) (h0:tk≠0) (hw:o.wid=tk) (hv0:v.clean 0=true) (hk:Rep Pr γ w key ck) (hv:Rep Pr γ w v cv)
  (hh:w1.heap[g.blk]? = some (.map (ents.push { key:=ck,val:=cv,born:=clock }) (clock+1))) :
  MapOk Pr γ w1 { o with es:=o.es++[[key,v]] } g:=by
 have hlen:o.es.length=ents.size:=by simpa using hM.1
 refine ⟨?_,fun e he=>?_,hbx,_,_,hh,⟨by simp [hlen],fun i e m h1 h2=>?_⟩,fun i m h=>?_,fun i j m m' hij h1 h2=>?_⟩
 · rw [cleanLL_iff] at hcl ⊢
   intro e he
   rcases List.mem_append.1 he with he | he
   · exact hcl e he
   · simp at he; subst he
     simp [V.clean.cleanL,key_clean hc h0,hv0]
 · rcases List.mem_append.1 he with he | he
   · exact hky e he
   · simp at he; subst he
     simpa [rowKey,hw] using hc
 · simp only at h1
   by_cases hi:i < o.es.length
   · rw [List.getElem?_append_left hi] at h1
     rw [Array.toList_push,List.getElem?_append_left (by simpa [← hlen] using hi)] at h2
     obtain ⟨kx,vx,q1,q2,q3⟩:=hM.2 i e m h1 h2
     exact ⟨kx,vx,q1,q2.keep K,q3.keep K⟩
   · have:i=o.es.length:=by
      have:=(List.getElem?_eq_some_iff.1 h1).1
      simp at this; omega
     subst this
     simp at h1
     rw [Array.toList_push,List.getElem?_append_right (by simp [hlen])] at h2
     simp [hlen] at h2
     subst h1; subst h2
     exact ⟨key,v,rfl,hk.keep K,hv.keep K⟩
 · rw [Array.getElem?_push] at h
   split at h
   · cases h; simp
   · have:=hb1 i m h; omega
 · rw [Array.getElem?_push] at h1 h2
   split at h2
   · rename_i e2
     split at h1
     · omega
     · cases h2; exact hb1 i m h1
   · rename_i e2
     split at h1
     · have:=(Array.getElem?_eq_some_iff.1 h2).1; omega
     · exact hb2 i j m m' hij h1 h2
omit [Lam] in
theorem MapOk.put {Pr γ w} {o:O} {g:G} {key v:V} {ck cv:Value} {tk:Nat} {w1:World} {ents:Array MapEntry} {clock j:Nat} (K:Keep Pr Pr γ γ w w1) (hcl:V.clean.cleanLL 0 o.es=true) (hky:∀ e∈o.es,keyCode (rowKey e)=o.wid) (hbx:o.box=false)
  (hM:MEnts Pr γ w o.es ents.toList) (hb1:∀ (i:Nat) m,ents[i]? = some m→m.born < clock) (hb2:∀ (i j:Nat) m m',i < j→ents[i]? = some m→ents[j]? = some m'→m.born < m'.born)
  (hc:keyCode key=tk) (h0:tk≠0) (hw:o.wid=tk) (hv0:v.clean 0=true) (hk:Rep Pr γ w key ck) (hv:Rep Pr γ w v cv)
  (hh:w1.heap[g.blk]? = some (.map (ents.modify j fun e=>{ e with key:=ck,val:=cv }) clock)) :
  MapOk Pr γ w1 { o with es:=o.es.set j [key,v] } g:=by
 have hlen:o.es.length=ents.size:=by simpa using hM.1
 refine ⟨?_,fun e he=>?_,hbx,_,_,hh,⟨by simp [hlen],fun i e m h1 h2=>?_⟩,fun i m h=>?_,fun i l m m' hij h1 h2=>?_⟩
 · rw [cleanLL_iff] at hcl ⊢
   intro e he
   rcases List.mem_or_eq_of_mem_set he with he | rfl
   · exact hcl e he
   · simp [V.clean.cleanL,key_clean hc h0,hv0]
 · rcases List.mem_or_eq_of_mem_set he with he | rfl
   · exact hky e he
   · simpa [rowKey,hw] using hc
 · simp only [List.getElem?_set] at h1
   rw [Array.getElem?_toList,Array.getElem?_modify] at h2
   by_cases e1:j=i
   · subst e1
     rw [if_pos rfl] at h1 h2
     split at h1
     · cases h1
       simp only [Option.map_eq_some_iff] at h2
       obtain ⟨m0,_,rfl⟩:=h2
       exact ⟨key,v,rfl,hk.keep K,hv.keep K⟩
     · cases h1
   · rw [if_neg e1] at h1 h2
     obtain ⟨kx,vx,q1,q2,q3⟩:=hM.2 i e m h1 (by simpa using h2)
     exact ⟨kx,vx,q1,q2.keep K,q3.keep K⟩
 · rw [Array.getElem?_modify] at h
   split at h
   · simp only [Option.map_eq_some_iff] at h
     obtain ⟨m0,h3,rfl⟩:=h
     exact hb1 i m0 h3
   · exact hb1 i m h
 · have key:∀ (i:Nat) m,(ents.modify j fun e=>{ e with key:=ck,val:=cv })[i]? = some m→∃ m0,ents[i]? = some m0∧m0.born=m.born:=by
    intro i m h
    rw [Array.getElem?_modify] at h
    split at h
    · simp only [Option.map_eq_some_iff] at h
      obtain ⟨m0,h3,rfl⟩:=h
      exact ⟨m0,h3,rfl⟩
    · exact ⟨m,h,rfl⟩
   obtain ⟨m0,a1,a2⟩:=key i m h1
   obtain ⟨m1,b1,b2⟩:=key l m' h2
   rw [← a2,← b2]; exact hb2 i l m0 m1 hij a1 b1
theorem aMapUpdate_sound {τ:Tau} (hτ:TauOk P τ) {t:TypeId} {m key v:V} {K:St→Prop} (H:X P ok E w0 mod γ0 Pr0 C0 nt ρ Pr γ C fr st a w) {cm ck cv:Value} (h:aMapUpdate τ t m key v st K)
  (hm:Rep Pr γ w m cm) (hk:Rep Pr γ w key ck) (hv:Rep Pr γ w v cv) :
  ∃ st' Pr' w',K st'∧X P ok E w0 mod γ0 Pr0 C0 nt ρ Pr' γ C fr st' a w'∧(Instr.mapUpdate t cm ck cv).run P w=.ok () w':=by
 unfold aMapUpdate at h
 split at h
 · rename_i tk te k hkd
   split at h
   · rename_i o ik ho hik
     obtain ⟨hc,h⟩:=Chk_iff.1 h
     simp only [Bool.and_eq_true,decide_eq_true_eq] at hc
     obtain ⟨⟨⟨⟨c1,c2⟩,c3⟩,c4⟩,c5⟩:=hc
     obtain ⟨Pr1,K1,H1,R⟩:=H.lend (owns v)
     have hv1:=share_rep K1 v cv R hv
     have hk1:=hk.keep K1
     have ho1:(lend st (owns v))[k]? = some o:=(XSame.lend (owns v) H.core).to k o ho (by rw [c1]; simp)
     cases hm with
     | map hg =>
     rename_i g
     have M:=H1.ext.maps k o g ho1 hg c1
     obtain ⟨ents,clock,e1,e2,e3,e4⟩:=M.ex
     obtain ⟨q1,hq⟩:=key_sound (v:=share st v) (hτ _ _ hik) c3 c2 hk1 e2 (fun e he=>by rw [M.ky e he,c4]) false
     have hu:=kind_map hτ hkd
     have hgo:(getObj g.blk).run P w=.ok (.map ents clock) w:=by simp [getObj,e1,Sem.run]
     have hset:∀ ob:Obj,(setObj g.blk ob).run P w=.ok () (w.putObj g.blk ob):=fun ob=>by simp [setObj,Sem.run,e1,World.putObj]
     rcases hq with ⟨a1,hf,a3⟩ | ⟨j,e,me,a1,a2,f1,hf,f3,f4⟩
     · rw [a3] at h
       refine ⟨_,Pr1,_,h,H1.putMap ho1 hg c1 (o':={ o with es:=o.es++[[key,share st v]] }) c1 (show o.live=false from map_dead H ho c1) (ents:=ents.push { key:=ck,val:=cv,born:=clock }) (clock:=clock+1) (fun w1 K2 hh=>MapOk.add K2 M.cl M.ky M.bx e2 e3 e4 c2 c3 c4 c5 hk1 hv1 hh),?_⟩
       simp only [Instr.mapUpdate,Sem.run_bind,run_underlying hu,Result.andThen_ok,hgo,q1,hf,hset]
     · rw [f3] at h
       have hj:ents[0+j]? = some me:=by simpa using a2
       have hst:(Instr.keyThatStays me.key ck).run P w=.ok ck w:=by simp [Instr.keyThatStays,f4]
       refine ⟨_,Pr1,_,h,H1.putMap ho1 hg c1 (o':={ o with es:=o.es.set j [key,share st v] }) c1 (show o.live=false from map_dead H ho c1) (ents:=ents.modify (0+j) fun e=>{ e with key:=ck,val:=cv }) (clock:=clock) (fun w1 K2 hh=>MapOk.put K2 M.cl M.ky M.bx e2 e3 e4 c2 c3 c4 c5 hk1 hv1 (by simpa using hh)),?_⟩
       simp only [Instr.mapUpdate,Sem.run_bind,run_underlying hu,Result.andThen_ok,hgo,q1,hf,hj,Option.map_some,Option.getD_some,hst,hset]
   · exact h.elim
 · exact h.elim
end Go.Cod
namespace Go.Cod
open Go
variable [Lam]
omit [Lam] in
theorem aMakeIface_sound {P:Program} {τ:Tau} (hτ:TauOk P τ) {t:TypeId} {x:V} {K:V→Prop} {Pr γ w} {cx:Value} (h:aMakeIface τ t x K) (hx:Rep Pr γ w x cx) :
  ∃ v cv,K v∧Rep Pr γ w v cv∧(Instr.makeInterface t cx).run P w=.ok cv w:=by
 unfold aMakeIface at h
 split at h
 · exact h.elim
 · rename_i k hk hkd
   obtain ⟨ti,hti,rfl⟩:=kindOf_some hkd
   have ht:=(hτ _ _ hti).kind
   refine ⟨_,.iface t cx,h,.iface hx,?_⟩
   cases e:ti.kind <;> rw [e] at ht <;> simp only at ht
   · simp [Instr.makeInterface,run_underlying ht]
   · simp [Instr.makeInterface,run_underlying ht]
   · simp [Instr.makeInterface,run_underlying ht]
   · simp [Instr.makeInterface,run_underlying ht]
   · rcases ht with ⟨fs,ht⟩ | ⟨n,e,ht⟩ <;> simp [Instr.makeInterface,run_underlying ht]
   · simp [Instr.makeInterface,run_underlying ht]
   · exact (hk (by rw [e])).elim
   · obtain ⟨e',ht⟩:=ht; simp [Instr.makeInterface,run_underlying ht]
   · obtain ⟨d,ht,_,_,h3⟩:=ht
     simp only [Instr.makeInterface,Sem.run_bind,run_underlying ht,Result.andThen_ok]
     cases d <;> first | rfl | exact absurd rfl (h3 _)
 · exact h.elim
omit [Lam] in
theorem notIface {P:Program} {t:TypeId} {ti:TI} (h:TIok P t ti) (hk:ti.kind≠.iface):∃ d,P.underlying t=some d∧∀ ms,d≠.interface ms:=by
 have ht:=h.kind
 cases e:ti.kind <;> rw [e] at ht hk <;> simp only at ht
 · exact ⟨_,ht,by simp⟩
 · exact ⟨_,ht,by simp⟩
 · exact ⟨_,ht,by simp⟩
 · exact ⟨_,ht,by simp⟩
 · rcases ht with ⟨fs,ht⟩ | ⟨n,e,ht⟩ <;> exact ⟨_,ht,by simp⟩
 · exact ⟨_,ht,by simp⟩
 · exact absurd rfl hk
 · obtain ⟨e',ht⟩:=ht; exact ⟨_,ht,by simp⟩
 · obtain ⟨d,ht,_,_,h3⟩:=ht; exact ⟨d,ht,h3⟩
omit [Lam] in
theorem aAssert_sound {P:Program} {τ:Tau} (hτ:TauOk P τ) {t xt:TypeId} {c:Bool} {x:V} {K:V→Prop} {Pr γ w} {cx:Value} (h:aAssert τ t c x K) (hx:Rep Pr γ w x cx) :
  ∃ v cv,K v∧Rep Pr γ w v cv∧(Instr.typeAssert cx xt t c).run P w=.ok cv w:=by
 unfold aAssert at h
 split at h
 · rename_i ti hti
   split at h
   · exact h.elim
   · rename_i hk
     obtain ⟨d,hu,hd⟩:=notIface (hτ _ _ hti) (by intro e; exact hk e)
     obtain ⟨z,z1,z2⟩:=(hτ _ _ hti).zeroRun Pr γ w
     split at h
     · rename_i dt v
       cases hx with
       | iface hv =>
       rename_i u
       split at h
       · rename_i hdt
         have:=of_decide_eq_true hdt; subst this
         have run:(Instr.typeAssert (.iface dt u) xt dt c).run P w=.ok (if c then .tuple #[u,.bool true] else u) w:=by
          simp only [Instr.typeAssert,Sem.run_bind,run_underlying hu,Result.andThen_ok]
          cases d <;> first | (exact absurd rfl (hd _)) | simp
         cases c
         · exact ⟨_,u,h,hv,run⟩
         · exact ⟨_,_,h,tup2 hv (.bool true),run⟩
       · rename_i hdt
         have hne:¬ dt=t:=of_decide_eq_false hdt
         obtain ⟨hc,h⟩:=Chk_iff.1 h
         subst hc
         refine ⟨_,_,h,tup2 z2 (.bool false),?_⟩
         simp only [Instr.typeAssert,Sem.run_bind,run_underlying hu,Result.andThen_ok]
         cases d <;> first | (exact absurd rfl (hd _)) | simp [hne,z1]
     · obtain ⟨hc,h⟩:=Chk_iff.1 h
       subst hc
       cases hx
       refine ⟨_,_,h,tup2 z2 (.bool false),?_⟩
       simp only [Instr.typeAssert,Sem.run_bind,run_underlying hu,Result.andThen_ok]
       cases d <;> first | (exact absurd rfl (hd _)) | simp [z1]
     · exact h.elim
 · exact h.elim
omit [Lam] in
theorem run_method {P:Program} {τ:Tau} (hτ:TauOk P τ) {t:TypeId} {name:String} {f:FuncId} (h:methOf τ t name=some f) (v:Value) (w:World) (n:Nat):(method (n+1) t v name).run P w=.ok (f,v) w:=by
 obtain ⟨ti,hti,hm⟩:=Option.bind_eq_some_iff.1 h
 obtain ⟨i,m,pr,h1,h2,h3,h4,h5⟩:=(hτ _ _ hti).meths name f hm
 unfold method
 have hf:(typeInfo t).run P w=.ok i w:=by simp [typeInfo,h1]
 rcases h5 with ⟨rfl,e,hu⟩ | ⟨rfl,d,hu,hd⟩
 · simp [Sem.run_bind,hf,h2,h3,h4,follow,receiverAt,run_underlying hu,Place.get]
 · simp only [Sem.run_bind,hf,Result.andThen_ok,h2,h3,h4,follow,receiverAt,run_underlying hu,Place.get,Sem.run_pure]
def fen (ρ:Option Nat):Fence:={ Fence.wide with round:=ρ }
omit [Lam] in
theorem callsIn_fen {ρ:Option Nat} {n:Nat} {P:Program} {f:FuncId} {args:Array Value} {w:World} {R:Ending→World→Prop}:CallsIn (fen ρ) n P f args w R↔Calls P f args w R:=callsIn_wide
omit [Lam] in
theorem roundIn_fen {ρ:Option Nat} {n:Nat} {P:Program} {l:Nat} {f:FuncId} {tmps:Array Value} {assign body:Code} {w:World} {R:Ending→World→Prop} (h:RoundIn Fence.wide n P l f tmps assign body w R):RoundIn (fen ρ) n P l f tmps assign body w R:=h
variable {P:Program} {ok:OkY} {E:Env P ok} {w0:World} {mod:Nat→Prop} {γ0:List G} {Pr0:Nat→Nat→Prop} {C0:Nat→Prop} {nt:Nat} {ρ:Option Nat}
 {Pr Pr':Nat→Nat→Prop} {γ γ':List G} {C:Nat→Prop} {fr fr':Nat→V} {st st':St} {a a':Act} {w w':World}
theorem StOk.nil {Pr γ w st} (S:StOk Pr γ w st):StOk Pr [] w []:=⟨rfl,fun k o g h=>by simp at h,fun k k' o o' g g' h=>by simp at h,S.low,S.laid⟩
omit [Lam] in
theorem Ext.nil (ds0:World) (mod0:Nat→Prop) (Pr:Nat→Nat→Prop) (w:World):Ext P noY (Env.none P noY) ds0 mod0 (fun _=>False) none Pr [] [] [] w where
 clow:=fun b h=>h.elim
 apart:=fun k o g h=>by simp at h
 prC:=fun b n _=>.inl trivial
 maps:=fun k o g h=>by simp at h
 mone:=fun k k' o o' g g' h=>by simp at h
 mmine:=fun k o g h=>by simp at h
 yld:=fun k o g h=>by simp at h
 yone:=fun k k' o o' h=>by simp at h
 marks:=⟨[],rfl,by simp,by simp⟩
 round:=fun l h=>by cases h
 pools:=Pools.none fun k o h=>by simp at h
theorem Pure.at {f:FuncId} {args:List V} {R:V→Prop} (h:Pure P f args R) (H:X P ok E w0 mod γ0 Pr0 C0 nt ρ Pr γ C fr st a w) {cargs:List Value} (hr:RepL Pr [] w args cargs) :
  Calls P f cargs.toArray w fun e w'=>∃ v cv Pr',e=.returned cv∧R v∧Keep Pr Pr' γ γ w w'∧X P ok E w0 mod γ0 Pr0 C0 nt ρ Pr' γ C fr st a w'∧Rep Pr' γ w' v cv:=by
 refine (h.2 (Env.none P noY) (fun _=>False) Pr [] w cargs hr H.st.nil (Ext.nil _ _ _ _)).mono fun e w' hh=>?_
 obtain ⟨o,st',γ',Pr',C',hrep,⟨rfl,r,rfl,hR⟩,hst,hmine,hext,B⟩:=hh
 cases hrep with
 | ret hv =>
 rename_i cv
 have hγ:γ'=[]:=by have:=hst.len; simpa using this
 subst hγ
 have nomod:∀ b,¬ modOf [] [] b:=fun b ⟨k,o,h1,_⟩=>by simp at h1
 have hold:∀ b,b < w.heap.size→w'.heap[b]? = w.heap[b]? := fun b hb=>B.old b hb (nomod b) (fun h=>h)
 have K:Keep Pr Pr' γ γ w w':=⟨B.sub,fun b n h=>cell_of_block (hold b (H.st.low b n h)) n,fun _ _ h=>h⟩
 have A0:=H.core
 have hnew:∀ b n,Pr' b n→Pr b n∨w.heap.size≤b:=fun b n h=>by
  rcases B.new b n h with h | h | h
  · exact .inl h
  · exact .inr h
  · exact absurd h (nomod b)
 have A:AR w (liveMod st γ) γ Pr nt Pr' γ fr st a w':=by
  refine ⟨A0.mine,A0.fr.keep K,A0.st.still ⟨K,fun k o g h1 h2 h3 _=>hold _ ((H.st.obj k o g h1 h2 h3).lt),fun k o g n h1 h2 h3 _ hp=>?_⟩ hst.low,⟨B.os,B.tape,B.output,B.size,fun b h1 _=>hold b h1,B.sub,fun b n h=>?_,fun _ _ h=>h⟩⟩
  · rcases hnew _ _ hp with h | h
    · exact h
    · have:=(H.st.obj k o g h1 h2 h3).lt; omega
  · rcases hnew b n h with h | h
    · exact .inl h
    · exact .inr (.inl h)
 exact ⟨r,cv,Pr',rfl,hR,K,H.step A K (.refl _) rfl,hv.names (n:=0) (fun k hk=>absurd hk (Nat.not_lt_zero _)) hv.clean0⟩
theorem aYield_sound {k:Nat} {vs:List V} {K:V→St→Prop} (H:X P ok E w0 mod γ0 Pr0 C0 nt ρ Pr γ C fr st a w) {l:Nat} {cargs:List Value} (h:aYield ok k vs st K) (hk:Rep Pr γ w (.yld k) (.func (.yield l) #[] #[])) (hr:RepL Pr γ w vs cargs) :
  YieldAt Fence.wide 0 P l cargs.toArray w fun e w'=>∃ v cv st' Pr' C',e=.returned cv∧K v st'∧X P ok E w0 mod γ0 Pr0 C0 nt ρ Pr' γ C' fr st' a w'∧Rep Pr' γ w' v cv:=by
 unfold aYield at h
 split at h
 · rename_i o ho
   obtain ⟨hc,hok,hK⟩:=Chk_iff.1 h
   simp only [Bool.and_eq_true,decide_eq_true_eq] at hc
   obtain ⟨⟨c1,c2⟩,c3⟩:=hc
   cases hk with
   | yld hg =>
   rename_i g
   obtain ⟨Pr1,K1,H1,R⟩:=H.lend (owns.go vs)
   have ho1:(lend st (owns.go vs))[k]? = some o:=(XSame.lend _ H.core).to k o ho (by rw [c1]; simp)
   have hr1:=shareL_rep K1 vs cargs R hr
   have hr0:RepL Pr1 [] w (share.go st vs) cargs:=⟨hr1.1,fun i x u p q=>(hr1.2 i x u p q).names (n:=0) (fun k hk=>absurd hk (Nat.not_lt_zero _)) (cleanL_iff.1 c3 x (List.mem_of_getElem? p))⟩
   obtain ⟨y1,y0,y2⟩:=H1.ext.yld k o g ho1 hg c1
   rw [c2] at y2
   have hcall:=E.call y2 H1.ext.prC H1.st.low hr0 hok
   rw [← y1] at hcall
   obtain ⟨fn,tmps,assign,body,q1,q2⟩:=hcall
   refine ⟨fn,tmps,assign,body,q1,q2.mono fun e w' hh=>?_⟩
   obtain ⟨b,C',rfl,hI,F⟩:=hh
   have K2:Keep Pr1 Pr1 γ γ w w':=⟨fun _ _ h=>h,F.cell,fun _ _ h=>h⟩
   have hklt:k < (lend st (owns.go vs)).length:=(List.getElem?_eq_some_iff.1 ho1).1
   have hdead:o.live=false:=by
    cases hl:o.live with
    | false=>rfl
    | true=>have:=live_kind H.st ho hl; rw [c1] at this; cases this
   generalize hst1:lend st (owns.go vs)=st1 at *
   have hblk:∀ {j:Nat} {p:O} {q:G},st1[j]? = some p→γ[j]? = some q→p.own=true→w'.heap[q.blk]? = w.heap[q.blk]? := by
    intro j p q h1 h2 h3
    have h4:=H1.ext.apart j p q h1 h2 h3
    refine F.old _ ?_ h4
    simp only [O.own,Bool.or_eq_true,decide_eq_true_eq] at h3
    rcases h3 with h3 | h3
    · exact (H1.st.obj j p q h1 h2 h3).lt
    · obtain ⟨ents,clock,h5,_⟩:=(H1.ext.maps j p q h1 h2 h3).ex
      exact (Array.getElem?_eq_some_iff.1 h5).1
   let o':O:={ o with es:=o.es++[share.go st vs],excl:=b }
   have get:∀ {j:Nat} {p:O},(st1.set k o')[j]? = some p→(j=k∧p=o')∨(j≠k∧st1[j]? = some p):=by
    intro j p hj
    rw [List.getElem?_set] at hj
    by_cases e:k=j
    · subst e; simp [hklt] at hj; exact .inl ⟨rfl,hj.symm⟩
    · rw [if_neg e] at hj; exact .inr ⟨Ne.symm e,hj⟩
   have ho'k:o'.kind=.yld:=c1
   have ho'own:o'.own=false:=by simp [O.own,o',hdead,c1]
   have D:=H1.ext
   have B:=H1.base
   refine ⟨_,_,_,Pr1,C',rfl,hK b,⟨fun j p q hj hq hl=>?_,?_,H1.fr.keep K2,?_,?_⟩,.bool b⟩
   · rcases get hj with ⟨rfl,rfl⟩ | ⟨_,hj⟩
     · rw [show o'.live=o.live from rfl,hdead] at hl; cases hl
     · exact H1.mine j p q hj hq hl
   · refine ⟨E.low hI,fun j p q hj hq h=>?_,fun b n h=>?_,fun j p q hj hq h=>?_,fun i j p q r s hi hj hr hs h1 h2 he=>?_,fun j p q hj hq h=>?_,fun j p q hj hq h=>?_,fun i j p q hi hj h1 h2=>?_,?_,fun l hl=>?_,?_⟩
     · rcases get hj with ⟨rfl,rfl⟩ | ⟨_,hj⟩
       · rw [ho'own] at h; cases h
       · intro hc
         rcases F.new _ hc with h5 | h5
         · exact D.apart j p q hj hq h h5
         · simp only [O.own,Bool.or_eq_true,decide_eq_true_eq] at h
           rcases h with h3 | h3
           · have:=(H1.st.obj j p q hj hq h3).lt; omega
           · obtain ⟨ents,clock,h5',_⟩:=(D.maps j p q hj hq h3).ex
             have:=(Array.getElem?_eq_some_iff.1 h5').1; omega
     · rcases D.prC b n h with h5 | h5
       · exact .inl h5
       · right; intro hc
         rcases F.new _ hc with h6 | h6
         · exact h5 h6
         · have:=H1.st.low b n h; omega
     · rcases get hj with ⟨rfl,rfl⟩ | ⟨_,hj⟩
       · rw [ho'k] at h; cases h
       · exact (D.maps j p q hj hq h).keep K2 (hblk hj hq (by simp [O.own,h]))
     · rcases get hi with ⟨_,e1⟩ | ⟨_,hi'⟩
       · rw [e1,ho'k] at h1; cases h1
       · rcases get hj with ⟨_,e1⟩ | ⟨_,hj'⟩
         · rw [e1,ho'k] at h2; cases h2
         · exact D.mone i j p q r s hi' hj' hr hs h1 h2 he
     · rcases get hj with ⟨rfl,rfl⟩ | ⟨_,hj⟩
       · rw [ho'k] at h; cases h
       · exact D.mmine j p q hj hq h
     · rcases get hj with ⟨rfl,rfl⟩ | ⟨hne,hj⟩
       · rw [hg] at hq; cases hq; exact ⟨y1,y0,hI⟩
       · exact absurd (D.yone j k p o hj ho1 h c1) hne
     · have key:∀ {j:Nat} {p:O},(st1.set k o')[j]? = some p→p.kind=.yld→j=k:=by
        intro j p hj hp
        rcases get hj with ⟨rfl,_⟩ | ⟨_,hj⟩
        · rfl
        · exact D.yone j k p o hj ho1 hp c1
       rw [key hi h1,key hj h2]
     · obtain ⟨rs,m1,m2,m3⟩:=D.marks
       refine ⟨rs,m1,m2,fun r hr=>?_⟩
       obtain ⟨m4,m5,m6⟩:=m3 r hr
       have hlt:=(Array.getElem?_eq_some_iff.1 m4).1
       refine ⟨by rw [F.old r hlt m5]; exact m4,fun hc=>?_,m6⟩
       rcases F.new _ hc with h6 | h6
       · exact m5 h6
       · omega
     · obtain ⟨l0,L,l1,l2⟩:=D.round l hl
       have hlt:=(Array.getElem?_eq_some_iff.1 l1).1
       refine ⟨l0,L,by rw [F.old l hlt l2]; exact l1,fun hc=>?_⟩
       rcases F.new _ hc with h6 | h6
       · exact l2 h6
       · omega
     · have Q:=D.pools
       refine Q.move (fun k=>k) (fun j p hj hp=>?_) (fun _ _ _ _ _ _ _ _ h=>h) (fun b hb=>F.old b (Q.lt hb) (Q.at hb).1) (fun _ _ h=>h) F.cell (fun b n hb=>Q.unp hb) (fun b hb hc=>?_) (fun b hb=>(Q.at hb).2) (fun j p q hj hq hl hlab=>?_)
       · rcases get hj with ⟨rfl,rfl⟩ | ⟨_,hj⟩
         · rw [ho'k] at hp; cases hp
         · exact hj
       · rcases F.new b hc with h | h
         · exact (Q.at hb).1 h
         · have:=Q.lt hb; omega
       · rcases get hj with ⟨rfl,rfl⟩ | ⟨_,hj⟩
         · rw [show o'.live=o.live from rfl,hdead] at hl; cases hl
         · exact Q.notLive hlab ⟨j,p,q,hj,hq,hl,rfl⟩
   · have hS:StOk Pr1 γ w' st1:=H1.st.still ⟨K2,fun j p q h1 h2 h3 _=>hblk h1 h2 (by simp [O.own,h3]),fun _ _ _ _ _ _ _ _ h=>h⟩ (fun b n h=>Nat.lt_of_lt_of_le (H1.st.low b n h) F.size)
     exact hS.setDead ho1 hdead (by exact hdead)
   · refine ⟨F.os.trans B.os,F.tape.trans B.tape,F.output.trans B.output,Nat.le_trans B.size F.size,fun b h1 h2 h3=>?_,B.sub,B.new,B.names,fun b n h=>(F.cell b n (B.sub b n h)).trans (B.cell b n h),fun b h=>F.sub b (B.csub b h),fun b h=>?_⟩
     · rw [F.old b (Nat.lt_of_lt_of_le h1 B.size) (fun hc=>?_)]
       · exact B.old b h1 h2 h3
       · rcases B.cnew b hc with h | h
         · exact h3 h
         · omega
     · rcases F.new b h with h | h
       · exact B.cnew b h
       · exact .inr (Nat.le_trans B.size h)
 · exact h.elim
end Go.Cod
namespace Go.Cod
open Go
variable [Lam]
omit [Lam] in
theorem under_mem {n:Nat}:∀ {cs:List V},V.under.underL n cs=true→∀ x∈cs,x.under n=true
 | [],_,x,h=>by simp at h
 | y::ys,h,x,hx=>by
   simp only [V.under.underL,Bool.and_eq_true] at h
   rcases List.mem_cons.1 hx with rfl | hx
   · exact h.1
   · exact under_mem h.2 x hx
omit [Lam] in
theorem underLL_mem {n:Nat}:∀ {es:List (List V)},V.under.underLL n es=true→∀ e∈es,V.under.underL n e=true
 | [],_,x,h=>by simp at h
 | y::ys,h,x,hx=>by
   simp only [V.under.underLL,Bool.and_eq_true] at h
   rcases List.mem_cons.1 hx with rfl | hx
   · exact h.1
   · exact underLL_mem h.2 x hx
omit [Lam] in
theorem mapNL_eq (f:Nat→Nat) (cs:List V):V.mapN.go f cs=cs.map (V.mapN f):=by
 induction cs with
 | nil=>rfl
 | cons x xs ih=>simp [V.mapN.go,ih]
omit [Lam] in
theorem mapRows_eq (f:Nat→Nat) (es:List (List V)):mapRows f es=es.map (V.mapN.go f):=by
 induction es with
 | nil=>rfl
 | cons x xs ih=>simp [mapRows,ih]
omit [Lam] in
theorem mapN_leaf (f:Nat→Nat) (x:V):(x.mapN f).leaf=x.leaf:=by
 cases x <;> rfl
omit [Lam] in
theorem shrL_eq (σ kn st) (cs:List V):shr.go σ kn st cs=cs.map (shr σ kn st):=by
 induction cs with
 | nil=>rfl
 | cons x xs ih=>simp [shr.go,ih]
omit [Lam] in
theorem shrRows_eq (σ kn st) (es:List (List V)):shrRows σ kn st es=es.map (shr.go σ kn st):=by
 induction es with
 | nil=>rfl
 | cons x xs ih=>simp [shrRows,ih]
omit [Lam] in
theorem shr_leaf (σ kn st) (x:V):(shr σ kn st x).leaf=x.leaf:=by
 cases x with
 | own k=>simp only [shr]; split <;> first | rfl | exact shareOwn_leaf _ _
 | nils=>cases kn <;> rfl
 | _=>rfl
omit [Lam] in
theorem Rep.mapN {Pr γ w} {γ':List G} {f:Nat→Nat} (hf:∀ k g,γ[k]? = some g→γ'[f k]? = some g) {x:V} {u:Value} (h:Rep Pr γ w x u):Rep Pr γ' w (x.mapN f) u:=by
 induction h with
 | bool b=>exact .bool b
 | int k n=>exact .int k n
 | str s=>exact .str s
 | agg hl _ ih =>
   simp only [V.mapN,mapNL_eq]
   refine .agg (by simpa using hl) fun i x u a b=>?_
   rw [List.getElem?_map,Option.map_eq_some_iff] at a
   obtain ⟨y,hy,rfl⟩:=a
   exact ih i y u hy b
 | tup hl _ ih =>
   simp only [V.mapN,mapNL_eq]
   refine .tup (by simpa using hl) fun i x u a b=>?_
   rw [List.getElem?_map,Option.map_eq_some_iff] at a
   obtain ⟨y,hy,rfl⟩:=a
   exact ih i y u hy b
 | nils a=>exact .nils a
 | sl0 a cap=>exact .sl0 a cap
 | sl u hcl hn hc hlf hm hr _ =>
   exact .sl u hcl hn hc hlf hm fun i e j x a b=>(hr i e j x a b).names (n:=0) (fun k hk=>absurd hk (Nat.not_lt_zero _)) (V.cleanL_mem (V.cleanLL_mem hcl e (List.mem_of_getElem? a)) x (List.mem_of_getElem? b))
 | own h=>exact .own (hf _ _ h)
 | ptr h=>exact .ptr (hf _ _ h)
 | win h=>exact .win (hf _ _ h)
 | cptr h=>exact .cptr (hf _ _ h)
 | map h=>exact .map (hf _ _ h)
 | yld h=>exact .yld (hf _ _ h)
 | iface _ ih=>exact .iface ih
 | meth _ ih=>exact .meth ih
 | bnd _ ih=>exact .bnd ih
 | rptr u hlf hm _ ih =>
   simp only [V.mapN,mapNL_eq]
   refine .rptr u (fun x hx=>?_) (fun j x a=>?_) fun j x a=>?_
   · obtain ⟨y,hy,rfl⟩:=List.mem_map.1 hx
     rw [mapN_leaf]; exact hlf y hy
   · rw [List.getElem?_map,Option.map_eq_some_iff] at a
     obtain ⟨y,hy,rfl⟩:=a
     exact hm j y hy
   · rw [List.getElem?_map,Option.map_eq_some_iff] at a
     obtain ⟨y,hy,rfl⟩:=a
     exact ih j y hy
 | fn hl _ ih =>
   simp only [V.mapN,mapNL_eq]
   refine .fn (by simpa using hl) fun i x u a b=>?_
   rw [List.getElem?_map,Option.map_eq_some_iff] at a
   obtain ⟨y,hy,rfl⟩:=a
   exact ih i y u hy b
 | raw v=>exact .raw v
 | any h=>exact .any h
 | dref b n c=>exact .dref b n c
 | dptr b n c d=>exact .dptr b n c d
omit [Lam] in
theorem Rep.mapNu {Pr γ w} {γ':List G} {f:Nat→Nat} {n:Nat} (hf:∀ k g,f k < n→γ[k]? = some g→γ'[f k]? = some g) {x:V} {u:Value} (h:Rep Pr γ w x u) (hu:(x.mapN f).under n=true):Rep Pr γ' w (x.mapN f) u:=by
 induction h with
 | bool b=>exact .bool b
 | int k n=>exact .int k n
 | str s=>exact .str s
 | agg hl _ ih =>
   simp only [V.mapN,mapNL_eq,V.under] at hu ⊢
   refine .agg (by simpa using hl) fun i x u a b=>?_
   have hx:=under_mem hu x (List.mem_of_getElem? a)
   rw [List.getElem?_map,Option.map_eq_some_iff] at a
   obtain ⟨y,hy,rfl⟩:=a
   exact ih i y u hy b hx
 | tup hl _ ih =>
   simp only [V.mapN,mapNL_eq,V.under] at hu ⊢
   refine .tup (by simpa using hl) fun i x u a b=>?_
   have hx:=under_mem hu x (List.mem_of_getElem? a)
   rw [List.getElem?_map,Option.map_eq_some_iff] at a
   obtain ⟨y,hy,rfl⟩:=a
   exact ih i y u hy b hx
 | nils a=>exact .nils a
 | sl0 a cap=>exact .sl0 a cap
 | sl u hcl hn hc hlf hm hr _ =>
   exact .sl u hcl hn hc hlf hm fun i e j x a b=>(hr i e j x a b).names (n:=0) (fun k hk=>absurd hk (Nat.not_lt_zero _)) (V.cleanL_mem (V.cleanLL_mem hcl e (List.mem_of_getElem? a)) x (List.mem_of_getElem? b))
 | own h=>simp only [V.mapN,V.under,decide_eq_true_eq] at hu; exact .own (hf _ _ hu h)
 | ptr h=>simp only [V.mapN,V.under,decide_eq_true_eq] at hu; exact .ptr (hf _ _ hu h)
 | win h=>simp only [V.mapN,V.under,decide_eq_true_eq] at hu; exact .win (hf _ _ hu h)
 | cptr h=>simp only [V.mapN,V.under,decide_eq_true_eq] at hu; exact .cptr (hf _ _ hu h)
 | map h=>simp only [V.mapN,V.under,decide_eq_true_eq] at hu; exact .map (hf _ _ hu h)
 | yld h=>simp only [V.mapN,V.under,decide_eq_true_eq] at hu; exact .yld (hf _ _ hu h)
 | iface _ ih=>simp only [V.mapN,V.under] at hu; exact .iface (ih hu)
 | meth _ ih=>simp only [V.mapN,V.under] at hu; exact .meth (ih hu)
 | bnd _ ih=>simp only [V.mapN,V.under] at hu; exact .bnd (ih hu)
 | rptr u hlf hm _ ih =>
   simp only [V.mapN,mapNL_eq,V.under] at hu ⊢
   refine .rptr u (fun x hx=>?_) (fun j x a=>?_) fun j x a=>?_
   · obtain ⟨y,hy,rfl⟩:=List.mem_map.1 hx
     rw [mapN_leaf]; exact hlf y hy
   · rw [List.getElem?_map,Option.map_eq_some_iff] at a
     obtain ⟨y,hy,rfl⟩:=a
     exact hm j y hy
   · have hx:=under_mem hu x (List.mem_of_getElem? a)
     rw [List.getElem?_map,Option.map_eq_some_iff] at a
     obtain ⟨y,hy,rfl⟩:=a
     exact ih j y hy hx
 | fn hl _ ih =>
   simp only [V.mapN,mapNL_eq,V.under] at hu ⊢
   refine .fn (by simpa using hl) fun i x u a b=>?_
   have hx:=under_mem hu x (List.mem_of_getElem? a)
   rw [List.getElem?_map,Option.map_eq_some_iff] at a
   obtain ⟨y,hy,rfl⟩:=a
   exact ih i y u hy b hx
 | raw v=>exact .raw v
 | any h=>exact .any h
 | dref b n c=>exact .dref b n c
 | dptr b n c d=>exact .dptr b n c d
def Lent (Pr Pr':Nat→Nat→Prop) (γ:List G) (w:World) (st:St) (k:Nat):Prop:=∀ es cv,liveEs st k=some es→Rep Pr γ w (.own k) cv→Rep Pr' γ w (.sl es) cv
omit [Lam] in
mutual
theorem shr_rep {Pr Pr' γ w st} {σ:List Nat} {kn:Bool} (K:Keep Pr Pr' γ γ w w):∀ (x:V) (cv:Value),(∀ k∈owns x,σ.contains k=false→Lent Pr Pr' γ w st k)→Rep Pr γ w x cv→Rep Pr' γ w (shr σ kn st x) cv
 | .own k,cv,hk,h=>by
   simp only [shr]
   split
   · exact h.keep K
   · rename_i hc
     simp only [shareOwn]
     split
     · rename_i es hes; exact hk k (by simp [owns]) hc es cv hes h
     · exact h.keep K
 | .nils,cv,_,h=>by
   cases kn
   · cases h; exact .sl0 _ _
   · exact h.keep K
 | .agg cs,cv,hk,h=>by
   cases h with
   | agg hl hr =>
     simp only [shr]
     have:=shrL_rep (σ:=σ) (kn:=kn) K cs _ (by simpa [owns] using hk) ⟨hl,hr⟩
     exact .agg this.1 this.2
 | .tup cs,cv,hk,h=>by
   cases h with
   | tup hl hr =>
     simp only [shr]
     have:=shrL_rep (σ:=σ) (kn:=kn) K cs _ (by simpa [owns] using hk) ⟨hl,hr⟩
     exact .tup this.1 this.2
 | .fn f cs,cv,hk,h=>by
   cases h with
   | fn hl hr =>
     simp only [shr]
     have:=shrL_rep (σ:=σ) (kn:=kn) K cs _ (by simpa [owns] using hk) ⟨hl,hr⟩
     exact .fn this.1 this.2
 | .iface t x,cv,hk,h=>by
   cases h with
   | iface h =>
     simp only [shr]
     exact .iface (shr_rep K x _ (by simpa [owns] using hk) h)
 | .meth t x,cv,hk,h=>by
   cases h with
   | meth h =>
     simp only [shr]
     exact .meth (shr_rep K x _ (by simpa [owns] using hk) h)
 | .bnd t x,cv,hk,h=>by
   cases h with
   | bnd h =>
     simp only [shr]
     exact .bnd (shr_rep K x _ (by simpa [owns] using hk) h)
 | .bool _,cv,_,h=>by simpa [shr] using h.keep K
 | .int _ _,cv,_,h=>by simpa [shr] using h.keep K
 | .str _,cv,_,h=>by simpa [shr] using h.keep K
 | .sl _,cv,_,h=>by simpa [shr] using h.keep K
 | .ptr _ _ _,cv,_,h=>by simpa [shr] using h.keep K
 | .win _ _ _ _,cv,_,h=>by simpa [shr] using h.keep K
 | .cptr _ _,cv,_,h=>by simpa [shr] using h.keep K
 | .rptr _,cv,_,h=>by simpa [shr] using h.keep K
 | .raw _,cv,_,h=>by simpa [shr] using h.keep K
 | .any,cv,_,h=>by simpa [shr] using h.keep K
 | .map _,cv,_,h=>by simpa [shr] using h.keep K
 | .yld _,cv,_,h=>by simpa [shr] using h.keep K
 | .dref _ _ _,cv,_,h=>by simpa [shr] using h.keep K
 | .dptr _ _ _ _,cv,_,h=>by simpa [shr] using h.keep K
theorem shrL_rep {Pr Pr' γ w st} {σ:List Nat} {kn:Bool} (K:Keep Pr Pr' γ γ w w):∀ (cs:List V) (us:List Value),(∀ k∈owns.go cs,σ.contains k=false→Lent Pr Pr' γ w st k)→RepL Pr γ w cs us→RepL Pr' γ w (shr.go σ kn st cs) us
 | [],us,_,h=>by
   cases us with
   | nil=>exact RepL.nil
   | cons=>simp [RepL] at h
 | x::xs,us,hk,h=>by
   cases us with
   | nil=>simp [RepL] at h
   | cons u us =>
     simp only [shr.go]
     refine RepL.cons (shr_rep K x u (fun k hkx=>hk k (by simp [owns.go,hkx])) (h.2 0 x u rfl rfl)) (shrL_rep K xs us (fun k hkx=>hk k (by simp [owns.go,hkx])) ⟨by simpa using h.1,fun i y v a b=>h.2 (i+1) y v (by simpa using a) (by simpa using b)⟩)
end
omit [Lam] in
theorem lend1_ne {st:St} {k j:Nat} (h:j≠k):(lend1 st k)[j]? = st[j]? := by
 unfold lend1
 split
 · split
   · rw [List.getElem?_set,if_neg (Ne.symm h)]
   · rfl
 · rfl
omit [Lam] in
theorem lend_ne:∀ (ks:List Nat) {st:St} {j:Nat},j∉ks→(lend st ks)[j]? = st[j]?
 | [],_,_,_=>rfl
 | k::ks,st,j,h=>by
   simp only [List.mem_cons,not_or] at h
   rw [Cod.lend,lend_ne ks h.2,lend1_ne h.1]
omit [Lam] in
theorem lend1_len (st:St) (k:Nat):(lend1 st k).length=st.length:=by
 unfold lend1; split
 · split <;> simp
 · rfl
omit [Lam] in
theorem lend_len:∀ (ks:List Nat) (st:St),(lend st ks).length=st.length
 | [],_=>rfl
 | k::ks,st=>by rw [Cod.lend,lend_len ks,lend1_len]
omit [Lam] in
theorem getO_eq {st:St} {k:Nat} (h:k < st.length):st[k]? = some (getO st k):=by
 unfold getO; rw [List.getElem?_eq_getElem h]
omit [Lam] in
theorem handO_get (σ:List Nat) (kn:Bool) (st:St):∀ (l:List Nat) (i:Nat),(handO σ kn st l)[i]? = (l[i]?).map fun k=>mapO (idx σ) (shrO σ kn st (getO st k))
 | [],i=>by simp [handO]
 | k::ks,0=>by simp [handO]
 | k::ks,i+1=>by simp [handO,handO_get σ kn st ks i]
omit [Lam] in
theorem handO_len (σ:List Nat) (kn:Bool) (st:St) (l:List Nat):(handO σ kn st l).length=l.length:=by
 induction l with
 | nil=>rfl
 | cons k ks ih=>simp [handO,ih]
omit [Lam] in
theorem handC_get (σ:List Nat) (kn:Bool) (st:St):∀ (l:List Nat) (i:Nat),(handC σ kn st l)[i]? = (l[i]?).map fun k=>shrO σ kn st (getO st k)
 | [],i=>by simp [handC]
 | k::ks,0=>by simp [handC]
 | k::ks,i+1=>by simp [handC,handC_get σ kn st ks i]
omit [Lam] in
theorem handC_len (σ:List Nat) (kn:Bool) (st:St) (l:List Nat):(handC σ kn st l).length=l.length:=by
 induction l with
 | nil=>rfl
 | cons k ks ih=>simp [handC,ih]
omit [Lam] in
theorem plainO_mem:∀ {l:List O},plainO l=true→∀ o∈l,o.own=true∧V.clean.cleanLL 0 o.es=true
 | [],_,o,h=>by simp at h
 | o::os,h,p,hp=>by
   simp only [plainO,Bool.and_eq_true] at h
   rcases List.mem_cons.1 hp with rfl | hp
   · exact h.1
   · exact plainO_mem h.2 p hp
omit [Lam] in
theorem mapO_flags (f:Nat→Nat) (o:O):(mapO f o).live=o.live∧(mapO f o).excl=o.excl∧(mapO f o).box=o.box∧(mapO f o).wid=o.wid∧(mapO f o).kind=o.kind∧(mapO f o).es.length=o.es.length∧(mapO f o).own=o.own:=by
 unfold mapO
 cases h:o.box <;> simp [O.own,mapRows_eq,h]
omit [Lam] in
theorem shrO_flags (σ kn st) (o:O):(shrO σ kn st o).live=o.live∧(shrO σ kn st o).excl=o.excl∧(shrO σ kn st o).box=o.box∧(shrO σ kn st o).wid=o.wid∧(shrO σ kn st o).kind=o.kind∧(shrO σ kn st o).es.length=o.es.length∧(shrO σ kn st o).own=o.own:=by
 unfold shrO
 cases h:o.box <;> simp [O.own,shrRows_eq,h]
omit [Lam] in
theorem mem_ownsO {σ:List Nat} {st:St} {k j:Nat}:∀ {l:List Nat},k∈l→j∈ownsO (getO st k)→j∈lentO σ st l
 | x::xs,h,hj=>by
   simp only [lentO,List.mem_append]
   rcases List.mem_cons.1 h with rfl | h
   · exact .inl hj
   · exact .inr (mem_ownsO h hj)
omit [Lam] in
theorem mem_ownsRows {j:Nat} {e:List V}:∀ {es:List (List V)},e∈es→j∈owns.go e→j∈ownsRows es
 | x::xs,h,hj=>by
   simp only [ownsRows,List.mem_append]
   rcases List.mem_cons.1 h with rfl | h
   · exact .inl hj
   · exact .inr (mem_ownsRows h hj)
omit [Lam] in
theorem idx_lt' {σ:List Nat} {k:Nat} (h:idx σ k < σ.length):σ[idx σ k]? = some k:=by
 unfold idx at h ⊢
 split at h
 · rename_i i hi
   rw [idxOf_get' hi]
 · omega
where
 idxOf_get' {sel:List Nat} {k i:Nat} (h:sel.idxOf? k=some i):sel[i]? = some k:=by
  rw [List.idxOf?,List.findIdx?_eq_some_iff_getElem] at h
  obtain ⟨h1,h2,_⟩:=h
  rw [List.getElem?_eq_getElem h1]
  simpa using h2
omit [Lam] in
theorem hasYld_iff:∀ {l:List O},hasYld l=false↔∀ o∈l,o.kind≠.yld
 | []=>by simp [hasYld]
 | o::os=>by simp [hasYld,hasYld_iff (l:=os)]
end Go.Cod
namespace Go.Cod
open Go
variable [Lam]
omit [Lam] in
theorem mapRows_get {f:Nat→Nat} {es:List (List V)} {i:Nat} {e:List V} (h:(mapRows f es)[i]? = some e):∃ e0,es[i]? = some e0∧e=V.mapN.go f e0:=by
 rw [mapRows_eq,List.getElem?_map,Option.map_eq_some_iff] at h
 obtain ⟨e0,h1,h2⟩:=h
 exact ⟨e0,h1,h2.symm⟩
omit [Lam] in
theorem ObjOk.mapO {Pr γ w} {γ':List G} {f:Nat→Nat} (hf:∀ k g,γ[k]? = some g→γ'[f k]? = some g) {o:O} {g:G} (h:ObjOk Pr γ w o g):ObjOk Pr γ' w (Cod.mapO f o) g:=by
 obtain ⟨cur,fz,h1,h2,h3⟩:=h.row
 cases hb:o.box with
 | false =>
   have e:Cod.mapO f o=o:=by simp [Cod.mapO,hb]
   rw [e]
   refine ⟨h.len,h.wid,h.le,h.max,h.sz,h.lf,⟨cur,fz,h1,h2,fun i e j x a b=>?_⟩,h.spare,h.excl,h.cl,h.kd⟩
   obtain ⟨u,hu,hr⟩:=h3 i e j x a b
   exact ⟨u,hu,hr.names (n:=0) (fun k hk=>absurd hk (Nat.not_lt_zero _)) (V.cleanL_mem (V.cleanLL_mem (h.cl hb) e (List.mem_of_getElem? a)) x (List.mem_of_getElem? b))⟩
 | true =>
   have e:Cod.mapO f o={ o with es:=mapRows f o.es }:=by simp [Cod.mapO,hb]
   rw [e]
   refine ⟨by simp [mapRows_eq,h.len],h.wid,h.le,h.max,fun r hr=>?_,fun r hr x hx=>?_,⟨cur,fz,h1,h2,fun i e j x a b=>?_⟩,h.spare,h.excl,(fun hb'=>by simp only at hb'; rw [hb] at hb'; cases hb'),h.kd⟩
   · obtain ⟨i,hi⟩:=List.getElem?_of_mem hr
     obtain ⟨e0,h4,rfl⟩:=mapRows_get hi
     rw [mapNL_eq,List.length_map]; exact h.sz e0 (List.mem_of_getElem? h4)
   · obtain ⟨i,hi⟩:=List.getElem?_of_mem hr
     obtain ⟨e0,h4,rfl⟩:=mapRows_get hi
     rw [mapNL_eq] at hx
     obtain ⟨y,hy,rfl⟩:=List.mem_map.1 hx
     rw [mapN_leaf]; exact h.lf e0 (List.mem_of_getElem? h4) y hy
   · obtain ⟨e0,h4,rfl⟩:=mapRows_get a
     rw [mapNL_eq,List.getElem?_map,Option.map_eq_some_iff] at b
     obtain ⟨y,hy,rfl⟩:=b
     obtain ⟨u,hu,hr⟩:=h3 i e0 j y h4 hy
     exact ⟨u,hu,hr.mapN hf⟩
omit [Lam] in
theorem ObjOk.hand {Pr Pr' γ w st} {γ':List G} {σ:List Nat} {kn:Bool} {f:Nat→Nat} {n:Nat} (K:Keep Pr Pr' γ γ w w) (hf:∀ k g,f k < n→γ[k]? = some g→γ'[f k]? = some g) {o:O} {g:G} (h:ObjOk Pr γ w o g)
  (hsp:∀ m,g.len*g.sz≤m→¬ Pr' g.blk m) (hex:o.excl=true→∀ m,¬ Pr' g.blk m) (hl:∀ k∈ownsO o,σ.contains k=false→Lent Pr Pr' γ w st k)
  (hu:∀ r∈(Cod.mapO f (shrO σ kn st o)).es,o.box=true→V.under.underL n r=true):ObjOk Pr' γ' w (Cod.mapO f (shrO σ kn st o)) g:=by
 obtain ⟨cur,fz,h1,h2,h3⟩:=h.row
 cases hb:o.box with
 | false =>
   have e:Cod.mapO f (shrO σ kn st o)=o:=by simp [Cod.mapO,shrO,hb]
   rw [e]
   refine ⟨h.len,h.wid,h.le,h.max,h.sz,h.lf,⟨cur,fz,h1,h2,fun i e j x a b=>?_⟩,hsp,hex,h.cl,h.kd⟩
   obtain ⟨u,hu,hr⟩:=h3 i e j x a b
   exact ⟨u,hu,(hr.keep K).names (n:=0) (fun k hk=>absurd hk (Nat.not_lt_zero _)) (V.cleanL_mem (V.cleanLL_mem (h.cl hb) e (List.mem_of_getElem? a)) x (List.mem_of_getElem? b))⟩
 | true =>
   have e:Cod.mapO f (shrO σ kn st o)={ o with es:=mapRows f (shrRows σ kn st o.es) }:=by simp [Cod.mapO,shrO,hb]
   rw [e] at hu ⊢
   have row:∀ {i:Nat} {r:List V},(mapRows f (shrRows σ kn st o.es))[i]? = some r→∃ e0,o.es[i]? = some e0∧r=(e0.map (shr σ kn st)).map (V.mapN f):=by
    intro i r hr
    obtain ⟨e1,h4,rfl⟩:=mapRows_get hr
    rw [shrRows_eq,List.getElem?_map,Option.map_eq_some_iff] at h4
    obtain ⟨e0,h5,rfl⟩:=h4
    exact ⟨e0,h5,by rw [mapNL_eq,shrL_eq]⟩
   refine ⟨by simp [mapRows_eq,shrRows_eq,h.len],h.wid,h.le,h.max,fun r hr=>?_,fun r hr x hx=>?_,⟨cur,fz,h1,h2,fun i e j x a b=>?_⟩,hsp,hex,(fun hb'=>by simp only at hb'; rw [hb] at hb'; cases hb'),h.kd⟩
   · obtain ⟨i,hi⟩:=List.getElem?_of_mem hr
     obtain ⟨e0,h4,rfl⟩:=row hi
     simp; exact h.sz e0 (List.mem_of_getElem? h4)
   · obtain ⟨i,hi⟩:=List.getElem?_of_mem hr
     obtain ⟨e0,h4,rfl⟩:=row hi
     rw [List.mem_map] at hx
     obtain ⟨y,hy,rfl⟩:=hx
     obtain ⟨z,hz,rfl⟩:=List.mem_map.1 hy
     rw [mapN_leaf,shr_leaf]; exact h.lf e0 (List.mem_of_getElem? h4) z hz
   · have hu':=hu e (List.mem_of_getElem? a) hb
     obtain ⟨e0,h4,rfl⟩:=row a
     rw [List.getElem?_map,Option.map_eq_some_iff] at b
     obtain ⟨y,hy,rfl⟩:=b
     rw [List.getElem?_map,Option.map_eq_some_iff] at hy
     obtain ⟨z,hz,rfl⟩:=hy
     obtain ⟨u,hu2,hr⟩:=h3 i e0 j z h4 hz
     have hs:=shr_rep (σ:=σ) (kn:=kn) (st:=st) K z u (fun k hk hc=>hl k (by
      unfold ownsO; rw [hb]
      exact mem_ownsRows (List.mem_of_getElem? h4) (owns_mem (List.mem_of_getElem? hz) k hk)) hc) hr
     exact ⟨u,hu2,hs.mapNu hf (under_mem hu' _ (List.mem_map_of_mem (List.mem_map_of_mem (List.mem_of_getElem? hz))))⟩
omit [Lam] in
theorem MapOk.mapO {Pr γ w} {γ':List G} {f:Nat→Nat} {o:O} {g:G} (h:MapOk Pr γ w o g):Cod.mapO f o=o∧MapOk Pr γ' w o g:=by
 refine ⟨by simp [Cod.mapO,h.bx],h.cl,h.ky,h.bx,?_⟩
 obtain ⟨ents,clock,h1,h2,h3⟩:=h.ex
 refine ⟨ents,clock,h1,⟨h2.1,fun i e m a b=>?_⟩,h3⟩
 obtain ⟨kx,vx,rfl,r1,r2⟩:=h2.2 i e m a b
 have hc:=cleanLL_iff.1 h.cl _ (List.mem_of_getElem? a)
 simp only [V.clean.cleanL,Bool.and_eq_true] at hc
 exact ⟨kx,vx,rfl,r1.names (n:=0) (fun k hk=>absurd hk (Nat.not_lt_zero _)) hc.1,r2.names (n:=0) (fun k hk=>absurd hk (Nat.not_lt_zero _)) hc.2.1⟩
omit [Lam] in
theorem putAll_len:∀ (σ:List Nat) (L:List O) (st:St),(putAll st σ L).length=st.length
 | [],_,_=>by simp [putAll]
 | _::_,[],_=>by simp [putAll]
 | k::ks,o::os,st=>by rw [putAll,putAll_len ks os]; simp
omit [Lam] in
theorem putAll_out:∀ (σ:List Nat) (L:List O) (st:St) {j:Nat},j∉σ→(putAll st σ L)[j]? = st[j]?
 | [],_,_,_,_=>by simp [putAll]
 | _::_,[],_,_,_=>by simp [putAll]
 | k::ks,o::os,st,j,h=>by
   simp only [List.mem_cons,not_or] at h
   rw [putAll,putAll_out ks os _ h.2,List.getElem?_set,if_neg (Ne.symm h.1)]
omit [Lam] in
theorem putAll_in:∀ (σ:List Nat) (L:List O) (st:St),σ.Nodup→(∀ k∈σ,k < st.length)→L.length=σ.length→∀ {i j:Nat},σ[i]? = some j→(putAll st σ L)[j]? = L[i]?
 | [],_,_,_,_,_,i,j,h=>by simp at h
 | _::_,[],_,_,_,hl,_,_,_=>by simp at hl
 | k::ks,o::os,st,hn,hlt,hl,i,j,h=>by
   rw [List.nodup_cons] at hn
   rw [putAll]
   cases i with
   | zero =>
     simp at h; subst h
     rw [putAll_out ks os _ hn.1,List.getElem?_set,if_pos rfl,if_pos (hlt k (by simp))]
     rfl
   | succ i =>
     simp at h
     rw [putAll_in ks os _ hn.2 (fun x hx=>by simpa using hlt x (by simp [hx])) (by simpa using hl) h]
     simp
omit [Lam] in
theorem backSt_get {σ:List Nat} {st1:St} {st':List O} (hn:σ.Nodup) (hlt:∀ k∈σ,k < st1.length) (hl:σ.length≤st'.length) {j:Nat} {p:O} (h:(backSt σ st1 st')[j]? = some p) :
  (∃ i q,st'[i]? = some q∧p=mapO (back σ st1.length) q∧back σ st1.length i=j)∨(j∉σ∧st1[j]? = some p):=by
 unfold backSt at h
 have hL:((st'.take σ.length).map (mapO (back σ st1.length))).length=σ.length:=by simp; omega
 by_cases hj:j < st1.length
 · rw [List.getElem?_append_left (by rw [putAll_len]; exact hj)] at h
   by_cases hm:j∈σ
   · obtain ⟨i,hi⟩:=List.getElem?_of_mem hm
     rw [putAll_in σ _ st1 hn hlt hL hi,List.getElem?_map,Option.map_eq_some_iff] at h
     obtain ⟨q,hq,rfl⟩:=h
     have hil:i < σ.length:=(List.getElem?_eq_some_iff.1 hi).1
     rw [List.getElem?_take,if_pos hil] at hq
     exact .inl ⟨i,q,hq,rfl,by simp [back,hi]⟩
   · rw [putAll_out σ _ st1 hm] at h
     exact .inr ⟨hm,h⟩
 · rw [List.getElem?_append_right (by rw [putAll_len]; omega),putAll_len,List.getElem?_map,Option.map_eq_some_iff] at h
   obtain ⟨q,hq,rfl⟩:=h
   rw [List.getElem?_drop] at hq
   refine .inl ⟨σ.length+(j - st1.length),q,hq,rfl,?_⟩
   have:σ[σ.length+(j - st1.length)]? = none:=by simp
   simp only [back,this]; omega
omit [Lam] in
theorem backSt_len {σ:List Nat} {st1:St} {st':List O}:(backSt σ st1 st').length=st1.length+(st'.length - σ.length):=by
 simp [backSt,putAll_len]
omit [Lam] in
theorem back_name {σ:List Nat} {γ γ' γc:List G} (hγc:∀ i k:Nat,σ[i]? = some k→γc[i]? = γ[k]?) (hnm:∀ (i:Nat) g,γc[i]? = some g→γ'[i]? = some g) (hlt:∀ k∈σ,k < γ.length) {i:Nat} {g:G} (h:γ'[i]? = some g) :
  (γ++γ'.drop σ.length)[back σ γ.length i]? = some g:=by
 unfold back
 cases hk:σ[i]? with
 | some k =>
   simp only
   have hkl:=hlt k (List.mem_of_getElem? hk)
   rw [List.getElem?_append_left hkl]
   have h1:=hγc i k hk
   rw [List.getElem?_eq_getElem hkl] at h1
   have h2:=hnm i _ h1
   rw [h] at h2; cases h2
   rw [List.getElem?_eq_getElem hkl]
 | none =>
   simp only
   rw [List.getElem?_eq_none_iff] at hk
   rw [List.getElem?_append_right (by omega),List.getElem?_drop]
   rw [show σ.length+(γ.length+(i - σ.length) - γ.length)=i by omega]
   exact h
end Go.Cod
namespace Go.Cod
open Go
variable [Lam]
variable {P:Program} {ok:OkY} {E:Env P ok} {w0:World} {mod:Nat→Prop} {γ0:List G} {Pr0:Nat→Nat→Prop} {C0:Nat→Prop} {nt:Nat} {ρ:Option Nat}
 {Pr Pr':Nat→Nat→Prop} {γ γ' γc:List G} {C C':Nat→Prop} {fr fr':Nat→V} {st st':St} {a a':Act} {w w':World}
omit [Lam] in
theorem own_iff {o:O}:o.own=true↔o.live=true∨o.kind=.map:=by simp [O.own]
omit [Lam] in
theorem ObjOk.same {o:O} {g:G} (K:Keep Pr Pr' γ γ' w w') (hh:w'.heap[g.blk]? = w.heap[g.blk]?) (hu:∀ n,Pr' g.blk n→Pr g.blk n) (h:ObjOk Pr γ w o g):ObjOk Pr' γ' w' o g where
 len:=h.len
 wid:=h.wid
 le:=h.le
 max:=h.max
 sz:=h.sz
 lf:=h.lf
 row:=by
  obtain ⟨cur,f,h1,h2,h3⟩:=h.row
  refine ⟨cur,f,by rw [hh]; exact h1,h2,fun i e j x a b=>?_⟩
  obtain ⟨u,hu,hr⟩:=h3 i e j x a b
  exact ⟨u,hu,hr.keep K⟩
 spare:=fun n hn hp=>h.spare n hn (hu n hp)
 excl:=fun he n hp=>h.excl he n (hu n hp)
 cl:=h.cl
 kd:=h.kd
theorem X.own_lt (H:X P ok E w0 mod γ0 Pr0 C0 nt ρ Pr γ C fr st a w) {k:Nat} {o:O} {g:G} (h1:st[k]? = some o) (h2:γ[k]? = some g) (h3:o.own=true):g.blk < w.heap.size:=by
 rcases own_iff.1 h3 with h3 | h3
 · exact (H.st.obj k o g h1 h2 h3).lt
 · obtain ⟨ents,clock,h5,_⟩:=(H.ext.maps k o g h1 h2 h3).ex
   exact (Array.getElem?_eq_some_iff.1 h5).1
theorem X.own_one (H:X P ok E w0 mod γ0 Pr0 C0 nt ρ Pr γ C fr st a w) {j k:Nat} {p o:O} {q g:G} (h1:st[j]? = some p) (h2:st[k]? = some o) (h3:γ[j]? = some q) (h4:γ[k]? = some g) (h5:p.own=true) (h6:o.own=true) (he:q.blk=g.blk):j=k:=by
 rcases own_iff.1 h5 with h5 | h5 <;> rcases own_iff.1 h6 with h6 | h6
 · exact H.st.one j k p o q g h1 h2 h3 h4 h5 h6 he
 · obtain ⟨cur,f,a1,_⟩:=(H.st.obj j p q h1 h3 h5).row
   obtain ⟨ents,clock,b1,_⟩:=(H.ext.maps k o g h2 h4 h6).ex
   rw [he,b1] at a1; cases a1.1
 · obtain ⟨cur,f,a1,_⟩:=(H.st.obj k o g h2 h4 h6).row
   obtain ⟨ents,clock,b1,_⟩:=(H.ext.maps j p q h1 h3 h5).ex
   rw [← he,b1] at a1; cases a1.1
 · exact H.ext.mone j k p o q g h1 h2 h3 h4 h5 h6 he
theorem X.own_mine (H:X P ok E w0 mod γ0 Pr0 C0 nt ρ Pr γ C fr st a w) {k:Nat} {o:O} {g:G} (h1:st[k]? = some o) (h2:γ[k]? = some g) (h3:o.own=true):w0.heap.size≤g.blk∨mod g.blk:=by
 rcases own_iff.1 h3 with h3 | h3
 · exact H.mine k o g h1 h2 h3
 · exact H.ext.mmine k o g h1 h2 h3
omit [Lam] in
theorem own_owns {k:Nat} {o:O} {g:G} (h1:st[k]? = some o) (h2:γ[k]? = some g) (h3:o.own=true):Owns st γ k g.blk:=⟨o,h1,.inl ⟨g,h2,h3,rfl⟩⟩
omit [Lam] in
theorem lab_owns {k:Nat} {o:O} {e:List V} (h1:st[k]? = some o) (h2:o.kind=.pool) (h3:e∈o.es):Owns st γ k (labOf e):=⟨o,h1,.inr ⟨h2,e,h3,rfl⟩⟩
omit [Lam] in
theorem Lab.owns {b:Nat} (h:Lab st b):∃ k,Owns st γ k b:=by
 obtain ⟨k,o,e,h1,h2,h3,rfl⟩:=h
 exact ⟨k,lab_owns h1 h2 h3⟩
theorem X.owns_obj (H:X P ok E w0 mod γ0 Pr0 C0 nt ρ Pr γ C fr st a w) {k b:Nat} (h:Owns st γ k b):(∃ cur ty f,w.heap[b]? = some (.cells cur ty f))∨∃ es c,w.heap[b]? = some (.map es c):=by
 obtain ⟨o,h1,⟨g,h2,h3,rfl⟩ | ⟨h2,e,h3,rfl⟩⟩:=h
 · rcases own_iff.1 h3 with h3 | h3
   · obtain ⟨cur,f,a1,_⟩:=(H.st.obj k o g h1 h2 h3).row
     exact .inl ⟨cur,_,f,a1.1⟩
   · obtain ⟨ents,clock,b1,_⟩:=(H.ext.maps k o g h1 h2 h3).ex
     exact .inr ⟨ents,clock,b1⟩
 · exact .inl (H.ext.pools.cells ⟨k,o,e,h1,h2,h3,rfl⟩)
theorem X.owns_lt (H:X P ok E w0 mod γ0 Pr0 C0 nt ρ Pr γ C fr st a w) {k b:Nat} (h:Owns st γ k b):b < w.heap.size:=by
 rcases H.owns_obj h with ⟨cur,ty,f,h⟩ | ⟨es,c,h⟩ <;> exact (Array.getElem?_eq_some_iff.1 h).1
theorem X.owns_free (H:X P ok E w0 mod γ0 Pr0 C0 nt ρ Pr γ C fr st a w) {k b:Nat} (h:Owns st γ k b):¬ C b:=by
 obtain ⟨o,h1,⟨g,h2,h3,rfl⟩ | ⟨h2,e,h3,rfl⟩⟩:=h
 · exact H.ext.apart k o g h1 h2 h3
 · exact (H.ext.pools.free k o e h1 h2 h3).1
theorem X.owns_mine (H:X P ok E w0 mod γ0 Pr0 C0 nt ρ Pr γ C fr st a w) {k b:Nat} (h:Owns st γ k b):w0.heap.size≤b∨mod b:=by
 obtain ⟨o,h1,⟨g,h2,h3,rfl⟩ | ⟨h2,e,h3,rfl⟩⟩:=h
 · exact H.own_mine h1 h2 h3
 · exact (H.ext.pools.free k o e h1 h2 h3).2
theorem X.pool_own (H:X P ok E w0 mod γ0 Pr0 C0 nt ρ Pr γ C fr st a w) {j k:Nat} {p o:O} {q:G} {e:List V} (h1:st[j]? = some p) (h2:γ[j]? = some q) (h3:p.own=true) (h4:st[k]? = some o) (h5:o.kind=.pool) (h6:e∈o.es):q.blk≠labOf e:=by
 rcases own_iff.1 h3 with h3 | h3
 · exact H.ext.pools.sep k j o p q e h4 h5 h6 h1 h2 h3
 · intro he
   obtain ⟨ents,clock,b1,_⟩:=(H.ext.maps j p q h1 h2 h3).ex
   obtain ⟨cur,ty,f,a1⟩:=H.ext.pools.cells ⟨k,o,e,h4,h5,h6,rfl⟩
   rw [he,a1] at b1; cases b1
theorem X.owns_one (H:X P ok E w0 mod γ0 Pr0 C0 nt ρ Pr γ C fr st a w) {j k b:Nat} (h:Owns st γ j b) (h':Owns st γ k b):j=k:=by
 obtain ⟨p,h1,⟨q,h2,h3,e1⟩ | ⟨h2,e,h3,e1⟩⟩:=h <;> obtain ⟨o,k1,⟨g,k2,k3,e2⟩ | ⟨k2,e',k3,e2⟩⟩:=h'
 · exact H.own_one h1 k1 h2 k2 h3 k3 (e1.trans e2.symm)
 · exact absurd (e1.trans e2.symm) (H.pool_own h1 h2 h3 k1 k2 k3)
 · exact absurd (e2.trans e1.symm) (H.pool_own k1 k2 k3 h1 h2 h3)
 · obtain ⟨i,hi⟩:=List.getElem?_of_mem h3
   obtain ⟨i',hi'⟩:=List.getElem?_of_mem k3
   exact (H.ext.pools.one j k p o i i' e e' h1 k1 h2 k2 hi hi' (e1.trans e2.symm)).1
theorem X.back (H:X P ok E w0 mod γ0 Pr0 C0 nt ρ Pr γ C fr st a w) {σ:List Nat} (hn:σ.Nodup) (hlt:∀ k∈σ,k < st.length)
  (hγc:∀ i k:Nat,σ[i]? = some k→γc[i]? = γ[k]?) (hγl:γc.length=σ.length)
  {M:Nat→Prop} (hM:∀ b,M b→∃ k∈σ,Owns st γ k b)
  (hst':StOk Pr' γ' w' st') (hmine:Mine w M γ' st') (hmm:∀ (k:Nat) (o:O) g,st'[k]? = some o→γ'[k]? = some g→o.kind=.map→w.heap.size≤g.blk∨M g.blk)
  (B:Base2 w M γc Pr C Pr' γ' C' w') (hap:∀ (k:Nat) (o:O) g,st'[k]? = some o→γ'[k]? = some g→o.own=true→¬ C' g.blk) (hclow:∀ b,C' b→b < w'.heap.size)
  (hpr:∀ b n,Pr' b n→E.keep b n∨¬ C' b) (hmaps:∀ (k:Nat) (o:O) g,st'[k]? = some o→γ'[k]? = some g→o.kind=.map→MapOk Pr' γ' w' o g)
  (hmone:∀ (k k':Nat) (o o':O) g g',st'[k]? = some o→st'[k']? = some o'→γ'[k]? = some g→γ'[k']? = some g'→o.kind=.map→o'.kind=.map→g.blk=g'.blk→k=k')
  (hyld:∀ (k:Nat) (o:O) g,st'[k]? = some o→γ'[k]? = some g→o.kind=.yld→g.blk=E.l∧o.box=false∧E.Inv o.es o.excl C' Pr' w')
  (hpools:Pools w.heap.size M C' Pr' γ' st' w')
  (hyone:∀ (k k':Nat) (o o':O),st'[k]? = some o→st'[k']? = some o'→o.kind=.yld→o'.kind=.yld→k=k')
  (hy:∀ (j:Nat) (o:O),st[j]? = some o→o.kind=.yld→j∉σ→(∀ b,C b→w'.heap[b]? = w.heap[b]?)∧(∀ b,C' b→C b)∧∀ (k:Nat) (o':O),st'[k]? = some o'→o'.kind≠.yld) :
  Keep Pr Pr' γ (γ++γ'.drop σ.length) w w'∧X P ok E w0 mod γ0 Pr0 C0 nt ρ Pr' (γ++γ'.drop σ.length) C' fr (backSt σ st st') a w':=by
 have K:Keep Pr Pr' γ (γ++γ'.drop σ.length) w w':=⟨B.sub,B.cell,fun k g h=>by rw [List.getElem?_append_left (List.getElem?_eq_some_iff.1 h).1]; exact h⟩
 have hγlen:=H.st.len
 have hγn:σ.length≤γ'.length:=by
  rw [← hγl]
  rcases Nat.lt_or_ge γ'.length γc.length with h | h
  · have:=B.names γ'.length γc[γ'.length] (by simp [h])
    simp at this
  · exact h
 have hsl:σ.length≤st'.length:=by rw [← hst'.len]; exact hγn
 have hltg:∀ k∈σ,k < γ.length:=fun k hk=>by rw [hγlen]; exact hlt k hk
 have hnm:∀ {i:Nat} {g:G},γ'[i]? = some g→(γ++γ'.drop σ.length)[Cod.back σ st.length i]? = some g:=by
  intro i g h
  have:=back_name hγc B.names hltg h
  rw [hγlen] at this; exact this
 have get:∀ {j:Nat} {p:O} {g:G},(backSt σ st st')[j]? = some p→(γ++γ'.drop σ.length)[j]? = some g →
   (∃ i q,st'[i]? = some q∧γ'[i]? = some g∧p=Cod.mapO (Cod.back σ st.length) q∧Cod.back σ st.length i=j)∨(j∉σ∧st[j]? = some p∧γ[j]? = some g):=by
  intro j p g hj hg
  rcases backSt_get hn hlt hsl hj with ⟨i,q,h1,h2,h3⟩ | ⟨h1,h2⟩
  · obtain ⟨g',hg'⟩:=hst'.at h1
    have:=hnm hg'
    rw [h3,hg] at this; cases this
    exact .inl ⟨i,q,h1,hg',h2,h3⟩
  · rw [List.getElem?_append_left (by rw [hγlen]; exact (List.getElem?_eq_some_iff.1 h2).1)] at hg
    exact .inr ⟨h1,h2,hg⟩
 have notM:∀ {j:Nat} {p:O} {g:G},j∉σ→st[j]? = some p→γ[j]? = some g→p.own=true→¬ M g.blk:=by
  intro j p g hj h1 h2 h3 hm
  obtain ⟨k,hk,ho⟩:=hM _ hm
  exact hj (H.owns_one (own_owns h1 h2 h3) ho ▸ hk)
 have notMo:∀ {j b:Nat},j∉σ→Owns st γ j b→¬ M b:=by
  intro j b hj h1 hm
  obtain ⟨k,hk,ho⟩:=hM _ hm
  exact hj (H.owns_one h1 ho ▸ hk)
 have stillo:∀ {j b:Nat},j∉σ→Owns st γ j b→w'.heap[b]? = w.heap[b]? := fun hj h=>B.old _ (H.owns_lt h) (notMo hj h) (H.owns_free h)
 have still:∀ {j:Nat} {p:O} {g:G},j∉σ→st[j]? = some p→γ[j]? = some g→p.own=true→w'.heap[g.blk]? = w.heap[g.blk]? := by
  intro j p g hj h1 h2 h3
  exact B.old _ (H.own_lt h1 h2 h3) (notM hj h1 h2 h3) (H.ext.apart j p g h1 h2 h3)
 have cal:∀ {i:Nat} {q:O} {g:G},st'[i]? = some q→γ'[i]? = some g→q.own=true→w.heap.size≤g.blk∨M g.blk:=by
  intro i q g h1 h2 h3
  rcases own_iff.1 h3 with h3 | h3
  · exact hmine i q g h1 h2 h3
  · exact hmm i q g h1 h2 h3
 have up:∀ b,w.heap.size≤b∨M b→w0.heap.size≤b∨mod b:=by
  intro b h
  rcases h with h | h
  · exact .inl (Nat.le_trans H.base.size h)
  · obtain ⟨k,hk,ho⟩:=hM _ h
    exact H.owns_mine ho
 have mixed:∀ {i j:Nat} {q p:O} {g r:G},st'[i]? = some q→γ'[i]? = some g→q.own=true→j∉σ→st[j]? = some p→γ[j]? = some r→p.own=true→g.blk≠r.blk:=by
  intro i j q p g r h1 h2 h3 h4 h5 h6 h7 he
  rcases cal h1 h2 h3 with h | h
  · have:=H.own_lt h5 h6 h7; omega
  · rw [he] at h; exact notM h4 h5 h6 h7 h
 have mf:=fun (q:O)=>mapO_flags (Cod.back σ st.length) q
 refine ⟨K,fun j p g hj hg hl=>?_,?_,H.fr.keep K,⟨?_,fun j p g hj hg hl=>?_,fun j j' p p' g g' hj hj' hg hg' hl hl' he=>?_,hst'.low,hst'.laid⟩,?_⟩
 · rcases get hj hg with ⟨i,q,h1,h2,rfl,_⟩ | ⟨_,h2,h3⟩
   · exact up _ (cal h1 h2 (own_iff.2 (.inl ((mf q).1.symm.trans hl))))
   · exact H.mine j p g h2 h3 hl
 · have D:=H.ext
   refine ⟨hclow,fun j p g hj hg h=>?_,hpr,fun j p g hj hg h=>?_,fun j j' p p' g g' hj hj' hg hg' h h' he=>?_,fun j p g hj hg h=>?_,fun j p g hj hg h=>?_,fun j j' p p' hj hj' h h'=>?_,?_,fun l hl=>?_,?_⟩
   · rcases get hj hg with ⟨i,q,h1,h2,rfl,_⟩ | ⟨h1,h2,h3⟩
     · exact hap i q g h1 h2 ((mf q).2.2.2.2.2.2.symm.trans h)
     · intro hc
       rcases B.cnew _ hc with h5 | h5
       · exact D.apart j p g h2 h3 h h5
       · have:=H.own_lt h2 h3 h; omega
   · rcases get hj hg with ⟨i,q,h1,h2,rfl,_⟩ | ⟨h1,h2,h3⟩
     · have hk:q.kind=.map:=(mf q).2.2.2.2.1.symm.trans h
       obtain ⟨e1,e2⟩:=(hmaps i q g h1 h2 hk).mapO (γ':=γ++γ'.drop σ.length) (f:=Cod.back σ st.length)
       rw [e1]; exact e2
     · exact (D.maps j p g h2 h3 h).keep K (still h1 h2 h3 (own_iff.2 (.inr h)))
   · rcases get hj hg with ⟨i,q,h1,h2,e1,e2⟩ | ⟨h1,h2,h3⟩ <;> rcases get hj' hg' with ⟨i',q',k1,k2,e3,e4⟩ | ⟨k1,k2,k3⟩
     · rw [e1,(mf q).2.2.2.2.1] at h
       rw [e3,(mf q').2.2.2.2.1] at h'
       rw [← e2,← e4,hmone i i' q q' g g' h1 k1 h2 k2 h h' he]
     · rw [e1,(mf q).2.2.2.2.1] at h
       exact absurd he (mixed h1 h2 (own_iff.2 (.inr h)) k1 k2 k3 (own_iff.2 (.inr h')))
     · rw [e3,(mf q').2.2.2.2.1] at h'
       exact absurd he.symm (mixed k1 k2 (own_iff.2 (.inr h')) h1 h2 h3 (own_iff.2 (.inr h)))
     · exact D.mone j j' p p' g g' h2 k2 h3 k3 h h' he
   · rcases get hj hg with ⟨i,q,h1,h2,rfl,_⟩ | ⟨h1,h2,h3⟩
     · exact up _ (hmm i q g h1 h2 ((mf q).2.2.2.2.1.symm.trans h))
     · exact D.mmine j p g h2 h3 h
   · rcases get hj hg with ⟨i,q,h1,h2,rfl,_⟩ | ⟨h1,h2,h3⟩
     · have hk:q.kind=.yld:=(mf q).2.2.2.2.1.symm.trans h
       obtain ⟨y1,y2,y3⟩:=hyld i q g h1 h2 hk
       have e:Cod.mapO (Cod.back σ st.length) q=q:=by simp [Cod.mapO,y2]
       rw [e]; exact ⟨y1,y2,y3⟩
     · obtain ⟨y1,y2,y3⟩:=D.yld j p g h2 h3 h
       obtain ⟨z1,z2,z3⟩:=hy j p h2 h h1
       have hC:C'=C:=funext fun b=>propext ⟨z2 b,B.csub b⟩
       rw [hC]
       exact ⟨y1,y2,E.mono (E.stable y3 ⟨B.os,B.tape,B.output,B.size,z1,B.cell⟩) B.sub⟩
   · rcases backSt_get hn hlt hsl hj with ⟨i,q,h1,e1,e2⟩ | ⟨h1,h2⟩ <;> rcases backSt_get hn hlt hsl hj' with ⟨i',q',k1,e3,e4⟩ | ⟨k1,k2⟩
     · rw [e1,(mf q).2.2.2.2.1] at h
       rw [e3,(mf q').2.2.2.2.1] at h'
       rw [← e2,← e4,hyone i i' q q' h1 k1 h h']
     · rw [e1,(mf q).2.2.2.2.1] at h
       exact absurd h ((hy j' p' k2 h' k1).2.2 i q h1)
     · rw [e3,(mf q').2.2.2.2.1] at h'
       exact absurd h' ((hy j p h2 h h1).2.2 i' q' k1)
     · exact D.yone j j' p p' h2 k2 h h'
   · obtain ⟨rs,m1,m2,m3⟩:=D.marks
     refine ⟨rs,m1,m2,fun r hr=>?_⟩
     obtain ⟨m4,m5,m6⟩:=m3 r hr
     have hlt':=(Array.getElem?_eq_some_iff.1 m4).1
     refine ⟨by
      rw [B.old r hlt' (fun hm=>?_) m5]
      · exact m4
      · obtain ⟨k,_,ho⟩:=hM _ hm
        exact (by rcases H.owns_obj ho with ⟨cur,ty,f,h⟩ | ⟨es,c,h⟩ <;> exact absurd (m4.symm.trans h) (by simp)),fun hc=>?_,m6⟩
     rcases B.cnew _ hc with h6 | h6
     · exact m5 h6
     · omega
   · obtain ⟨l0,L,l1,l2⟩:=D.round l hl
     have hlt':=(Array.getElem?_eq_some_iff.1 l1).1
     refine ⟨l0,L,by
      rw [B.old l hlt' (fun hm=>?_) l2]
      · exact l1
      · obtain ⟨k,_,ho⟩:=hM _ hm
        exact (by rcases H.owns_obj ho with ⟨cur,ty,f,h⟩ | ⟨es,c,h⟩ <;> exact absurd (l1.symm.trans h) (by simp)),fun hc=>?_⟩
     rcases B.cnew _ hc with h6 | h6
     · exact l2 h6
     · omega
   · have Q:=D.pools
     have pget:∀ {j:Nat} {p:O},(backSt σ st st')[j]? = some p→p.kind=.pool→(∃ i,st'[i]? = some p∧Cod.back σ st.length i=j)∨(j∉σ∧st[j]? = some p):=by
      intro j p hj hp
      rcases backSt_get hn hlt hsl hj with ⟨i,q,h1,rfl,h3⟩ | ⟨h1,h2⟩
      · rw [(mf q).2.2.2.2.1] at hp
        have e:Cod.mapO (Cod.back σ st.length) q=q:=by simp [Cod.mapO,hpools.bx i q h1 hp]
        rw [e]; exact .inl ⟨i,h1,h3⟩
      · exact .inr ⟨h1,h2⟩
     have new:∀ {i:Nat} {p:O} {e:List V},st'[i]? = some p→p.kind=.pool→e∈p.es→w.heap.size≤labOf e∨M (labOf e):=fun h1 h2 h3=>(hpools.free _ _ _ h1 h2 h3).2
     have old:∀ {j b:Nat},j∉σ→Owns st γ j b→¬ (w.heap.size≤b∨M b):=fun hj ho h=>by
      rcases h with h | h
      · have:=H.owns_lt ho; omega
      · exact notMo hj ho h
     refine ⟨fun j p hj hp e he=>?_,fun j p e hj hp he=>?_,fun j j' p p' i i' e e' hj hj' hp hp' hi hi' hl=>?_,fun j j' p p' g' e hj hp he hj' hg' hl' hq=>?_,fun j p hj hp=>?_⟩
     · rcases pget hj hp with ⟨i,h1,_⟩ | ⟨h1,h2⟩
       · exact hpools.ent i p h1 hp e he
       · refine (Q.ent j p h2 hp e he).move (stillo h1 (lab_owns h2 hp he)) B.sub B.cell fun n hx=>?_
         rcases B.new _ _ hx with h | h | h
         · exact (Q.ent j p h2 hp e he).lab.2 n h
         · exact old h1 (lab_owns h2 hp he) (.inl h)
         · exact old h1 (lab_owns h2 hp he) (.inr h)
     · rcases pget hj hp with ⟨i,h1,_⟩ | ⟨h1,h2⟩
       · exact ⟨(hpools.free i p e h1 hp he).1,up _ (new h1 hp he)⟩
       · refine ⟨fun hc=>?_,(Q.free j p e h2 hp he).2⟩
         rcases B.cnew _ hc with h | h
         · exact (Q.free j p e h2 hp he).1 h
         · exact old h1 (lab_owns h2 hp he) (.inl h)
     · rcases pget hj hp with ⟨x,h1,e1⟩ | ⟨h1,h2⟩ <;> rcases pget hj' hp' with ⟨y,k1,e2⟩ | ⟨k1,k2⟩
       · obtain ⟨a1,a2⟩:=hpools.one x y p p' i i' e e' h1 k1 hp hp' hi hi' hl
         exact ⟨by rw [← e1,← e2,a1],a2⟩
       · exact absurd (hl ▸ new h1 hp (List.mem_of_getElem? hi)) (old k1 (lab_owns k2 hp' (List.mem_of_getElem? hi')))
       · exact absurd (hl.symm ▸ new k1 hp' (List.mem_of_getElem? hi')) (old h1 (lab_owns h2 hp (List.mem_of_getElem? hi)))
       · exact Q.one j j' p p' i i' e e' h2 k2 hp hp' hi hi' hl
     · rcases pget hj hp with ⟨x,h1,e1⟩ | ⟨h1,h2⟩ <;> rcases get hj' hg' with ⟨y,q,k1,k2,rfl,_⟩ | ⟨k1,k2,k3⟩
       · rw [(mf q).1] at hl'
         exact hpools.sep x y p q g' e h1 hp he k1 k2 hl' hq
       · exact old k1 (own_owns k2 k3 (own_iff.2 (.inl hl'))) (hq ▸ new h1 hp he)
       · rw [(mf q).1] at hl'
         exact old h1 (lab_owns h2 hp he) (hq ▸ cal k1 k2 (own_iff.2 (.inl hl')))
       · exact Q.sep j j' p p' g' e h2 hp he k2 k3 hl' hq
     · rcases pget hj hp with ⟨x,h1,e1⟩ | ⟨h1,h2⟩
       · exact hpools.bx x p h1 hp
       · exact Q.bx j p h2 hp
 · rw [backSt_len,List.length_append,List.length_drop,hγlen,hst'.len]
 · rcases get hj hg with ⟨i,q,h1,h2,rfl,_⟩ | ⟨h1,h2,h3⟩
   · exact (hst'.obj i q g h1 h2 ((mf q).1.symm.trans hl)).mapO fun k g' hk=>hnm hk
   · refine (H.st.obj j p g h2 h3 hl).same K (still h1 h2 h3 (own_iff.2 (.inl hl))) fun n hp=>?_
     rcases B.new _ _ hp with h | h | h
     · exact h
     · have:=(H.st.obj j p g h2 h3 hl).lt; omega
     · exact absurd h (notM h1 h2 h3 (own_iff.2 (.inl hl)))
 · rcases get hj hg with ⟨i,q,h1,h2,e1,e2⟩ | ⟨h1,h2,h3⟩ <;> rcases get hj' hg' with ⟨i',q',k1,k2,e3,e4⟩ | ⟨k1,k2,k3⟩
   · rw [e1,(mf q).1] at hl
     rw [e3,(mf q').1] at hl'
     rw [← e2,← e4,hst'.one i i' q q' g g' h1 k1 h2 k2 hl hl' he]
   · rw [e1,(mf q).1] at hl
     exact absurd he (mixed h1 h2 (own_iff.2 (.inl hl)) k1 k2 k3 (own_iff.2 (.inl hl')))
   · rw [e3,(mf q').1] at hl'
     exact absurd he.symm (mixed k1 k2 (own_iff.2 (.inl hl')) h1 h2 h3 (own_iff.2 (.inl hl)))
   · exact H.st.one j j' p p' g g' h2 k2 h3 k3 hl hl' he
 · have Bz:=H.base
   refine ⟨B.os.trans Bz.os,B.tape.trans Bz.tape,B.output.trans Bz.output,Nat.le_trans Bz.size B.size,fun b h1 h2 h3=>?_,fun b n h=>B.sub b n (Bz.sub b n h),fun b n h=>?_,fun k g h=>K.names k g (Bz.names k g h),fun b n h=>(B.cell b n (Bz.sub b n h)).trans (Bz.cell b n h),fun b h=>B.csub b (Bz.csub b h),fun b h=>?_⟩
   · rw [B.old b (Nat.lt_of_lt_of_le h1 Bz.size) (fun hm=>?_) (fun hc=>?_)]
     · exact Bz.old b h1 h2 h3
     · rcases up b (.inr hm) with h | h
       · omega
       · exact h2 h
     · rcases Bz.cnew b hc with h | h
       · exact h3 h
       · omega
   · rcases B.new b n h with h | h | h
     · exact Bz.new b n h
     · exact .inr (.inl (Nat.le_trans Bz.size h))
     · exact .inr (up b (.inr h))
   · rcases B.cnew b h with h | h
     · exact Bz.cnew b h
     · exact .inr (Nat.le_trans Bz.size h)
end Go.Cod
namespace Go.Cod
open Go
variable [Lam]
variable {P:Program} {ok:OkY} {E:Env P ok} {w0:World} {mod:Nat→Prop} {γ0:List G} {Pr0:Nat→Nat→Prop} {C0:Nat→Prop} {nt:Nat} {ρ:Option Nat}
 {Pr Pr':Nat→Nat→Prop} {γ γ' γc:List G} {C C':Nat→Prop} {fr fr':Nat→V} {st st':St} {a a':Act} {w w':World}
omit [Lam] in
theorem rowsUnder_mem {n:Nat}:∀ {l:List O},rowsUnder n l=true→∀ o∈l,o.box=true→∀ r∈o.es,V.under.underL n r=true
 | [],_,o,h=>by simp at h
 | o::os,h,p,hp=>by
   simp only [rowsUnder,Bool.and_eq_true] at h
   rcases List.mem_cons.1 hp with rfl | hp
   · intro hb r hr
     rw [hb] at h
     exact underLL_mem h.1 r hr
   · exact rowsUnder_mem h.2 p hp
def namesOf (σ:List Nat) (γ:List G):List G:=σ.map fun k=>(γ[k]?).getD ⟨0,0,0,0,0⟩
theorem handed (H:X P ok E w0 mod γ0 Pr0 C0 nt ρ Pr γ C fr st a w) {Pr1:Nat→Nat→Prop} {N:List Nat} (K1:Keep Pr Pr1 γ γ w w) (H1:X P ok E w0 mod γ0 Pr0 C0 nt ρ Pr1 γ C fr (lend st N) a w)
  {σ:List Nat} {kn:Bool} {f:Nat→Nat} {n:Nat} (hn:σ.Nodup) (hlt:∀ k∈σ,k < st.length) (hN:∀ k∈N,k∉σ) {γx:List G} (hx:∀ i k:Nat,σ[i]? = some k→γx[i]? = γ[k]?) {γc:List G}
  (hf:∀ k g,f k < n→γ[k]? = some g→γc[f k]? = some g) (hL:∀ k∈lentO σ st σ,σ.contains k=false→Lent Pr Pr1 γ w st k) {st0:St} (hg:∀ i:Nat,st0[i]? = (σ[i]?).map fun k=>mapO f (shrO σ kn st (getO st k)))
  (hu:rowsUnder n st0=true) :
  (∀ (i:Nat) (o:O) g,st0[i]? = some o→γx[i]? = some g→o.live=true→ObjOk Pr1 γc w o g) ∧
  (∀ (i j:Nat) (o p:O) g q,st0[i]? = some o→st0[j]? = some p→γx[i]? = some g→γx[j]? = some q→o.own=true→p.own=true→g.blk=q.blk→i=j) ∧
  (∀ (i:Nat) (o:O) g,st0[i]? = some o→γx[i]? = some g→∃ (k:Nat) (o1:O),σ[i]? = some k∧st[k]? = some o1∧(lend st N)[k]? = some o1∧γ[k]? = some g∧o.live=o1.live∧o.kind=o1.kind∧o.own=o1.own∧(o1.box=false→o=o1)) ∧
  (∀ (i:Nat) (o:O) g,st0[i]? = some o→γx[i]? = some g→o.kind=.map→MapOk Pr1 γc w o g) ∧
  (∀ (i:Nat) (o:O),st0[i]? = some o→o.kind=.pool→∃ k:Nat,σ[i]? = some k∧st[k]? = some o∧(lend st N)[k]? = some o):=by
 have key:∀ (i:Nat) (o:O) g,st0[i]? = some o→γx[i]? = some g→∃ (k:Nat) (o1:O),σ[i]? = some k∧st[k]? = some o1∧(lend st N)[k]? = some o1∧γ[k]? = some g∧o.live=o1.live∧o.kind=o1.kind∧o.own=o1.own∧(o1.box=false→o=o1)∧o=mapO f (shrO σ kn st o1):=by
  intro i o g h1 h2
  rw [hg,Option.map_eq_some_iff] at h1
  obtain ⟨k,hk,rfl⟩:=h1
  have hkm:=List.mem_of_getElem? hk
  have ho:=getO_eq (hlt k hkm)
  obtain ⟨a1,a2,a3,a4,a5,a6,a7⟩:=mapO_flags f (shrO σ kn st (getO st k))
  obtain ⟨b1,b2,b3,b4,b5,b6,b7⟩:=shrO_flags σ kn st (getO st k)
  refine ⟨k,getO st k,hk,ho,by rw [lend_ne _ (fun h=>hN k h hkm)]; exact ho,by rw [← hx i k hk]; exact h2,a1.trans b1,a5.trans b5,a7.trans b7,fun hb=>?_,rfl⟩
  have e1:shrO σ kn st (getO st k)=getO st k:=by simp [shrO,hb]
  rw [e1]; simp [mapO,hb]
 refine ⟨fun i o g h1 h2 hl=>?_,fun i j o p g q h1 h2 h3 h4 h5 h6 he=>?_,fun i o g h1 h2=>?_,fun i o g h1 h2 hk=>?_,fun i o h1 hk=>?_⟩
 · obtain ⟨k,o1,k1,k2,k2',k3,k4,k5,k6,_,rfl⟩:=key i o g h1 h2
   have hl1:o1.live=true:=k4.symm.trans hl
   have M1:=H1.st.obj k o1 g k2' k3 hl1
   have hgo:getO st k=o1:=by unfold getO; rw [k2]
   refine (H.st.obj k o1 g k2 k3 hl1).hand K1 hf M1.spare M1.excl (fun j hj hc=>hL j ?_ hc) (fun r hr hb=>?_)
   · exact mem_ownsO (List.mem_of_getElem? k1) (by rw [hgo]; exact hj)
   · have hb':(mapO f (shrO σ kn st o1)).box=true:=by
      rw [(mapO_flags f _).2.2.1,(shrO_flags σ kn st o1).2.2.1]; exact hb
     exact rowsUnder_mem hu _ (List.mem_of_getElem? h1) hb' r hr
 · obtain ⟨k,o1,k1,k2,k2',k3,k4,k5,k6,_⟩:=key i o g h1 h3
   obtain ⟨k',o1',l1,l2,l2',l3,l4,l5,l6,_⟩:=key j p q h2 h4
   have e:=H.own_one k2 l2 k3 l3 (k6.symm.trans h5) (l6.symm.trans h6) he
   subst e
   exact (List.getElem?_inj (List.getElem?_eq_some_iff.1 k1).1 hn).1 (k1.trans l1.symm)
 · obtain ⟨k,o1,k1,k2,k2',k3,k4,k5,k6,k7,_⟩:=key i o g h1 h2
   exact ⟨k,o1,k1,k2,k2',k3,k4,k5,k6,k7⟩
 · obtain ⟨k,o1,k1,k2,k2',k3,k4,k5,k6,k7,_⟩:=key i o g h1 h2
   have M:=H1.ext.maps k o1 g k2' k3 (k5.symm.trans hk)
   rw [k7 M.bx]
   exact (M.mapO (γ':=γc) (f:=fun i=>i)).2
 · rw [hg,Option.map_eq_some_iff] at h1
   obtain ⟨k,hk',rfl⟩:=h1
   have hkm:=List.mem_of_getElem? hk'
   have ho:=getO_eq (hlt k hkm)
   rw [(mapO_flags f _).2.2.2.2.1,(shrO_flags σ kn st _).2.2.2.2.1] at hk
   have hb:=H.ext.pools.bx k _ ho hk
   have e1:shrO σ kn st (getO st k)=getO st k:=by simp [shrO,hb]
   rw [e1,show mapO f (getO st k)=getO st k by simp [mapO,hb]]
   exact ⟨k,hk',ho,by rw [lend_ne _ (fun h=>hN k h hkm)]; exact ho⟩
omit [Lam] in
theorem RepL.mapNu {f:Nat→Nat} {n:Nat} {cs:List V} {us:List Value} (hf:∀ k g,f k < n→γ[k]? = some g→γ'[f k]? = some g) (h:RepL Pr γ w cs us) (hu:V.under.underL n (V.mapN.go f cs)=true):RepL Pr γ' w (V.mapN.go f cs) us:=by
 rw [mapNL_eq] at hu ⊢
 refine ⟨by simpa using h.1,fun i x u a b=>?_⟩
 have hx:=under_mem hu x (List.mem_of_getElem? a)
 rw [List.getElem?_map,Option.map_eq_some_iff] at a
 obtain ⟨y,hy,rfl⟩:=a
 exact (h.2 i y u hy b).mapNu hf hx
theorem ACallG_sound {f:FuncId} {vs:List V} {σ:List Nat} {kn:Bool} {K Z:V→St→Prop} (H:X P ok E w0 mod γ0 Pr0 C0 nt ρ Pr γ C fr st a w) {cargs:List Value}
  (h:ACallG P ok f vs st σ kn K Z) (hr:RepL Pr γ w vs cargs) :
  Callable P f∧Calls P f cargs.toArray w fun e w'=>∃ st' Pr' γ' C',X P ok E w0 mod γ0 Pr0 C0 nt ρ Pr' γ' C' fr st' a w' ∧
   ((∃ v cv,e=.returned cv∧K v st'∧Rep Pr' γ' w' v cv)∨(∃ v cv,e=.panicked [{ v:=cv,recovered:=false }]∧Z v st'∧Rep Pr' γ' w' v cv)):=by
 obtain ⟨hc,h⟩:=Chk_iff.1 h
 simp only [Bool.and_eq_true,decide_eq_true_eq,List.all_eq_true] at hc
 obtain ⟨⟨⟨hn,hlt⟩,hua⟩,huo⟩:=hc
 obtain ⟨Pr1,K1,H1,R⟩:=H.lend (lentN σ st vs)
 have hN:∀ k∈lentN σ st vs,k∉σ:=by
  intro k hk
  have:=(List.mem_filter.1 hk).2
  simpa using this
 have hL:∀ k∈owns.go vs++lentO σ st σ,σ.contains k=false→Lent Pr Pr1 γ w st k:=fun k hk hc es cv h1 h2=>R k (List.mem_filter.2 ⟨hk,by rw [hc]; rfl⟩) es cv h1 h2
 have hγlen:=H.st.len
 have hcn:∀ i k:Nat,σ[i]? = some k→(namesOf σ γ)[i]? = γ[k]? := by
  intro i k hk
  have hkl:k < γ.length:=by rw [hγlen]; exact hlt k (List.mem_of_getElem? hk)
  simp [namesOf,hk,hkl]
 have hcl:(namesOf σ γ).length=σ.length:=by simp [namesOf]
 have hf:∀ k g,idx σ k < σ.length→γ[k]? = some g→(namesOf σ γ)[idx σ k]? = some g:=fun k g h1 h2=>by rw [hcn _ k (idx_lt' h1)]; exact h2
 have hargs:=(shrL_rep (σ:=σ) (kn:=kn) K1 vs cargs (fun k hk hc=>hL k (List.mem_append_left _ hk) hc) hr).mapNu hf hua
 obtain ⟨d1,d2,d3,d4,d5⟩:=handed (f:=idx σ) (n:=σ.length) (kn:=kn) H K1 H1 hn hlt hN hcn (γc:=namesOf σ γ) hf (fun k hk hc=>hL k (List.mem_append_right _ hk) hc) (handO_get σ kn st σ) huo
 have hS0:StOk Pr1 (namesOf σ γ) w (handO σ kn st σ):=⟨by rw [hcl,handO_len],d1,fun i j o p g q h1 h2 h3 h4 h5 h6 he=>d2 i j o p g q h1 h2 h3 h4 (own_iff.2 (.inl h5)) (own_iff.2 (.inl h6)) he,H1.st.low,H1.st.laid⟩
 have hM:∀ b,modOf (handO σ kn st σ) (namesOf σ γ) b→∃ k∈σ,Owns (lend st (lentN σ st vs)) γ k b:=by
  rintro b ⟨i,o,h1,⟨g,h2,h3,rfl⟩ | ⟨h2,e,h3,rfl⟩⟩
  · obtain ⟨k,o1,k1,_,k2,k3,_,_,k6,_⟩:=d3 i o g h1 h2
    exact ⟨k,List.mem_of_getElem? k1,own_owns k2 k3 (k6.symm.trans h3)⟩
  · obtain ⟨k,k1,_,k2⟩:=d5 i o h1 h2
    exact ⟨k,List.mem_of_getElem? k1,lab_owns k2 h2 h3⟩
 have hP0:∀ {C':Nat→Prop},(∀ b,C' b→C b)→Pools w.heap.size (modOf (handO σ kn st σ) (namesOf σ γ)) C' Pr1 (namesOf σ γ) (handO σ kn st σ) w:=by
  intro C' hCC
  have Q:=H1.ext.pools
  refine ⟨fun i o h1 h2 e he=>?_,fun i o e h1 h2 he=>⟨fun hc=>?_,.inr ⟨i,lab_owns h1 h2 he⟩⟩,fun i i' o o' j j' e e' h1 h1' h2 h2' hj hj' he=>?_,fun i i' o o' g e h1 h2 he h1' hg hl hq=>?_,fun i o h1 h2=>?_⟩
  · obtain ⟨k,_,_,k2⟩:=d5 i o h1 h2
    exact Q.ent k o k2 h2 e he
  · obtain ⟨k,_,_,k2⟩:=d5 i o h1 h2
    exact (Q.free k o e k2 h2 he).1 (hCC _ hc)
  · obtain ⟨k,k1,_,k2⟩:=d5 i o h1 h2
    obtain ⟨k',k1',_,k2'⟩:=d5 i' o' h1' h2'
    obtain ⟨a1,a2⟩:=Q.one k k' o o' j j' e e' k2 k2' h2 h2' hj hj' he
    subst a1
    exact ⟨(List.getElem?_inj (List.getElem?_eq_some_iff.1 k1).1 hn).1 (k1.trans k1'.symm),a2⟩
  · obtain ⟨k,_,_,k2⟩:=d5 i o h1 h2
    obtain ⟨k',o1,k1',_,k2',k3',k4,_⟩:=d3 i' o' g h1' hg
    exact Q.sep k k' o o1 g e k2 h2 he k2' k3' (k4.symm.trans hl) hq
  · obtain ⟨k,_,_,k2⟩:=d5 i o h1 h2
    exact Q.bx k o k2 h2
 have hlt1:∀ k∈σ,k < (lend st (lentN σ st vs)).length:=fun k hk=>by rw [lend_len]; exact hlt k hk
 have fin:∀ {e:Ending} {w':World} {o:Out} {st':St} {γ':List G} {Pr':Nat→Nat→Prop} {C':Nat→Prop},RepO Pr' γ' w' o e→(∀ (i:Nat) g,(namesOf σ γ)[i]? = some g→γ'[i]? = some g) →
   onOut (V.mapN (back σ st.length)) (fun v=>K v (backSt σ (lend st (lentN σ st vs)) st')) (fun v=>Z v (backSt σ (lend st (lentN σ st vs)) st')) o →
   X P ok E w0 mod γ0 Pr0 C0 nt ρ Pr' (γ++γ'.drop σ.length) C' fr (backSt σ (lend st (lentN σ st vs)) st') a w' →
   ∃ st' Pr' γ' C',X P ok E w0 mod γ0 Pr0 C0 nt ρ Pr' γ' C' fr st' a w' ∧
     ((∃ v cv,e=.returned cv∧K v st'∧Rep Pr' γ' w' v cv)∨(∃ v cv,e=.panicked [{ v:=cv,recovered:=false }]∧Z v st'∧Rep Pr' γ' w' v cv)):=by
  intro e w' o st' γ' Pr' C' h1 h2 h3 h4
  have hm:∀ (k:Nat) g,γ'[k]? = some g→(γ++γ'.drop σ.length)[back σ st.length k]? = some g:=fun k g hk=>by
   have:=back_name hcn h2 (fun k hk=>by rw [hγlen]; exact hlt k hk) hk
   rw [hγlen] at this; exact this
  refine ⟨_,_,_,_,h4,?_⟩
  cases h1 with
  | ret hv=>exact .inl ⟨_,_,rfl,h3,hv.mapN hm⟩
  | pan hv=>exact .inr ⟨_,_,rfl,h3,hv.mapN hm⟩
 split at h
 ·
  rename_i hy
  have hyn:=hasYld_iff.1 hy
  refine ⟨h.1,(h.2 (Env.none P noY) (fun _=>False) Pr1 (namesOf σ γ) w cargs hargs hS0 ⟨fun b h=>h.elim,fun k o g _ _ _ h=>h,fun b n _=>.inl trivial,d4,fun i j o p g q h1 h2 h3 h4 h5 h6 he=>d2 i j o p g q h1 h2 h3 h4 (own_iff.2 (.inr h5)) (own_iff.2 (.inr h6)) he,
   fun k o g h1 h2 h3=>.inr ⟨k,own_owns h1 h2 (own_iff.2 (.inr h3))⟩,fun k o g h1 h2 h3=>absurd h3 (hyn o (List.mem_of_getElem? h1)),fun k k' o o' h1 h2 h3=>absurd h3 (hyn o (List.mem_of_getElem? h1)),⟨[],rfl,by simp,by simp⟩,fun l h=>(by cases h),hP0 fun _ h=>h.elim⟩).mono fun e w' hh=>?_⟩
  obtain ⟨o,st',γ',Pr',Cx,hrep,hR,hst',hmine,hext,B⟩:=hh
  have noy':∀ (k:Nat) (o:O),st'[k]? = some o→o.kind≠.yld:=by
   intro k o h1 h2
   obtain ⟨g,hg⟩:=hst'.at h1
   exact (hext.yld k o g h1 hg h2).2.2
  have hmc:∀ b,(w.heap.size≤b∨modOf (handO σ kn st σ) (namesOf σ γ) b)→¬ C b:=by
   intro b h1 h2
   rcases h1 with h1 | h1
   · have:=H.ext.clow b h2; omega
   · obtain ⟨k,_,ho⟩:=hM b h1
     exact H1.owns_free ho h2
  have hB:Base2 w (modOf (handO σ kn st σ) (namesOf σ γ)) (namesOf σ γ) Pr1 C Pr' γ' C w':=⟨B.os,B.tape,B.output,B.size,fun b h1 h2 _=>B.old b h1 h2 (fun h=>h),B.sub,B.new,B.names,B.cell,fun _ h=>h,fun _ h=>.inl h⟩
  obtain ⟨_,HX⟩:=H1.back hn hlt1 hcn hcl hM hst' hmine hext.mmine hB
   (fun k o g h1 h2 h3=>by
     rcases own_iff.1 h3 with h3 | h3
     · exact hmc _ (hmine k o g h1 h2 h3)
     · exact hmc _ (hext.mmine k o g h1 h2 h3))
   (fun b h=>Nat.lt_of_lt_of_le (H.ext.clow b h) B.size)
   (fun b n h=>by
     rcases B.new b n h with h | h | h
     · exact H1.ext.prC b n h
     · exact .inr (hmc b (.inl h))
     · exact .inr (hmc b (.inr h)))
   hext.maps hext.mone (fun k o g h1 h2 h3=>absurd h3 (noy' k o h1)) (hext.pools.move (fun k=>k) (fun _ _ h _=>h) (fun _ _ _ _ _ _ _ _ h=>h) (fun _ _=>rfl) (fun _ _ h=>h) (fun _ _ _=>rfl) (fun _ _ h=>hext.pools.unp h) (fun b h=>hmc b (hext.pools.at h).2) (fun _ h=>(hext.pools.at h).2) (fun k o g h1 h2 h3 hl=>hext.pools.notLive hl ⟨k,o,g,h1,h2,h3,rfl⟩)) (fun k k' o o' h1 h2 h3=>absurd h3 (noy' k o h1))
   (fun j o h1 h2 h3=>⟨fun b hb=>B.old b (H.ext.clow b hb) (fun hm=>hmc b (.inr hm) hb) (fun h=>h),fun _ h=>h,noy'⟩)
  exact fin hrep B.names hR HX
 ·
  rename_i hy
  have hyx:∃ o∈handO σ kn st σ,o.kind=.yld:=by
   refine Classical.byContradiction fun hno=>?_
   have:hasYld (handO σ kn st σ)=false:=hasYld_iff.2 fun o ho hk=>hno ⟨o,ho,hk⟩
   rw [hy] at this; cases this
  have hyl:∀ (i:Nat) (o:O) g,(handO σ kn st σ)[i]? = some o→(namesOf σ γ)[i]? = some g→o.kind=.yld→∃ k,σ[i]? = some k∧(lend st (lentN σ st vs))[k]? = some o∧γ[k]? = some g∧g.blk=E.l∧o.box=false∧E.Inv o.es o.excl C Pr1 w:=by
   intro i o g h1 h2 h3
   obtain ⟨k,o1,k1,_,k2,k3,_,k5,_,k7⟩:=d3 i o g h1 h2
   obtain ⟨y1,y2,y3⟩:=H1.ext.yld k o1 g k2 k3 (k5.symm.trans h3)
   have:=k7 y2
   subst this
   exact ⟨k,k1,k2,k3,y1,y2,y3⟩
  have hcx:∀ (i:Nat) (o:O),(handO σ kn st σ)[i]? = some o→∃ g,(namesOf σ γ)[i]? = some g:=fun i o h=>hS0.at h
  refine ⟨h.1,(h.2 E C Pr1 (namesOf σ γ) w cargs hargs hS0 ⟨H1.ext.clow,fun i o g h1 h2 h3=>?_,H1.ext.prC,d4,fun i j o p g q h1 h2 h3 h4 h5 h6 he=>d2 i j o p g q h1 h2 h3 h4 (own_iff.2 (.inr h5)) (own_iff.2 (.inr h6)) he,
   fun k o g h1 h2 h3=>.inr ⟨k,own_owns h1 h2 (own_iff.2 (.inr h3))⟩,fun i o g h1 h2 h3=>?_,fun i j o p h1 h2 h3 h4=>?_,⟨[],rfl,by simp,by simp⟩,fun l h=>(by cases h),hP0 fun _ h=>h⟩).mono fun e w' hh=>?_⟩
  · obtain ⟨k,o1,k1,_,k2,k3,_,_,k6,_⟩:=d3 i o g h1 h2
    exact H1.ext.apart k o1 g k2 k3 (k6.symm.trans h3)
  · obtain ⟨k,_,_,_,y⟩:=hyl i o g h1 h2 h3
    exact y
  · obtain ⟨g,hg⟩:=hcx i o h1
    obtain ⟨q,hq⟩:=hcx j p h2
    obtain ⟨k,k1,k2,_⟩:=hyl i o g h1 hg h3
    obtain ⟨l,l1,l2,_⟩:=hyl j p q h2 hq h4
    have e:=H1.ext.yone k l o p k2 l2 h3 h4
    subst e
    exact (List.getElem?_inj (List.getElem?_eq_some_iff.1 k1).1 hn).1 (k1.trans l1.symm)
  obtain ⟨o,st',γ',Pr',C',hrep,hR,hst',hmine,hext,B⟩:=hh
  obtain ⟨_,HX⟩:=H1.back hn hlt1 hcn hcl hM hst' hmine hext.mmine B hext.apart hext.clow hext.prC hext.maps hext.mone hext.yld hext.pools hext.yone (fun j o h1 h2 h3=>by
   exfalso
   obtain ⟨oy,hm,hk⟩:=hyx
   obtain ⟨i,hi⟩:=List.getElem?_of_mem hm
   obtain ⟨g,hg⟩:=hcx i oy hi
   obtain ⟨k,k1,k2,_⟩:=hyl i oy g hi hg hk
   exact h3 (H1.ext.yone j k o oy h1 k2 h2 hk ▸ List.mem_of_getElem? k1))
  exact fin hrep B.names hR HX
end Go.Cod
namespace Go.Cod
open Go
variable [Lam]
variable {P:Program} {ok:OkY} {E:Env P ok} {w0:World} {mod:Nat→Prop} {γ0:List G} {Pr0:Nat→Nat→Prop} {C0:Nat→Prop} {nt:Nat} {ρ:Option Nat}
 {Pr Pr':Nat→Nat→Prop} {γ γ' γc:List G} {C C':Nat→Prop} {fr fr':Nat→V} {st st':St} {a a':Act} {w w':World}
omit [Lam] in
theorem poolEs_some {k:Nat} {e:List V} (h:e∈poolEs st k):∃ o,st[k]? = some o∧o.kind=.pool∧o.es=poolEs st k∧e∈o.es:=by
 unfold poolEs at h ⊢
 split at h
 · rename_i o ho
   split at h
   · rename_i hk
     exact ⟨o,ho,hk,rfl,h⟩
   · simp at h
 · simp at h
theorem X.poolEnt (H:X P ok E w0 mod γ0 Pr0 C0 nt ρ Pr γ C fr st a w):∀ (k:Nat) e,e∈poolEs st k→EntOk Pr w e:=by
 intro k e h
 obtain ⟨o,h1,h2,_,h3⟩:=poolEs_some h
 exact H.ext.pools.ent k o h1 h2 e h3
omit [Lam] in
theorem labOf_ent (b cap sz:Nat) (rows):labOf (ent b cap sz rows)=b:=rfl
omit [Lam] in
theorem putEnt_get {b:Nat} {rows:List (List V)} {es:List (List V)} {i:Nat} {e':List V} (h:(putEnt b rows es)[i]? = some e'):∃ e,es[i]? = some e∧labOf e'=labOf e∧(labOf e=b→e'=ent b (capOf e) (szOfE e) rows)∧(labOf e≠b→e'=e):=by
 simp only [putEnt,List.getElem?_map,Option.map_eq_some_iff] at h
 obtain ⟨e,h1,rfl⟩:=h
 refine ⟨e,h1,?_,fun h=>by rw [if_pos h],fun h=>by rw [if_neg h]⟩
 split
 · rename_i h; rw [h]; rfl
 · rfl
theorem X.putPool (H:X P ok E w0 mod γ0 Pr0 C0 nt ρ Pr γ C fr st a w) {τ:Tau} (hτ:TauOk P τ) {t:TypeId} {ti:TI} (hti:τ t=some ti) {k b cap sz i j:Nat} {o:O} {rows:List (List V)} {e:List V} {v:V} {cv:Value}
  (hk:st[k]? = some o) (hp:o.kind=.pool) (hm:ent b cap sz rows∈o.es) (he:rows[i]? = some e) (hcl:V.clean.cleanL 0 v.cells=true) (hlf:v.cells.all V.leaf=true) (hlen:v.cells.length=ti.size) (hfit:j+ti.size≤e.length) (hv:Rep Pr γ w v cv) :
  ∃ w',X P ok E w0 mod γ0 Pr0 C0 nt ρ Pr γ C fr (st.set k (poolO (putEnt b (rows.set i (splice e j v.cells)) o.es))) a w'∧(Instr.storeAt t (.pointer (some ⟨b,i*sz+j,none⟩)) cv).run P w=.ok () w':=by
 have Q:=H.ext.pools
 obtain ⟨ty,hO⟩:=(Q.ent k o hk hp _ hm).obj
 let g:G:=⟨b,rows.length,cap,sz,ty⟩
 let o1:O:=⟨rows,sz,true,true,false,.cell⟩
 have hv0:Rep Pr [g] w (.agg v.cells) (.agg cv.cells):=by
  obtain ⟨⟨r1,r2⟩,_⟩:=hv.cellsL hlf
  have e:cv.cells=cv.cells.toList.toArray:=by simp
  rw [e]
  exact .agg r1 fun i x u p q=>(r2 i x u p q).names (n:=0) (fun k hk=>absurd hk (Nat.not_lt_zero _)) (cleanL_iff.1 hcl x (List.mem_of_getElem? p))
 have A1:AR w (fun x=>x=b) [g] Pr 0 Pr [g] (fun t=>.raw (a.tmps.getD t undef)) [o1] a w:=by
  refine ⟨fun k o q h1 h2 h3=>?_,⟨Nat.zero_le _,fun t=>.raw _⟩,⟨rfl,fun k o q h1 h2 h3=>?_,fun k k' o o' q q' h1 h2 h3 h4 _ _ _=>?_,H.st.low,H.st.laid⟩,⟨rfl,rfl,rfl,Nat.le_refl _,fun _ _ _=>rfl,fun _ _ h=>h,fun _ _ h=>.inl h,fun _ _ h=>h⟩⟩
  · match k,h2 with
    | 0,h2=>simp at h2; subst h2; exact .inr rfl
  · match k,h1,h2 with
    | 0,h1,h2=>simp at h1 h2; subst h1; subst h2; exact hO [g]
  · match k,k',h1,h2 with
    | 0,0,_,_=>rfl
 have hst:aStore τ t (.ptr 0 i j) (.agg v.cells) [o1] fun st'=>st'=[{ o1 with es:=rows.set i (splice e j v.cells) }]:=by
  unfold aStore
  rw [hti]
  simp only [List.getElem?_cons_zero,atRow_iff,Chk_iff,decide_eq_true_eq]
  exact ⟨rfl,rfl,by show (false||V.clean.cleanL 0 v.cells)=true; rw [hcl]; rfl,hlf,hlen,e,he,hfit,rfl⟩
 obtain ⟨st',w',rfl,K1,A',hrun⟩:=aStore_sound (P:=P) hτ A1 (by simp) hst (.ptr (g:=g) rfl) hv0
 have hnew:=A'.st.obj 0 _ g rfl rfl rfl
 have hcellsEq:(Instr.storeAt t (.pointer (some ⟨b,i*sz+j,none⟩)) cv).run P w=.ok () w':=by
  rw [← hrun]
  have ec:(Value.agg cv.cells).cells=cv.cells:=rfl
  simp only [Instr.storeAt,Instr.sureAddr,storeVar,Sem.run_bind,Sem.run_pure,Result.andThen_ok,ec,g]
 have B1:=A'.base
 have hold:∀ x,x < w.heap.size→x≠b→w'.heap[x]? = w.heap[x]? := fun x h1 h2=>B1.old x h1 h2
 have hlab:Lab st b:=⟨k,o,_,hk,hp,hm,rfl⟩
 obtain ⟨curb,tyb,fb,hbh⟩:=Q.cells hlab
 have hC:¬ C b:=(Q.at hlab).1
 have hkind:∀ {x:Nat} {ob:Obj},w.heap[x]? = some ob→(∀ cur ty fz,ob≠.cells cur ty fz)→w'.heap[x]? = w.heap[x]? := fun h1 h2=>hold _ (Array.getElem?_eq_some_iff.1 h1).1 fun e=>by
  rw [e,hbh] at h1; exact h2 _ _ _ (Option.some.inj h1).symm
 have K:Keep Pr Pr γ γ w w':=⟨fun _ _ h=>h,K1.cell,fun _ _ h=>h⟩
 have hdead:o.live=false:=by
  cases hl:o.live with
  | false=>rfl
  | true=>have:=live_kind H.st hk hl; rw [hp] at this; cases this
 have hklt:k < st.length:=(List.getElem?_eq_some_iff.1 hk).1
 generalize ho':poolO (putEnt b (rows.set i (splice e j v.cells)) o.es)=o'
 have ho'k:o'.kind=.pool:=by rw [← ho']; rfl
 have ho'l:o'.live=false:=by rw [← ho']; rfl
 have ho'es:o'.es=putEnt b (rows.set i (splice e j v.cells)) o.es:=by rw [← ho']; rfl
 have get:∀ {m:Nat} {p:O},(st.set k o')[m]? = some p→(m=k∧p=o')∨(m≠k∧st[m]? = some p):=by
  intro m p hj
  rw [List.getElem?_set] at hj
  by_cases e:k=m
  · subst e; simp [hklt] at hj; exact .inl ⟨rfl,hj.symm⟩
  · rw [if_neg e] at hj; exact .inr ⟨Ne.symm e,hj⟩
 have own:∀ {m:Nat} {p:O},(st.set k o')[m]? = some p→p.own=true→st[m]? = some p:=by
  intro m p hj hp'
  rcases get hj with ⟨_,rfl⟩ | ⟨_,hj⟩
  · rcases own_iff.1 hp' with h | h
    · rw [ho'l] at h; cases h
    · rw [ho'k] at h; cases h
  · exact hj
 have liveB:∀ {m:Nat} {p:O} {q:G},st[m]? = some p→γ[m]? = some q→p.live=true→q.blk≠b:=fun h1 h2 h3 e=>Q.notLive hlab ⟨_,_,_,h1,h2,h3,e⟩
 have D:=H.ext
 have B:=H.base
 have pget:∀ {m:Nat} {p:O} {n:Nat} {x:List V},(st.set k o')[m]? = some p→p.kind=.pool→p.es[n]? = some x→∃ p0 x0,st[m]? = some p0∧p0.kind=.pool∧p0.es[n]? = some x0∧labOf x=labOf x0∧(labOf x0≠b→x=x0)∧(labOf x0=b→x=ent b cap sz (rows.set i (splice e j v.cells))):=by
  intro m p n x hj hp' hx
  rcases get hj with ⟨rfl,rfl⟩ | ⟨hne,hj⟩
  · rw [ho'es] at hx
    obtain ⟨x0,h1,h2,h3,h4⟩:=putEnt_get hx
    refine ⟨o,x0,hk,hp,h1,h2,h4,fun hb=>?_⟩
    obtain ⟨n',hn'⟩:=List.getElem?_of_mem hm
    have:=(Q.one m m o o n n' x0 _ hk hk hp hp h1 hn' hb).2
    subst this
    rw [h1] at hn'; cases hn'
    exact h3 hb
  · refine ⟨p,x,hj,hp',hx,rfl,fun _=>rfl,fun hb=>?_⟩
    obtain ⟨n',hn'⟩:=List.getElem?_of_mem hm
    exact absurd (Q.one m k p o n n' x _ hj hk hp' hp hx hn' hb).1 hne
 refine ⟨w',⟨fun m p q h1 h2 h3=>?_,⟨fun x hx=>Nat.lt_of_lt_of_le (D.clow x hx) B1.size,fun m p q h1 h2 h3=>D.apart m p q (own h1 h3) h2 h3,D.prC,fun m p q h1 h2 h3=>?_,fun m m' p p' q q' h1 h1' h2 h2' h3 h3'=>D.mone m m' p p' q q' (own h1 (own_iff.2 (.inr h3))) (own h1' (own_iff.2 (.inr h3'))) h2 h2' h3 h3',fun m p q h1 h2 h3=>D.mmine m p q (own h1 (own_iff.2 (.inr h3))) h2 h3,fun m p q h1 h2 h3=>?_,fun m m' p p' h1 h1' h3 h3'=>?_,?_,fun l hl=>?_,?_⟩,H.fr.keep K,⟨by simp [H.st.len],fun m p q h1 h2 h3=>?_,fun m m' p p' q q' h1 h1' h2 h2' h3 h3'=>H.st.one m m' p p' q q' (own h1 (own_iff.2 (.inl h3))) (own h1' (own_iff.2 (.inl h3'))) h2 h2' h3 h3',fun x n hx=>Nat.lt_of_lt_of_le (H.st.low x n hx) B1.size,H.st.laid.keep K⟩,
  ⟨B1.os.trans B.os,B1.tape.trans B.tape,B1.output.trans B.output,Nat.le_trans B.size B1.size,fun x h1 h2 h3=>?_,B.sub,B.new,B.names,fun x n hx=>(K1.cell x n (B.sub x n hx)).trans (B.cell x n hx),B.csub,B.cnew⟩⟩,hcellsEq⟩
 · exact H.mine m p q (own h1 (own_iff.2 (.inl h3))) h2 h3
 · have h1':=own h1 (own_iff.2 (.inr h3))
   obtain ⟨ents,clock,e1,_⟩:=(D.maps m p q h1' h2 h3).ex
   exact (D.maps m p q h1' h2 h3).keep K (hkind e1 (by simp))
 · rcases get h1 with ⟨rfl,rfl⟩ | ⟨_,h1⟩
   · rw [ho'k] at h3; cases h3
   · obtain ⟨y1,y0,y2⟩:=D.yld m p q h1 h2 h3
     exact ⟨y1,y0,E.stable y2 ⟨B1.os,B1.tape,B1.output,B1.size,fun x hx=>hold x (D.clow x hx) (fun e=>hC (e ▸ hx)),K1.cell⟩⟩
 · have key:∀ {m:Nat} {p:O},(st.set k o')[m]? = some p→p.kind=.yld→st[m]? = some p:=by
    intro m p hj hy
    rcases get hj with ⟨rfl,rfl⟩ | ⟨_,hj⟩
    · rw [ho'k] at hy; cases hy
    · exact hj
   exact D.yone m m' p p' (key h1 h3) (key h1' h3') h3 h3'
 · obtain ⟨rs,m1,m2,m3⟩:=D.marks
   refine ⟨rs,m1,m2,fun r hr=>?_⟩
   obtain ⟨m4,m5,m6⟩:=m3 r hr
   exact ⟨by rw [hkind m4 (by simp)]; exact m4,m5,m6⟩
 · obtain ⟨l0,L,l1,l2⟩:=D.round l hl
   exact ⟨l0,L,by rw [hkind l1 (by simp)]; exact l1,l2⟩
 · refine ⟨fun m p h1 h2 x hx=>?_,fun m p x h1 h2 hx=>?_,fun m m' p p' n n' x x' h1 h1' h2 h2' hx hx' hl=>?_,fun m m' p p' q x h1 h2 hx h1' hq hl he'=>?_,fun m p h1 h2=>?_⟩
   · obtain ⟨n,hn⟩:=List.getElem?_of_mem hx
     obtain ⟨p0,x0,a1,a2,a3,a4,a5,a6⟩:=pget h1 h2 hn
     by_cases hb:labOf x0=b
     · rw [a6 hb]
       refine ⟨b,cap,sz,_,ty,rfl,?_⟩
       have hl:(rows.set i (splice e j v.cells)).length=rows.length:=by simp
       rw [hl]
       refine ⟨hl.symm,hnew.wid,hnew.le,hnew.max,hnew.sz,hnew.lf,?_,hnew.spare,hnew.excl,hnew.cl,hnew.kd⟩
       obtain ⟨cur,f,r1,r2,r3⟩:=hnew.row
       refine ⟨cur,f,r1,r2,fun i' e' j' x' p' q'=>?_⟩
       obtain ⟨u,hu,hr⟩:=r3 i' e' j' x' p' q'
       exact ⟨u,hu,hr.names (n:=0) (fun k hk=>absurd hk (Nat.not_lt_zero _)) (V.cleanL_mem (V.cleanLL_mem (hnew.cl rfl) e' (List.mem_of_getElem? p')) x' (List.mem_of_getElem? q'))⟩
     · rw [a5 hb]
       have hE:=Q.ent m p0 a1 a2 x0 (List.mem_of_getElem? a3)
       exact hE.move (hold _ (Q.lt ⟨m,p0,x0,a1,a2,List.mem_of_getElem? a3,rfl⟩) hb) (fun _ _ h=>h) K1.cell hE.lab.2
   · obtain ⟨n,hn⟩:=List.getElem?_of_mem hx
     obtain ⟨p0,x0,a1,a2,a3,a4,_⟩:=pget h1 h2 hn
     rw [a4]
     exact Q.free m p0 x0 a1 a2 (List.mem_of_getElem? a3)
   · obtain ⟨p0,x0,a1,a2,a3,a4,_⟩:=pget h1 h2 hx
     obtain ⟨p0',x0',b1,b2,b3,b4,_⟩:=pget h1' h2' hx'
     exact Q.one m m' p0 p0' n n' x0 x0' a1 b1 a2 b2 a3 b3 (a4.symm.trans (hl.trans b4))
   · obtain ⟨n,hn⟩:=List.getElem?_of_mem hx
     obtain ⟨p0,x0,a1,a2,a3,a4,_⟩:=pget h1 h2 hn
     exact Q.sep m m' p0 p' q x0 a1 a2 (List.mem_of_getElem? a3) (own h1' (own_iff.2 (.inl hl))) hq hl (he'.trans a4)
   · rcases get h1 with ⟨rfl,rfl⟩ | ⟨_,h1⟩
     · rw [← ho']; rfl
     · exact Q.bx m p h1 h2
 · have h1':=own h1 (own_iff.2 (.inl h3))
   have M:=H.st.obj m p q h1' h2 h3
   exact M.same K (hold _ M.lt (liveB h1' h2 h3)) (fun _ h=>h)
 · rw [hold x (Nat.lt_of_lt_of_le h1 B.size) (fun e=>?_)]
   · exact B.old x h1 h2 h3
   · subst e
     rcases (Q.at hlab).2 with h | h
     · omega
     · exact h2 h
omit [Lam] in
theorem flatL_mem:∀ {cs:List V},V.flat.go cs=true→∀ x∈cs,x.flat=true
 | [],_,x,h=>by simp at h
 | y::ys,h,x,hx=>by
   simp only [V.flat.go,Bool.and_eq_true] at h
   rcases List.mem_cons.1 hx with rfl | hx
   · exact h.1
   · exact flatL_mem h.2 x hx
omit [Lam] in
theorem Rep.flat {x:V} {u:Value} (h:Rep Pr γ w x u) (hx:x.flat=true):Rep Pr' γ w' x u:=by
 induction h with
 | bool b=>exact .bool b
 | int k n=>exact .int k n
 | str s=>exact .str s
 | agg hl _ ih=>simp only [V.flat] at hx; exact .agg hl fun i x u a b=>ih i x u a b (flatL_mem hx x (List.mem_of_getElem? a))
 | tup hl _ ih=>simp only [V.flat] at hx; exact .tup hl fun i x u a b=>ih i x u a b (flatL_mem hx x (List.mem_of_getElem? a))
 | nils a=>exact .nils a
 | sl0 a cap=>exact .sl0 a cap
 | @sl es _ _ _ _ u hcl hn hc hlf hm hr _ =>
   cases es with
   | nil=>exact .sl0 _ _
   | cons=>simp [V.flat] at hx
 | own h=>exact .own h
 | ptr h=>exact .ptr h
 | win h=>exact .win h
 | cptr h=>exact .cptr h
 | rptr=>simp [V.flat] at hx
 | fn hl _ ih=>simp only [V.flat] at hx; exact .fn hl fun i x u a b=>ih i x u a b (flatL_mem hx x (List.mem_of_getElem? a))
 | raw v=>exact .raw v
 | any h=>exact .any h
 | map h=>exact .map h
 | yld h=>exact .yld h
 | iface _ ih=>simp only [V.flat] at hx; exact .iface (ih hx)
 | meth _ ih=>simp only [V.flat] at hx; exact .meth (ih hx)
 | bnd _ ih=>simp only [V.flat] at hx; exact .bnd (ih hx)
 | dref b n c=>exact .dref b n c
 | dptr b n c d=>exact .dptr b n c d
omit [Lam] in
theorem View.rep {es:List (List V)} (hes:∀ e∈es,EntOk Pr w e) (h2:∀ b n,Pr b n→Pr' b n) (hl2:∀ e∈es,∀ n,Pr' (labOf e) n) {x y:V} (h:View es x y):∀ u,Rep Pr [] w x u→Rep Pr' [] w y u:=by
 induction h with
 | same x=>exact fun u hu=>hu.keep ⟨h2,fun _ _ _=>rfl,fun _ _ h=>h⟩
 | nils=>intro u hu; cases hu; exact .sl0 _ _
 | @dref b n cap sz rows rows' hm hn hl hcl hlf hr hv ih =>
   intro u hu
   cases hu
   obtain ⟨ty,hO⟩:=(hes _ hm).obj
   have M:=hO []
   obtain ⟨cur,f,r1,r2,r3⟩:=M.row
   subst hn
   rw [← hl]
   have lens:∀ (i:Nat) r',rows'[i]? = some r'→∃ r,rows[i]? = some r∧r.length=r'.length∧r'.length=sz:=by
    intro i r' hi
    have:i < rows.length:=by rw [← hl]; exact (List.getElem?_eq_some_iff.1 hi).1
    have hi':rows[i]? = some rows[i]:=by simp [this]
    have h1:=hr i _ r' hi' hi
    exact ⟨_,hi',h1,by rw [← h1]; exact M.sz _ (List.mem_of_getElem? hi')⟩
   have cel:∀ (i:Nat) r' (j:Nat) y,rows'[i]? = some r'→r'[j]? = some y→∃ x v,View es x y∧cur[i*sz+j]? = some v∧Rep Pr [] w x v∧Rep Pr' [] w y v:=by
    intro i r' j y hi hj
    obtain ⟨r,h1,h2,_⟩:=lens i r' hi
    have:j < r.length:=by rw [h2]; exact (List.getElem?_eq_some_iff.1 hj).1
    have hx:r[j]? = some r[j]:=by simp [this]
    obtain ⟨v,hv1,hv2⟩:=r3 i r j _ h1 hx
    exact ⟨_,v,hv i r r' j _ y h1 hi hx hj,hv1,hv2,ih i r r' j _ y h1 hi hx hj v hv2⟩
   refine .sl (off:=0) (c:=sz) (fun i j=>cur.getD (i*sz+j) undef) hcl (by rw [hl]; exact M.le) (fun e he=>?_) hlf (fun i e j y p q=>?_) (fun i e j y p q=>?_)
   · obtain ⟨i,hi⟩:=List.getElem?_of_mem he
     exact (lens i e hi).choose_spec.2.2
   · obtain ⟨x,v,_,c1,_,_⟩:=cel i e j y p q
     refine ⟨?_,hl2 _ hm _⟩
     have h1:=r1.1
     simp only at h1
     simp only [World.cell?,h1,Nat.zero_add,Array.getD_eq_getD_getElem?,c1,Option.getD_some]
     rfl
   · obtain ⟨x,v,_,c1,_,c2⟩:=cel i e j y p q
     simp only [Array.getD_eq_getD_getElem?,c1,Option.getD_some]
     exact c2
 | agg hl _ ih =>
   intro u hu
   cases hu with
   | agg hl' hr =>
     refine .agg (hl.symm.trans hl') fun i y u p q=>?_
     have hi:=(List.getElem?_eq_some_iff.1 p).1
     rw [← hl] at hi
     exact ih i _ y (List.getElem?_eq_getElem hi) p u (hr i _ u (List.getElem?_eq_getElem hi) q)
 | tup hl _ ih =>
   intro u hu
   cases hu with
   | tup hl' hr =>
     refine .tup (hl.symm.trans hl') fun i y u p q=>?_
     have hi:=(List.getElem?_eq_some_iff.1 p).1
     rw [← hl] at hi
     exact ih i _ y (List.getElem?_eq_getElem hi) p u (hr i _ u (List.getElem?_eq_getElem hi) q)
theorem X.grown (H:X P ok E w0 mod γ0 Pr0 C0 nt ρ Pr γ C fr st a w) (hos:w'.os=w.os) (htape:w'.tape=w.tape) (hout:w'.output=w.output) (hsz:w.heap.size≤w'.heap.size) (hold:∀ b,b < w.heap.size→w'.heap[b]? = w.heap[b]?):X P ok E w0 mod γ0 Pr0 C0 nt ρ Pr γ C fr st a w':=by
 have K:Keep Pr Pr γ γ w w':=⟨fun _ _ h=>h,fun b n h=>cell_of_block (hold b (H.st.low b n h)) n,fun _ _ h=>h⟩
 have A0:=H.core
 refine H.step (Pr':=Pr) (γ':=γ) (fr':=fr) (st':=st) (a':=a) ⟨A0.mine,A0.fr.keep K,A0.st.still ⟨K,fun k o g h1 h2 h3 _=>hold _ ((H.st.obj k o g h1 h2 h3).lt),fun k o g n h1 h2 h3 _ hp=>hp⟩ (fun b n h=>Nat.lt_of_lt_of_le (H.st.low b n h) hsz),⟨hos,htape,hout,hsz,fun b h1 _=>hold b h1,fun _ _ h=>h,fun b n h=>.inl h,fun _ _ h=>h⟩⟩ K (.refl _) rfl
theorem LentPure.at {f:FuncId} {vs:List V} {R:V→Prop} (h:LentPure P f vs st R) (H:X P ok E w0 mod γ0 Pr0 C0 nt ρ Pr γ C fr st a w) {cargs:List Value} (hr:RepL Pr [] w vs cargs) :
  Callable P f∧Calls P f cargs.toArray w fun e w'=>∃ v cv Pr',e=.returned cv∧R v∧X P ok E w0 mod γ0 Pr0 C0 nt ρ Pr' γ C fr st a w'∧Rep Pr' γ w' v cv:=by
 obtain ⟨es,vs',he,hv,hcl,hf⟩:=h
 by_cases hE:es=[]
 · subst hE
   have h1:RepL Pr [] w vs' cargs:=⟨hv.1.symm.trans hr.1,fun i y u p q=>by
    have hi:i < vs.length:=by rw [hv.1]; exact (List.getElem?_eq_some_iff.1 p).1
    exact (hv.2 i _ y (List.getElem?_eq_getElem hi) p).rep (by simp) (fun _ _ h=>h) (by simp) u (hr.2 i _ u (List.getElem?_eq_getElem hi) q)⟩
   have hf2:Pure P f vs' R:=hf.mono fun r h=>h.2
   refine ⟨hf2.1,(hf2.at H h1).mono fun e w' hh=>?_⟩
   obtain ⟨v,cv,Pr',h2,hK,_,HX,hv⟩:=hh
   exact ⟨v,cv,Pr',h2,hK,HX,hv⟩
 have hEm:es.isEmpty=false:=by cases es <;> simp_all
 have hes:∀ e∈es,EntOk Pr w e:=fun e h=>by obtain ⟨k,hk⟩:=he e h; exact H.poolEnt k e hk
 let Pr2:Nat→Nat→Prop:=fun b n=>Pr b n∨∃ e∈es,labOf e=b
 have hr2:RepL Pr2 [] w vs' cargs:=⟨hv.1.symm.trans hr.1,fun i y u p q=>by
  have hi:i < vs.length:=by rw [hv.1]; exact (List.getElem?_eq_some_iff.1 p).1
  exact (hv.2 i _ y (List.getElem?_eq_getElem hi) p).rep hes (fun _ _ h=>.inl h) (fun e he n=>.inr ⟨e,he,rfl⟩) u (hr.2 i _ u (List.getElem?_eq_getElem hi) q)⟩
 have hlow:∀ b n,Pr2 b n→b < w.heap.size:=by
  rintro b n (h | ⟨e,h,rfl⟩)
  · exact H.st.low b n h
  · obtain ⟨cur,ty,f,h1⟩:=(hes e h).lab.1
    exact (Array.getElem?_eq_some_iff.1 h1).1
 have hS:StOk Pr2 [] w []:=⟨rfl,fun k o g h=>by simp at h,fun k k' o o' g g' h=>by simp at h,hlow,H.st.laid.keep (γ:=[]) (γ':=[]) ⟨fun _ _ h=>.inl h,fun _ _ _=>rfl,fun _ _ h=>h⟩⟩
 refine ⟨hf.1,(hf.2 (Env.none P noY) (fun _=>False) Pr2 [] w cargs hr2 hS (Ext.nil _ _ _ _)).mono fun e w' hh=>?_⟩
 obtain ⟨o,st',γ',Pr',C',hrep,⟨rfl,r,rfl,hfl,hR⟩,hst,hmine,hext,B⟩:=hh
 rw [hEm,Bool.or_false] at hfl
 cases hrep with
 | ret hv =>
 rename_i cv
 have hγ:γ'=[]:=by have:=hst.len; simpa using this
 subst hγ
 have nomod:∀ b,¬ modOf [] [] b:=fun b ⟨k,o,h1,_⟩=>by simp at h1
 have hold:∀ b,b < w.heap.size→w'.heap[b]? = w.heap[b]? := fun b hb=>B.old b hb (nomod b) (fun h=>h)
 exact ⟨r,cv,Pr,rfl,hR,H.grown B.os B.tape B.output B.size hold,(hv.flat (Pr':=Pr) (w':=w') hfl).names (n:=0) (fun k hk=>absurd hk (Nat.not_lt_zero _)) hv.clean0⟩
end Go.Cod
namespace Go.Cod
open Go
variable [Lam]
structure TauGood (P:Program) (τ:Tau):Prop where
 ok:TauOk P τ
 mixed:P.follows .mixedOrders=true
 u8:∀ t ti,τ t=some ti→ti.kind=.int .u8→ti.size=1
variable {P:Program} {ok:OkY} {E:Env P ok} {w0:World} {mod:Nat→Prop} {γ0:List G} {Pr0:Nat→Nat→Prop} {C0:Nat→Prop} {nt:Nat} {ρ:Option Nat}
 {Pr Pr':Nat→Nat→Prop} {γ γ' γc:List G} {C C':Nat→Prop} {fr fr':Nat→V} {st st':St} {a a':Act} {w w':World}
omit [Lam] in
theorem wp_value {o:Oper} {cv:Value} {next:Act→World→Prop} {Q:Exit→Act→World→Prop} (hd:∀ c,o.op≠.defer c) (h:(execOp a.eval o).run P w=.ok (.value cv) w') (hn:next (a.put o.dst cv) w'):o.wpIn (fen ρ) 0 P a w next Q:=by
 refine ⟨fun _ _=>trivial,?_⟩
 rw [Oper.semAt_eq _ _ _ hd,h]; exact hn
omit [Lam] in
theorem wp_skipped {o:Oper} {next:Act→World→Prop} {Q:Exit→Act→World→Prop} (hd:∀ c,o.op≠.defer c) (h:(execOp a.eval o).run P w=.ok .skip w') (hn:next (a.put o.dst undef) w'):o.wpIn (fen ρ) 0 P a w next Q:=by
 refine ⟨fun _ _=>trivial,?_⟩
 rw [Oper.semAt_eq _ _ _ hd,h]; exact hn
omit [Lam] in
theorem wp_enter {o:Oper} {f:FuncId} {args:Array Value} {next:Act→World→Prop} {Q:Exit→Act→World→Prop} (hd:∀ c,o.op≠.defer c) (h:(execOp a.eval o).run P w=.ok (.enter f args) w)
  (hc:Calls P f args w fun e w'=>(∃ v,e=.returned v∧next (a.put o.dst v) w')∨(∃ ch,e=.panicked ch∧Q (.panic ch) a w')):o.wpIn (fen ρ) 0 P a w next Q:=by
 refine ⟨fun _ _=>trivial,?_⟩
 rw [Oper.semAt_eq _ _ _ hd,h,Oper.uponIn_enter]
 refine ⟨(fun h=>by cases h),callsIn_fen.2 (hc.mono fun e w' hh=>?_)⟩
 rcases hh with ⟨v,rfl,h⟩ | ⟨ch,rfl,h⟩ <;> exact h
omit [Lam] in
theorem opt_ev (F:FrOk Pr γ w fr a nt) (x:Option Operand):(∀ y,x.map (ev fr)=some y→∃ c,x.map a.eval=some c∧Rep Pr γ w y c)∧(x.map (ev fr)=none→x.map a.eval=none):=by
 cases x with
 | none=>exact ⟨fun y h=>by simp at h,fun _=>rfl⟩
 | some x=>exact ⟨fun y h=>by simp at h; subst h; exact ⟨_,rfl,F.ev x⟩,fun h=>by simp at h⟩
omit [Lam] in
theorem parts_ev (F:FrOk Pr γ w fr a nt) (parts:Array (Nat × Operand)) :
  (parts.toList.map fun p=>(p.1,ev fr p.2)).length=(parts.map fun (i,x)=>(i,a.eval x)).toList.length ∧
  ∀ (j:Nat) p q,(parts.toList.map fun p=>(p.1,ev fr p.2))[j]? = some p→(parts.map fun (i,x)=>(i,a.eval x)).toList[j]? = some q→p.1=q.1∧Rep Pr γ w p.2 q.2:=by
 refine ⟨by simp,fun j p q hp hq=>?_⟩
 simp only [List.getElem?_map,Array.toList_map,Option.map_eq_some_iff] at hp hq
 obtain ⟨x,hx,rfl⟩:=hp
 obtain ⟨y,hy,rfl⟩:=hq
 rw [hx] at hy; cases hy
 exact ⟨rfl,F.ev _⟩
omit [Lam] in
theorem args_ev (F:FrOk Pr γ w fr a nt):∀ l:List Operand,RepL Pr γ w (l.map (ev fr)) (l.map a.eval)
 | []=>RepL.nil
 | x::xs=>RepL.cons (F.ev x) (args_ev F xs)
omit [Lam] in
theorem RepL.append {cs us ds vs} (h:RepL Pr γ w cs us) (k:RepL Pr γ w ds vs):RepL Pr γ w (cs++ds) (us++vs):=by
 refine ⟨by simp [h.1,k.1],fun i x u a b=>?_⟩
 by_cases hi:i < cs.length
 · rw [List.getElem?_append_left hi] at a
   rw [List.getElem?_append_left (by rw [← h.1]; exact hi)] at b
   exact h.2 i x u a b
 · rw [List.getElem?_append_right (by omega)] at a
   rw [List.getElem?_append_right (by rw [← h.1]; omega),← h.1] at b
   exact k.2 _ x u a b
omit [Lam] in
mutual
theorem clean_owns:∀ (x:V),x.clean 0=true→owns x=[]
 | .own _,h=>by simp [V.clean] at h
 | .agg cs,h | .tup cs,h | .fn _ cs,h=>by simp only [V.clean] at h; simpa [owns] using cleanL_owns cs h
 | .iface _ x,h=>by simp only [V.clean] at h; simpa [owns] using clean_owns x h
 | .meth _ x,h=>by simp only [V.clean] at h; simpa [owns] using clean_owns x h
 | .bnd _ x,h=>by simp only [V.clean] at h; simpa [owns] using clean_owns x h
 | .bool _,_ | .int _ _,_ | .str _,_ | .nils,_ | .sl _,_ | .ptr _ _ _,_ | .win _ _ _ _,_ | .cptr _ _,_ | .rptr _,_ | .raw _,_ | .any,_ | .map _,_ | .yld _,_ | .dref _ _ _,_ | .dptr _ _ _ _,_=>rfl
theorem cleanL_owns:∀ (cs:List V),V.clean.cleanL 0 cs=true→owns.go cs=[]
 | [],_=>rfl
 | x::xs,h=>by
   simp only [V.clean.cleanL,Bool.and_eq_true] at h
   simp [owns.go,clean_owns x h.1,cleanL_owns xs h.2]
end
omit [Lam] in
theorem RepL.names {γ':List G} {n:Nat} (hγ:∀ k,k < n→γ'[k]? = γ[k]?) {cs:List V} {us:List Value} (h:RepL Pr γ w cs us) (hc:V.clean.cleanL n cs=true):RepL Pr γ' w cs us :=
 ⟨h.1,fun i x u a b=>(h.2 i x u a b).names hγ (cleanL_iff.1 hc x (List.mem_of_getElem? a))⟩
theorem ACall_sound {f:FuncId} {vs:List V} {K Z:V→St→Prop} (H:X P ok E w0 mod γ0 Pr0 C0 nt ρ Pr γ C fr st a w) {cargs:List Value} (h:ACall P ok f vs st K Z) (hr:RepL Pr γ w vs cargs) :
  Callable P f∧Calls P f cargs.toArray w fun e w'=>∃ st' Pr' γ' C',X P ok E w0 mod γ0 Pr0 C0 nt ρ Pr' γ' C' fr st' a w' ∧
   ((∃ v cv,e=.returned cv∧K v st'∧Rep Pr' γ' w' v cv)∨(∃ v cv,e=.panicked [{ v:=cv,recovered:=false }]∧Z v st'∧Rep Pr' γ' w' v cv)):=by
 unfold ACall at h
 split at h
 · rename_i hc
   have h0:RepL Pr [] w vs cargs:=hr.names (n:=0) (fun k hk=>absurd hk (Nat.not_lt_zero _)) hc
   rcases h with h | ⟨σ,kn,h⟩ | h
   · have h1:RepL Pr [] w (share.go st vs) cargs:=shareL_rep (Keep.refl _ _ _) vs cargs (fun k hk=>by rw [cleanL_owns vs hc] at hk; simp at hk) h0
     refine ⟨h.1,(h.at H h1).mono fun e w' hh=>?_⟩
     obtain ⟨v,cv,Pr',rfl,hK,_,HX,hv⟩:=hh
     exact ⟨_,_,_,_,HX,.inl ⟨v,cv,rfl,hK,hv⟩⟩
   · exact ACallG_sound H h hr
   · obtain ⟨hc1,hc2⟩:=h.at H h0
     refine ⟨hc1,hc2.mono fun e w' hh=>?_⟩
     obtain ⟨v,cv,Pr',rfl,hK,HX,hv⟩:=hh
     exact ⟨_,_,_,_,HX,.inl ⟨v,cv,rfl,hK,hv⟩⟩
 · obtain ⟨σ,kn,h⟩:=h
   exact ACallG_sound H h hr
omit [Lam] in
theorem run_callFunc {f:FuncId} (h:Callable P f) (args:Array Value) (w:World):(callFunc f args).run P w=.ok (.enter f args) w:=by
 obtain ⟨fn,q1,q2,q3⟩:=h
 simp only [callFunc,Sem.run_bind,run_program,Result.andThen_ok,q1,q2,q3,Bool.false_eq_true,if_false]
 rfl
theorem aOp_sound {τ:Tau} (hτ:TauGood P τ) {o:Oper} {K Z:V→St→Prop} (H:X P ok E w0 mod γ0 Pr0 C0 nt ρ Pr γ C fr st a w)
  (h:aOp P ok τ o fr st K Z) {next:Act→World→Prop} {Q:Exit→Act→World→Prop}
  (hn:∀ v cv st' Pr' γ' C' w',K v st'→Rep Pr' γ' w' v cv→X P ok E w0 mod γ0 Pr0 C0 nt ρ Pr' γ' C' fr st' a w'→next (a.put o.dst cv) w')
  (hz:∀ v cv st' Pr' γ' C' w',Z v st'→Rep Pr' γ' w' v cv→X P ok E w0 mod γ0 Pr0 C0 nt ρ Pr' γ' C' fr st' a w'→Q (.panic [{ v:=cv,recovered:=false }]) a w'):o.wpIn (fen ρ) 0 P a w next Q:=by
 have F:=H.fr
 have A:=H.core
 have M:=H.ext.maps
 have callOut:∀ {f:FuncId} {vs:List V} {cargs:List Value} {args:Array Value},ACall P ok f vs st K Z→RepL Pr γ w vs cargs→(∀ c,o.op≠.defer c)→(execOp a.eval o).run P w=(callFunc f args).run P w→args=cargs.toArray→o.wpIn (fen ρ) 0 P a w next Q:=by
  intro f vs cargs args hc hr hd hrun he
  subst he
  obtain ⟨hcal,hcalls⟩:=ACall_sound H hc hr
  rw [run_callFunc hcal] at hrun
  refine wp_enter hd hrun (hcalls.mono fun e w' hh=>?_)
  obtain ⟨st',Pr',γ',C',HX,hh⟩:=hh
  rcases hh with ⟨v,cv,rfl,hk,hv⟩ | ⟨v,cv,rfl,hk,hv⟩
  · exact .inl ⟨cv,rfl,hn _ _ _ _ _ _ _ hk hv HX⟩
  · exact .inr ⟨_,rfl,hz _ _ _ _ _ _ _ hk hv HX⟩
 have semOut:SemOp P o (semVals fr o) st K→o.wpIn (fen ρ) 0 P a w next Q:=by
  intro hs
  unfold SemOp at hs
  obtain ⟨hd,hs⟩:=hs
  obtain ⟨v,cv,st',Pr',γ',C',w',h1,h2,h3,h4⟩:=hs ok E w0 mod γ0 Pr0 C0 nt ρ Pr γ C fr a w H (args_ev F o.op.operands.toList)
  exact wp_value hd h4 (hn _ _ _ _ _ _ _ h1 h2 h3)
 unfold aOp at h
 split at h
 case h_1 x ho=>exact wp_value (by simp [ho]) (by simp [execOp,ho]) (hn _ _ _ _ _ _ _ h (F.ev x) H)
 case h_2 x ho=>exact wp_value (by simp [ho]) (by simp [execOp,ho]) (hn _ _ _ _ _ _ _ h (F.ev x) H)
 case h_3 c x y ho =>
  split at h
  · rename_i t ht
    have hc:=F.ev c
    rw [ht] at hc
    generalize hcc:a.eval c=cc at hc
    cases hc
    refine wp_value (by simp [ho]) (cv:=if t then a.eval x else a.eval y) (w':=w) (by simp [execOp,ho,hcc,asBool]) (hn _ _ _ _ _ _ _ h ?_ H)
    cases t <;> simp [F.ev]
  · exact h.elim
 case h_4 e x ho =>
  obtain ⟨hl,h⟩:=Chk_iff.1 h
  obtain ⟨v,cv,st',γ',w',⟨h1,hs⟩,h2,h3,h4,h5⟩:=aBox_sound (P:=P) (t:=e) (K:=fun v st'=>K v st'∧XSame st st') A hl ⟨(by rw [lenK0] at h; exact h),.push st rfl⟩ (F.ev x)
  exact wp_value (by simp [ho]) (by simp [execOp,ho,h5]) (hn _ _ _ _ _ _ _ h1 h4 (H.step h3 h2 hs rfl))
 case h_5 e ho =>
  split at h
  · rename_i ti hti
    obtain ⟨v,cv,st',γ',w',⟨h1,hs⟩,h2,h3,h4,h5⟩:=aAlloc_sound (K:=fun v st'=>K v st'∧XSame st st') hτ.ok hti A (Chk_iff.1 h).1 ⟨(by have h:=(Chk_iff.1 h).2; rw [lenK0] at h; exact h),.push st rfl⟩
    exact wp_value (by simp [ho]) (by simp [execOp,ho,h5]) (hn _ _ _ _ _ _ _ h1 h4 (H.step h3 h2 hs rfl))
  · exact h.elim
 case h_6 t p ho =>
  obtain ⟨v,cv,h1,h2,h3⟩:=aLoad_sound hτ.ok A.st H.poolEnt h (F.ev p)
  exact wp_value (by simp [ho]) (by simp [execOp,ho,h3]) (hn _ _ _ _ _ _ _ h1 h2 H)
 case h_7 t p v ho =>
  by_cases hd:∃ b sz i j,ev fr p=.dptr b sz i j
  · obtain ⟨b,sz,i,j,hd⟩:=hd
    have hfp:=F.ev p
    rw [hd] at h hfp
    unfold aStore at h
    split at h
    · rename_i hti heq; cases heq
    · rename_i hti heq; cases heq
    · rename_i ti _ _ _ _ hti heq
      cases heq
      obtain ⟨k,cap,rows,e,es',hm,he,rfl,h⟩:=h
      simp only [Chk_iff,decide_eq_true_eq] at h
      obtain ⟨h1,h2,h3,h4,h5⟩:=h
      obtain ⟨o',q1,q2,q3,q4⟩:=poolEs_some hm
      obtain ⟨w',HX,hrun⟩:=H.putPool hτ.ok hti q1 q2 q4 he h1 h2 h3 h4 (F.ev v)
      rw [← q3] at h5
      have hp':a.eval p=.pointer (some ⟨b,i*sz+j,none⟩):=by
       generalize a.eval p=cp at hfp
       cases hfp; rfl
      exact wp_skipped (by simp [ho]) (by simp [execOp,ho,hp',hrun]) (hn _ _ _ _ _ _ _ h5 (.raw _) HX)
    · exact h.elim
  · have hnd:∀ b sz i j,ev fr p≠.dptr b sz i j:=fun b sz i j e=>hd ⟨b,sz,i,j,e⟩
    obtain ⟨st',w',⟨h1,hs⟩,h2,h3,h4⟩:=aStore_sound hτ.ok A hnd (aStore_x hnd H.st h) (F.ev p) (F.ev v)
    exact wp_skipped (by simp [ho]) (by simp [execOp,ho,h4]) (hn _ _ _ _ _ _ _ h1 (.raw _) (H.step h3 h2 hs rfl))
 case h_8 op t x y yt ho =>
  obtain ⟨v,cv,h1,h2,h3⟩:=aBin_sound hτ.ok (X:=x) (Y:=y) h (F.ev x) (F.ev y)
  refine wp_value (by simp [ho]) ?_ (hn _ _ _ _ _ _ _ h1 h2 H)
  simp only [execOp,ho]
  rw [Sem.run_bind,h3]; rfl
 case h_9 op t x ho =>
  obtain ⟨v,cv,h1,h2,h3⟩:=aUn_sound (P:=P) h (F.ev x)
  exact wp_value (by simp [ho]) (by simp [execOp,ho,h3]) (hn _ _ _ _ _ _ _ h1 h2 H)
 case h_10 src dst x ho =>
  obtain ⟨v,cv,st',γ',w',⟨h1,hs⟩,h2,h3,h4,h5⟩:=aConvert_sound hτ.ok A (aConvert_x h) (F.ev x)
  exact wp_value (by simp [ho]) (by simp [execOp,ho,h5]) (hn _ _ _ _ _ _ _ h1 h4 (H.step h3 h2 hs rfl))
 case h_11 t x y ho =>
  split at h
  · exact semOut h
  · obtain ⟨v,cv,st',γ',w',⟨h1,hs⟩,h2,h3,h4,h5⟩:=aMake_sound hτ.ok A (aMake_x h) (F.ev x) (F.ev y)
    exact wp_value (by simp [ho]) (by simp [execOp,ho,h5]) (hn _ _ _ _ _ _ _ h1 h4 (H.step h3 h2 hs rfl))
 case h_12 t x lo hi ho =>
  obtain ⟨l1,l2⟩:=opt_ev F lo
  obtain ⟨r1,r2⟩:=opt_ev F hi
  obtain ⟨v,cv,st',Pr',⟨h1,hs⟩,h2,h3,h4,h5⟩:=aSlice_sound hτ.ok A (aSlice_x A h) (F.ev x) l1 l2 r1 r2
  exact wp_value (by simp [ho]) (by simp [execOp,ho,h5]) (hn _ _ _ _ _ _ _ h1 h4 (H.step h3 h2 hs rfl))
 case h_13 s x f ho =>
  obtain ⟨v,cv,h1,h2,h3⟩:=aFieldAddr_sound hτ.ok h (F.ev x)
  exact wp_value (by simp [ho]) (by simp [execOp,ho,h3]) (hn _ _ _ _ _ _ _ h1 h2 H)
 case h_14 s x f ho =>
  obtain ⟨v,cv,h1,h2,h3⟩:=aField_sound hτ.ok h (F.ev x)
  exact wp_value (by simp [ho]) (by simp [execOp,ho,h3]) (hn _ _ _ _ _ _ _ h1 h2 H)
 case h_15 t x i ho =>
  obtain ⟨v,cv,h1,h2,h3⟩:=aIndexAddr_sound hτ.ok A.st h (F.ev x) (F.ev i)
  exact wp_value (by simp [ho]) (by simp [execOp,ho,h3]) (hn _ _ _ _ _ _ _ h1 h2 H)
 case h_16 t x i ho =>
  obtain ⟨v,cv,h1,h2,h3⟩:=aIndex_sound hτ.ok h (F.ev x) (F.ev i)
  exact wp_value (by simp [ho]) (by simp [execOp,ho,h3]) (hn _ _ _ _ _ _ _ h1 h2 H)
 case h_17 x i ho =>
  split at h
  · rename_i vs hvs
    split at h
    · rename_i v hv
      have hx:=F.ev x
      rw [hvs] at hx
      generalize hcc:a.eval x=cc at hx
      cases hx with
      | tup hl hr =>
        rename_i us
        have hlt:i < us.length:=by rw [← hl]; exact (List.getElem?_eq_some_iff.1 hv).1
        exact wp_value (by simp [ho]) (cv:=us[i]) (w':=w) (by simp [execOp,ho,hcc,Instr.extract,hlt]) (hn _ _ _ _ _ _ _ h (hr i v us[i] hv (by simp [hlt])) H)
    · exact h.elim
  · exact h.elim
 case h_18 t parts ho =>
  obtain ⟨p1,p2⟩:=parts_ev F parts
  obtain ⟨v,cv,h1,h2,h3⟩:=aBuild_sound hτ.ok h p1 p2
  exact wp_value (by simp [ho]) (by simp [execOp,ho,h3]) (hn _ _ _ _ _ _ _ h1 h2 H)
 case h_19 t len parts ho =>
  obtain ⟨p1,p2⟩:=parts_ev F parts
  obtain ⟨v,cv,st',Pr',γ',w',⟨h1,hs⟩,h2,h3,h4,h5⟩:=aBuildSlice_sound hτ.ok A (aBuildSlice_x A h) p1 p2
  exact wp_value (by simp [ho]) (by simp [execOp,ho,h5]) (hn _ _ _ _ _ _ _ h1 h4 (H.step h3 h2 hs rfl))
 case h_20 f first cap ho =>
  have hr:=args_ev F cap.toList
  split at h
  · rename_i hz
    have hz1:first=#[]:=by rw [← Array.toList_inj]; simpa using hz
    subst hz1
    exact wp_value (by simp [ho]) (cv:=.func (.func f) #[] (cap.toList.map a.eval).toArray) (w':=w) (by simp [execOp,ho,Instr.makeFunc]; apply Array.ext'; simp) (hn _ _ _ _ _ _ _ h (.fn hr.1 hr.2) H)
  · rename_i x hz
    obtain ⟨hz0,h⟩:=Chk_iff.1 h
    have hz1:cap=#[]:=Array.eq_empty_of_size_eq_zero (of_decide_eq_true hz0)
    subst hz1
    have hz2:first=#[x]:=by rw [← Array.toList_inj]; simpa using hz
    subst hz2
    exact wp_value (by simp [ho]) (cv:=.func (.func f) #[a.eval x] #[]) (w':=w) (by simp [execOp,ho,Instr.makeFunc]) (hn _ _ _ _ _ _ _ h (.bnd (F.ev x)) H)
  · exact h.elim
 case h_21 n first cap ho =>
  obtain ⟨hz0,h⟩:=Chk_iff.1 h
  have hz1:cap=#[]:=Array.eq_empty_of_size_eq_zero (of_decide_eq_true hz0)
  subst hz1
  split at h
  · rename_i x hx
    have hxs:first=#[x]:=by rw [← Array.toList_inj]; simpa using hx
    subst hxs
    exact wp_value (by simp [ho]) (cv:=.func (.method n) #[a.eval x] #[]) (w':=w) (by simp [execOp,ho,Instr.makeFunc]) (hn _ _ _ _ _ _ _ h (.meth (F.ev x)) H)
  · exact h.elim
 case h_22 x ho =>
  have hx:=F.ev x
  generalize hcc:a.eval x=cc at hx
  split at h
  · rename_i k i j hv
    rw [hv] at hx
    cases hx with
    | ptr hg=>exact wp_value (by simp [ho]) (w':=w) (by simp [execOp,ho,hcc]) (hn _ _ _ _ _ _ _ h (.ptr hg) H)
  · rename_i cs hv
    rw [hv] at hx
    cases hx with
    | rptr u a b c=>exact wp_value (by simp [ho]) (w':=w) (by simp [execOp,ho,hcc]) (hn _ _ _ _ _ _ _ h (.rptr u a b c) H)
  · rename_i b sz i j hv
    rw [hv] at hx
    cases hx with
    | dptr=>exact wp_value (by simp [ho]) (w':=w) (by simp [execOp,ho,hcc]) (hn _ _ _ _ _ _ _ h (.dptr _ _ _ _) H)
  · rename_i f cs hv
    rw [hv] at hx
    cases hx with
    | fn hl hr=>exact wp_value (by simp [ho]) (w':=w) (by simp [execOp,ho,hcc]) (hn _ _ _ _ _ _ _ h (.fn hl hr) H)
  · rename_i k hv
    rw [hv] at hx
    cases hx with
    | yld hg=>exact wp_value (by simp [ho]) (w':=w) (by simp [execOp,ho,hcc]) (hn _ _ _ _ _ _ _ h (.yld hg) H)
  · rename_i t v hv
    rw [hv] at hx
    cases hx with
    | iface hg=>exact wp_value (by simp [ho]) (w':=w) (by simp [execOp,ho,hcc]) (hn _ _ _ _ _ _ _ h (.iface hg) H)
  · exact h.elim
 case h_23 f args ats ho =>
  have hf:=F.ev f
  generalize hcc:a.eval f=cc at hf
  split at h
  · rename_i g cap hv
    rw [hv] at hf
    cases hf with
    | fn hl hr =>
      rename_i us
      split at h
      · exact semOut h
      have hargs:=(args_ev F args.toList).append ⟨hl,hr⟩
      refine callOut (args:=args.map a.eval++us.toArray) h hargs (by simp [ho]) ?_ (by apply Array.ext'; simp)
      simp only [execOp,ho,resolve,Sem.run_bind,Deferred.ofValue,hcc,Sem.run_pure,Result.andThen_ok,invoke,Array.empty_append]
  · rename_i k hv
    rw [hv] at hf
    generalize hyv:V.yld k=yv at hf
    cases hf <;> cases hyv
    rename_i g hg
    have hY:=aYield_sound H (l:=g.blk) h (.yld hg) (args_ev F args.toList)
    obtain ⟨fn,tmps,assign,body,q1,q2⟩:=hY
    have hrun:(execOp a.eval o).run P w=.ok (.round g.blk fn tmps assign body) w:=by
     simp only [execOp,ho,resolve,Sem.run_bind,Deferred.ofValue,hcc,Sem.run_pure,Result.andThen_ok,invoke]
     have e:#[]++args.map a.eval=(args.toList.map a.eval).toArray:=by apply Array.ext'; simp
     rw [e]; exact q1
    refine ⟨fun _ _=>trivial,?_⟩
    rw [Oper.semAt_eq _ _ _ (by simp [ho]),hrun,Oper.uponIn_round]
    refine ⟨(fun h=>by cases h),roundIn_fen (q2.mono fun e w' hh=>?_)⟩
    obtain ⟨v,cv,st',Pr',C',rfl,h1,h2,h3⟩:=hh
    exact hn _ _ _ _ _ _ _ h1 h3 h2
  · rename_i n t v hv
    rw [hv] at hf
    obtain ⟨g,hm,h⟩:=h
    cases hf with
    | meth hi =>
      cases hi with
      | iface hu =>
        rename_i u
        have hargs:=RepL.cons hu (args_ev F args.toList)
        refine callOut (args:=#[u]++args.map a.eval) h hargs (by simp [ho]) ?_ (by apply Array.ext'; simp)
        have hm':=run_method hτ.ok hm u w (P.types.size+99)
        simp only [execOp,ho,resolve,Sem.run_bind,Deferred.ofValue,Sem.run_pure,Result.andThen_ok,invoke,hcc]
        have e0:(#[Value.iface t u]++args.map a.eval)[0]? = some (.iface t u):=by rw [Array.getElem?_append_left (show 0 < 1 from Nat.one_pos)]; rfl
        have e1:(#[Value.iface t u]++args.map a.eval).extract 1 (#[Value.iface t u]++args.map a.eval).size=args.map a.eval:=by
         apply Array.ext'; simp
         exact List.take_of_length_le (by simp)
        rw [e0,e1]
        simp only [callMethod,Sem.run_bind,run_program,Result.andThen_ok,Made.depth]
        rw [show P.types.size+100=P.types.size+99+1 from rfl,hm']
        rfl
  · rename_i g x hv
    rw [hv] at hf
    cases hf with
    | bnd hu =>
      rename_i u
      have hargs:=RepL.cons hu (args_ev F args.toList)
      refine callOut (args:=#[u]++args.map a.eval) h hargs (by simp [ho]) ?_ (by apply Array.ext'; simp)
      simp only [execOp,ho,resolve,Sem.run_bind,Deferred.ofValue,hcc,Sem.run_pure,Result.andThen_ok,invoke,Array.append_empty]
  · exact h.elim
 case h_24 x name args ats ho =>
  have hf:=F.ev x
  generalize hcc:a.eval x=cc at hf
  split at h
  · rename_i t v hv
    rw [hv] at hf
    obtain ⟨f,hm,h⟩:=h
    cases hf with
    | iface hu =>
      rename_i u
      have hargs:=RepL.cons hu (args_ev F args.toList)
      refine callOut (args:=#[u]++args.map a.eval) h hargs (by simp [ho]) ?_ (by apply Array.ext'; simp)
      have hm':=run_method hτ.ok hm u w (P.types.size+99)
      simp only [execOp,ho,resolve,Sem.run_bind,Sem.run_pure,Result.andThen_ok,invoke,hcc]
      have e0:(#[Value.iface t u]++args.map a.eval)[0]? = some (.iface t u):=by rw [Array.getElem?_append_left (show 0 < 1 from Nat.one_pos)]; rfl
      have e1:(#[Value.iface t u]++args.map a.eval).extract 1 (#[Value.iface t u]++args.map a.eval).size=args.map a.eval:=by
       apply Array.ext'; simp
       exact List.take_of_length_le (by simp)
      rw [e0,e1]
      simp only [callMethod,Sem.run_bind,run_program,Result.andThen_ok,Made.depth]
      rw [show P.types.size+100=P.types.size+99+1 from rfl,hm']
      rfl
  · exact h.elim
 case h_25 t ho =>
  obtain ⟨v,cv,st',γ',w',h1,h2,h3,h4⟩:=aMakeMap_sound H h
  exact wp_value (by simp [ho]) (by simp [execOp,ho,h4]) (hn _ _ _ _ _ _ _ h1 h3 h2)
 case h_26 t m key c ho =>
  obtain ⟨v,cv,h1,h2,h3⟩:=aLookup_sound hτ.ok M h (F.ev m) (F.ev key)
  exact wp_value (by simp [ho]) (by simp [execOp,ho,h3]) (hn _ _ _ _ _ _ _ h1 h2 H)
 case h_27 t m key v ho =>
  obtain ⟨st',Pr',w',h1,h2,h3⟩:=aMapUpdate_sound hτ.ok H h (F.ev m) (F.ev key) (F.ev v)
  exact wp_skipped (by simp [ho]) (by simp [execOp,ho,h3]) (hn _ _ _ _ _ _ _ h1 (.raw _) h2)
 case h_28 t m key v ho =>
  obtain ⟨st',Pr',w',h1,h2,h3⟩:=aMapUpdate_sound hτ.ok H h (F.ev m) (F.ev key) (F.ev v)
  exact wp_skipped (by simp [ho]) (by simp [execOp,ho,h3]) (hn _ _ _ _ _ _ _ h1 (.raw _) h2)
 case h_29 t x ho =>
  obtain ⟨v,cv,h1,h2,h3⟩:=aMakeIface_sound hτ.ok h (F.ev x)
  exact wp_value (by simp [ho]) (by simp [execOp,ho,h3]) (hn _ _ _ _ _ _ _ h1 h2 H)
 case h_30 x xt t c ho =>
  obtain ⟨v,cv,h1,h2,h3⟩:=aAssert_sound (xt:=xt) hτ.ok h (F.ev x)
  exact wp_value (by simp [ho]) (by simp [execOp,ho,h3]) (hn _ _ _ _ _ _ _ h1 h2 H)
 case h_31 x ho =>
  have hf:=F.ev x
  generalize hcc:a.eval x=cc at hf
  split at h
  · rename_i t v hv
    rw [hv] at hf
    cases hf with
    | iface hu =>
      refine ⟨fun _ _=>trivial,?_⟩
      rw [Oper.semAt_eq _ _ _ (by simp [ho])]
      have hrun:(execOp a.eval o).run P w=.halt (.panic (a.eval x)) w:=by
       simp [execOp,ho,hcc,Instr.panic,goPanic]
      rw [hrun,hcc]
      exact hz _ _ _ _ _ _ _ h (.iface hu) H
  · rename_i t u hv
    rw [hv] at hf
    cases hf with
    | raw =>
      refine ⟨fun _ _=>trivial,?_⟩
      rw [Oper.semAt_eq _ _ _ (by simp [ho])]
      have hrun:(execOp a.eval o).run P w=.halt (.panic (a.eval x)) w:=by
       simp [execOp,ho,hcc,Instr.panic,goPanic]
      rw [hrun,hcc]
      exact hz _ _ _ _ _ _ _ h (.raw _) H
  · exact h.elim
 case h_32 args ats ho =>
  split at h
  · rename_i x t hx ht
    have hts:ats=#[t]:=by rw [← Array.toList_inj]; simpa using ht
    have hxs:args=#[x]:=by rw [← Array.toList_inj]; simpa using hx
    subst hts; subst hxs
    obtain ⟨v,cv,h1,h2,h3⟩:=aLen_sound (P:=P) hτ.ok (ts:=#[t]) (u:=o.type) rfl A.st M h (F.ev x)
    exact wp_value (by simp [ho]) (by simp [execOp,ho,resolve,invoke,builtin,h3]) (hn _ _ _ _ _ _ _ h1 h2 H)
  · exact h.elim
 case h_33 args ats ho =>
  split at h
  · rename_i s x t u hx ht
    have hts:ats=#[t,u]:=by rw [← Array.toList_inj]; simpa using ht
    have hxs:args=#[s,x]:=by rw [← Array.toList_inj]; simpa using hx
    subst hts; subst hxs
    split at h
    case h_2=>exact semOut h
    obtain ⟨v,cv,st',γ',w',⟨h1,hs⟩,h2,h3,h4,h5⟩:=aAppend_sound (ty:=o.type) hτ.ok hτ.u8 A (aAppend_x H.st h) (F.ev s) (F.ev x)
    exact wp_value (by simp [ho]) (by simp [execOp,ho,resolve,invoke,builtin,h5]) (hn _ _ _ _ _ _ _ h1 h4 (H.step h3 h2 hs rfl))
  · exact h.elim
 all_goals first
  | exact h.elim
  | exact semOut h
end Go.Cod
