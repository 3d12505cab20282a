import Derived.WalkKit
import Derived.RangeFuncSeq
import Derived.RangeFuncLeaves
import Derived.OrdersIn
namespace Go.Cod
open Go
inductive V where
 | bool (b:Bool)
 | int (k:IntKind) (n:Int)
 | str (s:List UInt8)
 | agg (cs:List V)
 | tup (vs:List V)
 | nils
 | sl (es:List (List V))
 | own (k:Nat)
 | ptr (k i j:Nat)
 | rptr (cs:List V)
 | fn (f:FuncId) (cap:List V)
 | raw (v:Value)
 | any
 | map (k:Nat)
 | yld (k:Nat)
 | iface (t:TypeId) (v:V)
 | dref (b len cap:Nat)
 | dptr (b sz i j:Nat)
 | win (k j n c:Nat)
 | cptr (k j:Nat)
 | meth (n:String) (v:V)
 | bnd (f:FuncId) (v:V)
instance:Inhabited V:=⟨.nils⟩
def V.leaf:V→Bool
 | .agg _ | .tup _=>false
 | .raw v=>v.oneCell'
 | _=>true
def V.clean (n:Nat):V→Bool
 | .agg cs | .tup cs | .rptr cs | .fn _ cs=>cleanL n cs
 | .own _=>false
 | .ptr k _ _ | .map k | .yld k | .win k _ _ _ | .cptr k _=>decide (k < n)
 | .iface _ x=>V.clean n x
 | .meth _ x=>V.clean n x
 | .bnd _ x=>V.clean n x
 | _=>true
where
 cleanL (n:Nat):List V→Bool
  | []=>true
  | x::xs=>V.clean n x&&cleanL n xs
 cleanLL (n:Nat):List (List V)→Bool
  | []=>true
  | x::xs=>cleanL n x&&cleanLL n xs
def V.under (n:Nat):V→Bool
 | .agg cs | .tup cs | .rptr cs | .fn _ cs=>underL n cs
 | .own k | .ptr k _ _ | .map k | .yld k | .win k _ _ _ | .cptr k _=>decide (k < n)
 | .iface _ x=>V.under n x
 | .meth _ x=>V.under n x
 | .bnd _ x=>V.under n x
 | _=>true
where
 underL (n:Nat):List V→Bool
  | []=>true
  | x::xs=>V.under n x&&underL n xs
 underLL (n:Nat):List (List V)→Bool
  | []=>true
  | x::xs=>underL n x&&underLL n xs
structure G where
 blk:Nat
 len:Nat
 cap:Nat
 sz:Nat
 ty:TypeId
inductive XK where
 | cell | map | yld | pool
 deriving DecidableEq
structure O where
 es:List (List V)
 wid:Nat
 live:Bool
 excl:Bool
 box:Bool
 kind:XK
abbrev St:=List O
inductive Rep (Pr:Nat→Nat→Prop) (γ:List G) (w:World):V→Value→Prop
 | bool (b:Bool):Rep Pr γ w (.bool b) (.bool b)
 | int (k:IntKind) (n:Int):Rep Pr γ w (.int k n) (.int k n)
 | str (s:List UInt8):Rep Pr γ w (.str s) (.string ⟨s.toArray⟩)
 | agg {cs:List V} {us:List Value} (hl:cs.length=us.length)
    (h:∀ (i:Nat) x u,cs[i]? = some x→us[i]? = some u→Rep Pr γ w x u):Rep Pr γ w (.agg cs) (.agg us.toArray)
 | tup {cs:List V} {us:List Value} (hl:cs.length=us.length)
    (h:∀ (i:Nat) x u,cs[i]? = some x→us[i]? = some u→Rep Pr γ w x u):Rep Pr γ w (.tup cs) (.tuple us.toArray)
 | nils (a:Option Addr):Rep Pr γ w .nils (.slice a 0 0)
 | sl0 (a:Option Addr) (cap:Nat):Rep Pr γ w (.sl []) (.slice a 0 cap)
 | sl {es:List (List V)} {b off cap c:Nat} (u:Nat→Nat→Value) (hcl:V.clean.cleanLL 0 es=true) (hn:es.length≤cap)
    (hc:∀ e∈es,e.length=c) (hlf:∀ e∈es,∀ x∈e,x.leaf=true)
    (hm:∀ (i:Nat) e (j:Nat) x,es[i]? = some e→e[j]? = some x→w.cell? ⟨b,off+(i*c+j),none⟩=some (u i j)∧Pr b (off+(i*c+j)))
    (h:∀ (i:Nat) e (j:Nat) x,es[i]? = some e→e[j]? = some x→Rep Pr γ w x (u i j)) :
    Rep Pr γ w (.sl es) (.slice (some ⟨b,off,none⟩) es.length cap)
 | own {k:Nat} {g:G} (h:γ[k]? = some g):Rep Pr γ w (.own k) (.slice (some ⟨g.blk,0,none⟩) g.len g.cap)
 | ptr {k i j:Nat} {g:G} (h:γ[k]? = some g):Rep Pr γ w (.ptr k i j) (.pointer (some ⟨g.blk,i*g.sz+j,none⟩))
 | win {k j n c:Nat} {g:G} (h:γ[k]? = some g):Rep Pr γ w (.win k j n c) (.slice (some ⟨g.blk,j,none⟩) n c)
 | cptr {k j:Nat} {g:G} (h:γ[k]? = some g):Rep Pr γ w (.cptr k j) (.pointer (some ⟨g.blk,j,none⟩))
 | rptr {cs:List V} {b off:Nat} (u:Nat→Value) (hlf:∀ x∈cs,x.leaf=true)
    (hm:∀ (j:Nat) x,cs[j]? = some x→w.cell? ⟨b,off+j,none⟩=some (u j)∧Pr b (off+j))
    (h:∀ (j:Nat) x,cs[j]? = some x→Rep Pr γ w x (u j)):Rep Pr γ w (.rptr cs) (.pointer (some ⟨b,off,none⟩))
 | fn {f:FuncId} {cs:List V} {us:List Value} (hl:cs.length=us.length)
    (h:∀ (i:Nat) x u,cs[i]? = some x→us[i]? = some u→Rep Pr γ w x u):Rep Pr γ w (.fn f cs) (.func (.func f) #[] us.toArray)
 | raw (v:Value):Rep Pr γ w (.raw v) v
 | any {v:Value} (h:v.oneCell'=true):Rep Pr γ w .any v
 | map {k:Nat} {g:G} (h:γ[k]? = some g):Rep Pr γ w (.map k) (.map (some g.blk))
 | yld {k:Nat} {g:G} (h:γ[k]? = some g):Rep Pr γ w (.yld k) (.func (.yield g.blk) #[] #[])
 | iface {t:TypeId} {x:V} {u:Value} (h:Rep Pr γ w x u):Rep Pr γ w (.iface t x) (.iface t u)
 | dref (b n c:Nat):Rep Pr γ w (.dref b n c) (.slice (some ⟨b,0,none⟩) n c)
 | dptr (b sz i j:Nat):Rep Pr γ w (.dptr b sz i j) (.pointer (some ⟨b,i*sz+j,none⟩))
 | meth {n:String} {x:V} {u:Value} (h:Rep Pr γ w x u):Rep Pr γ w (.meth n x) (.func (.method n) #[u] #[])
 | bnd {f:FuncId} {x:V} {u:Value} (h:Rep Pr γ w x u):Rep Pr γ w (.bnd f x) (.func (.func f) #[u] #[])
theorem Rep.leaf {Pr γ w x u} (h:Rep Pr γ w x u) (hx:x.leaf=true):u.oneCell'=true:=by
 cases h <;> simp_all [V.leaf,Value.oneCell']
structure Keep (Pr Pr':Nat→Nat→Prop) (γ γ':List G) (w w':World):Prop where
 sub:∀ b n,Pr b n→Pr' b n
 cell:∀ b n,Pr b n→w'.cell? ⟨b,n,none⟩=w.cell? ⟨b,n,none⟩
 names:∀ (k:Nat) g,γ[k]? = some g→γ'[k]? = some g
theorem Rep.keep {Pr Pr' γ γ' w w'} (K:Keep Pr Pr' γ γ' w w') {x:V} {u:Value} (h:Rep Pr γ w x u):Rep Pr' γ' w' x u:=by
 induction h with
 | bool b=>exact .bool b
 | int k n=>exact .int k n
 | str s=>exact .str s
 | agg hl _ ih=>exact .agg hl ih
 | tup hl _ ih=>exact .tup hl ih
 | nils a=>exact .nils a
 | sl0 a cap=>exact .sl0 a cap
 | sl u hcl hn hc hlf hm _ ih =>
   exact .sl u hcl hn hc hlf (fun i e j x h1 h2=>⟨by rw [K.cell _ _ (hm i e j x h1 h2).2]; exact (hm i e j x h1 h2).1,K.sub _ _ (hm i e j x h1 h2).2⟩) ih
 | own h=>exact .own (K.names _ _ h)
 | ptr h=>exact .ptr (K.names _ _ h)
 | win h=>exact .win (K.names _ _ h)
 | cptr h=>exact .cptr (K.names _ _ h)
 | rptr u hlf hm _ ih =>
   exact .rptr u hlf (fun j x h1=>⟨by rw [K.cell _ _ (hm j x h1).2]; exact (hm j x h1).1,K.sub _ _ (hm j x h1).2⟩) ih
 | fn hl _ ih=>exact .fn hl ih
 | raw v=>exact .raw v
 | any h=>exact .any h
 | map h=>exact .map (K.names _ _ h)
 | yld h=>exact .yld (K.names _ _ h)
 | iface _ ih=>exact .iface ih
 | meth _ ih=>exact .meth ih
 | bnd _ ih=>exact .bnd ih
 | dref b n c=>exact .dref b n c
 | dptr b sz i j=>exact .dptr b sz i j
theorem Keep.refl (Pr γ w):Keep Pr Pr γ γ w w:=⟨fun _ _ h=>h,fun _ _ _=>rfl,fun _ _ h=>h⟩
theorem Keep.trans {Pr Pr' Pr2 γ γ' γ'' w w' w''} (A:Keep Pr Pr' γ γ' w w') (B:Keep Pr' Pr2 γ' γ'' w' w''):Keep Pr Pr2 γ γ'' w w'' :=
 ⟨fun b n h=>B.sub b n (A.sub b n h),fun b n h=>(B.cell b n (A.sub b n h)).trans (A.cell b n h),fun k g h=>B.names k g (A.names k g h)⟩
def RepL (Pr:Nat→Nat→Prop) (γ:List G) (w:World) (cs:List V) (us:List Value):Prop :=
 cs.length=us.length∧∀ (i:Nat) x u,cs[i]? = some x→us[i]? = some u→Rep Pr γ w x u
theorem RepL.keep {Pr Pr' γ γ' w w'} (K:Keep Pr Pr' γ γ' w w') {cs us} (h:RepL Pr γ w cs us):RepL Pr' γ' w' cs us :=
 ⟨h.1,fun i x u a b=>(h.2 i x u a b).keep K⟩
theorem RepL.nil {Pr γ w}:RepL Pr γ w [] []:=⟨rfl,fun i x u h=>by simp at h⟩
theorem RepL.cons {Pr γ w x u cs us} (h:Rep Pr γ w x u) (hs:RepL Pr γ w cs us):RepL Pr γ w (x::cs) (u::us):=by
 refine ⟨by simp [hs.1],fun i y v a b=>?_⟩
 cases i with
 | zero=>simp at a b; subst a; subst b; exact h
 | succ i=>simp at a b; exact hs.2 i y v a b
theorem V.cleanL_mem {n:Nat}:∀ {cs:List V},V.clean.cleanL n cs=true→∀ x∈cs,x.clean n=true
 | [],_,x,h=>by simp at h
 | y::ys,h,x,hx=>by
   simp only [V.clean.cleanL,Bool.and_eq_true] at h
   rcases List.mem_cons.1 hx with rfl | hx
   · exact h.1
   · exact V.cleanL_mem h.2 x hx
theorem V.cleanLL_mem {n:Nat}:∀ {es:List (List V)},V.clean.cleanLL n es=true→∀ e∈es,V.clean.cleanL n e=true
 | [],_,x,h=>by simp at h
 | y::ys,h,x,hx=>by
   simp only [V.clean.cleanLL,Bool.and_eq_true] at h
   rcases List.mem_cons.1 hx with rfl | hx
   · exact h.1
   · exact V.cleanLL_mem h.2 x hx
mutual
theorem V.clean_mono {n m:Nat} (h:n≤m):∀ x:V,x.clean n=true→x.clean m=true
 | .agg cs,hx | .tup cs,hx | .rptr cs,hx | .fn _ cs,hx=>by
   simp only [V.clean] at hx ⊢
   exact V.cleanL_mono h cs hx
 | .own _,hx=>by simp [V.clean] at hx
 | .ptr k _ _,hx | .map k,hx | .yld k,hx | .win k _ _ _,hx | .cptr k _,hx=>by
   simp only [V.clean,decide_eq_true_eq] at hx ⊢
   omega
 | .iface _ x,hx | .meth _ x,hx | .bnd _ x,hx=>by
   simp only [V.clean] at hx ⊢
   exact V.clean_mono h x hx
 | .bool _,_ | .int _ _,_ | .str _,_ | .nils,_ | .sl _,_ | .raw _,_ | .any,_ | .dref _ _ _,_ | .dptr _ _ _ _,_=>by simp [V.clean]
theorem V.cleanL_mono {n m:Nat} (h:n≤m):∀ cs:List V,V.clean.cleanL n cs=true→V.clean.cleanL m cs=true
 | [],_=>rfl
 | x::xs,hx=>by
   simp only [V.clean.cleanL,Bool.and_eq_true] at hx ⊢
   exact ⟨V.clean_mono h x hx.1,V.cleanL_mono h xs hx.2⟩
end
theorem V.cleanLL_take {n:Nat} {es:List (List V)} (h:∀ e∈es,V.clean.cleanL n e=true):V.clean.cleanLL n es=true:=by
 induction es with
 | nil=>rfl
 | cons e es ih =>
   simp only [V.clean.cleanLL,Bool.and_eq_true]
   exact ⟨h e (by simp),ih fun e he=>h e (by simp [he])⟩
theorem Rep.names {Pr γ w} {γ':List G} {n:Nat} (hγ:∀ k,k < n→γ'[k]? = γ[k]?) {x:V} {u:Value} (h:Rep Pr γ w x u) (hx:x.clean n=true):Rep Pr γ' w x u:=by
 induction h with
 | bool b=>exact .bool b
 | int k n=>exact .int k n
 | str s=>exact .str s
 | agg hl _ ih =>
   simp only [V.clean] at hx
   exact .agg hl fun i x u a b=>ih i x u a b (V.cleanL_mem hx x (List.mem_of_getElem? a))
 | tup hl _ ih =>
   simp only [V.clean] at hx
   exact .tup hl fun i x u a b=>ih i x u a b (V.cleanL_mem hx x (List.mem_of_getElem? a))
 | nils a=>exact .nils a
 | sl0 a cap=>exact .sl0 a cap
 | sl u hcl hn hc hlf hm _ ih =>
   exact .sl u hcl hn hc hlf hm fun i e j x a b=>ih i e j x a b (V.clean_mono (Nat.zero_le _) x (V.cleanL_mem (V.cleanLL_mem hcl e (List.mem_of_getElem? a)) x (List.mem_of_getElem? b)))
 | own h=>simp [V.clean] at hx
 | ptr h =>
   simp only [V.clean,decide_eq_true_eq] at hx
   exact .ptr (by rw [hγ _ hx]; exact h)
 | win h =>
   simp only [V.clean,decide_eq_true_eq] at hx
   exact .win (by rw [hγ _ hx]; exact h)
 | cptr h =>
   simp only [V.clean,decide_eq_true_eq] at hx
   exact .cptr (by rw [hγ _ hx]; exact h)
 | rptr u hlf hm _ ih =>
   simp only [V.clean] at hx
   exact .rptr u hlf hm fun j x a=>ih j x a (V.cleanL_mem hx x (List.mem_of_getElem? a))
 | fn hl _ ih =>
   simp only [V.clean] at hx
   exact .fn hl fun i x u a b=>ih i x u a b (V.cleanL_mem hx x (List.mem_of_getElem? a))
 | raw v=>exact .raw v
 | any h=>exact .any h
 | map h =>
   simp only [V.clean,decide_eq_true_eq] at hx
   exact .map (by rw [hγ _ hx]; exact h)
 | yld h =>
   simp only [V.clean,decide_eq_true_eq] at hx
   exact .yld (by rw [hγ _ hx]; exact h)
 | iface _ ih =>
   simp only [V.clean] at hx
   exact .iface (ih hx)
 | meth _ ih =>
   simp only [V.clean] at hx
   exact .meth (ih hx)
 | bnd _ ih =>
   simp only [V.clean] at hx
   exact .bnd (ih hx)
 | dref b n c=>exact .dref b n c
 | dptr b sz i j=>exact .dptr b sz i j
theorem Rep.clean0 {Pr w} {x:V} {u:Value} (h:Rep Pr [] w x u):x.clean 0=true:=by
 generalize hγ:([]:List G)=γ at h
 have key:∀ (cs:List V) (us:List Value),cs.length=us.length→(∀ (i:Nat) x u,cs[i]? = some x→us[i]? = some u→x.clean 0=true)→V.clean.cleanL 0 cs=true:=by
  intro cs
  induction cs with
  | nil=>intros; rfl
  | cons c cs ih =>
    intro us hl h
    cases us with
    | nil=>simp at hl
    | cons u us =>
      simp only [V.clean.cleanL,Bool.and_eq_true]
      exact ⟨h 0 c u rfl rfl,ih us (by simpa using hl) fun i x v a b=>h (i+1) x v (by simpa using a) (by simpa using b)⟩
 induction h with
 | agg hl _ ih=>simpa only [V.clean] using key _ _ hl fun i x u a b=>ih i x u a b
 | tup hl _ ih=>simpa only [V.clean] using key _ _ hl fun i x u a b=>ih i x u a b
 | fn hl _ ih=>simpa only [V.clean] using key _ _ hl fun i x u a b=>ih i x u a b
 | rptr u hlf hm _ ih =>
   simp only [V.clean]
   exact key _ (List.replicate _ .nilFunc) (List.length_replicate).symm fun i x _ a _=>ih i x a
 | own h=>subst hγ; simp at h
 | ptr h=>subst hγ; simp at h
 | win h=>subst hγ; simp at h
 | cptr h=>subst hγ; simp at h
 | map h=>subst hγ; simp at h
 | yld h=>subst hγ; simp at h
 | iface _ ih=>simpa only [V.clean] using ih
 | meth _ ih=>simpa only [V.clean] using ih
 | bnd _ ih=>simpa only [V.clean] using ih
 | _=>rfl
end Go.Cod
namespace Go.Cod
open Go
class Lam where
 dat:Nat→Option (List V)
 ext:Nat→Bool:=fun _=>false
 hand:Nat→Bool:=fun _=>false
 pool:Nat→Bool:=fun _=>false
 apool:Nat→Bool:=fun _=>false
variable [Lam]
def Laid (Pr:Nat→Nat→Prop) (w:World):Prop:=∀ g cs,Lam.dat g=some cs→Rep Pr [] w (.rptr cs) (.pointer (some ⟨g,0,none⟩))∧w.cell? ⟨g,cs.length,none⟩=none∧Pr g cs.length
theorem Laid.keep {Pr Pr' γ γ' w w'} (K:Keep Pr Pr' γ γ' w w') (h:Laid Pr w):Laid Pr' w':=fun g cs e=>⟨(h g cs e).1.keep ⟨K.sub,K.cell,fun _ _ h=>h⟩,(K.cell _ _ (h g cs e).2.2).trans (h g cs e).2.1,K.sub _ _ (h g cs e).2.2⟩
theorem Laid.at {Pr w} (h:Laid Pr w) (γ:List G) {g:Nat} {cs:List V} (e:Lam.dat g=some cs):Rep Pr γ w (.rptr cs) (.pointer (some ⟨g,0,none⟩)) :=
 (h g cs e).1.keep ⟨fun _ _ h=>h,fun _ _ _=>rfl,fun k g h=>by simp at h⟩
structure ObjOk (Pr:Nat→Nat→Prop) (γ:List G) (w:World) (o:O) (g:G):Prop where
 len:g.len=o.es.length
 wid:g.sz=o.wid
 le:g.len≤g.cap
 max:g.cap≤maxLen
 sz:∀ e∈o.es,e.length=g.sz
 lf:∀ e∈o.es,∀ x∈e,x.leaf=true
 row:∃ (cur:Array Value) (f:Nat × Nat),(w.heap[g.blk]? = some (.cells cur g.ty f)∧∀ n,(n < cur.size∨1 < g.sz)→¬ (f.1≤n∧n < f.2))∧cur.size=g.cap*g.sz ∧
  ∀ (i:Nat) e (j:Nat) x,o.es[i]? = some e→e[j]? = some x→∃ u,cur[i*g.sz+j]? = some u∧Rep Pr γ w x u
 spare:∀ n,g.len*g.sz≤n→¬ Pr g.blk n
 excl:o.excl=true→∀ n,¬ Pr g.blk n
 cl:o.box=false→V.clean.cleanLL 0 o.es=true
 kd:o.kind=.cell
structure StOk (Pr:Nat→Nat→Prop) (γ:List G) (w:World) (st:St):Prop where
 len:γ.length=st.length
 obj:∀ (k:Nat) o g,st[k]? = some o→γ[k]? = some g→o.live=true→ObjOk Pr γ w o g
 one:∀ (k k':Nat) o o' g g',st[k]? = some o→st[k']? = some o'→γ[k]? = some g→γ[k']? = some g'→o.live=true→o'.live=true→g.blk=g'.blk→k=k'
 low:∀ b n,Pr b n→b < w.heap.size
 laid:Laid Pr w
structure Base (w0:World) (mod:Nat→Prop) (γ0:List G) (Pr0:Nat→Nat→Prop) (Pr:Nat→Nat→Prop) (γ:List G) (w:World):Prop where
 os:w.os=w0.os
 tape:w.tape=w0.tape
 output:w.output=w0.output
 size:w0.heap.size≤w.heap.size
 old:∀ b,b < w0.heap.size→¬ mod b→w.heap[b]? = w0.heap[b]?
 sub:∀ b n,Pr0 b n→Pr b n
 new:∀ b n,Pr b n→Pr0 b n∨w0.heap.size≤b∨mod b
 names:∀ (k:Nat) g,γ0[k]? = some g→γ[k]? = some g
structure Stepd (Pr Pr':Nat→Nat→Prop) (γ γ':List G) (st:St) (w w':World) (t:Option Nat):Prop extends Keep Pr Pr' γ γ' w w' where
 heap:∀ (k:Nat) o g,st[k]? = some o→γ[k]? = some g→o.live=true→t≠some k→w'.heap[g.blk]? = w.heap[g.blk]?
 unp:∀ (k:Nat) o g n,st[k]? = some o→γ[k]? = some g→o.live=true→t≠some k→Pr' g.blk n→Pr g.blk n
omit [Lam] in
theorem ObjOk.stepd {Pr Pr' γ γ' st w w' t} (S:Stepd Pr Pr' γ γ' st w w' t) {k:Nat} {o:O} {g:G} (hk:st[k]? = some o) (hg:γ[k]? = some g) (hl:o.live=true) (ht:t≠some k) (h:ObjOk Pr γ w o g):ObjOk Pr' γ' w' o g where
 len:=h.len
 wid:=h.wid
 le:=h.le
 max:=h.max
 sz:=h.sz
 lf:=h.lf
 row:=by
  obtain ⟨cur,f,h1,h2,h3⟩:=h.row
  refine ⟨cur,f,by rw [S.heap k o g hk hg hl ht]; exact h1,h2,fun i e j x a b=>?_⟩
  obtain ⟨u,hu,hr⟩:=h3 i e j x a b
  exact ⟨u,hu,hr.keep S.toKeep⟩
 spare:=fun n hn hp=>h.spare n hn (S.unp k o g n hk hg hl ht hp)
 excl:=fun he n hp=>h.excl he n (S.unp k o g n hk hg hl ht hp)
 cl:=h.cl
 kd:=h.kd
omit [Lam] in
theorem ObjOk.lt {Pr γ w o g} (h:ObjOk Pr γ w o g):g.blk < w.heap.size:=by
 obtain ⟨cur,f,h1,_⟩:=h.row
 exact (Array.getElem?_eq_some_iff.1 h1.1).1
theorem StOk.at {Pr γ w st} (h:StOk Pr γ w st) {k:Nat} {o:O} (hk:st[k]? = some o):∃ g,γ[k]? = some g:=by
 have:k < γ.length:=by rw [h.len]; exact (List.getElem?_eq_some_iff.1 hk).1
 exact ⟨γ[k],by simp [this]⟩
theorem StOk.still {Pr Pr' γ w w' st} (h:StOk Pr γ w st) (S:Stepd Pr Pr' γ γ st w w' none) (hlow:∀ b n,Pr' b n→b < w'.heap.size):StOk Pr' γ w' st where
 len:=h.len
 obj:=fun k o g hk hg hl=>(h.obj k o g hk hg hl).stepd S hk hg hl (by simp)
 one:=h.one
 low:=hlow
 laid:=h.laid.keep S.toKeep
theorem StOk.push {Pr Pr' γ w w' st} (h:StOk Pr γ w st) {o:O} {g:G} (S:Stepd Pr Pr' γ (γ++[g]) st w w' none) (hlow:∀ b n,Pr' b n→b < w'.heap.size)
  (ho:ObjOk Pr' (γ++[g]) w' o g) (hb:w.heap.size≤g.blk):StOk Pr' (γ++[g]) w' (st++[o]) where
 len:=by simp [h.len]
 obj:=fun k o' g' hk hg hl=>by
  by_cases hlt:k < st.length
  · rw [List.getElem?_append_left hlt] at hk
    rw [List.getElem?_append_left (by rw [h.len]; exact hlt)] at hg
    exact (h.obj k o' g' hk hg hl).stepd S hk hg hl (by simp)
  · have:k=st.length:=by
     have:=(List.getElem?_eq_some_iff.1 hk).1
     simp at this; omega
    subst this
    simp at hk
    rw [← h.len] at hg
    simp at hg
    subst hk; subst hg; exact ho
 one:=fun k k' o1 o2 g1 g2 hk hk' hg hg' hl hl' heq=>by
  have key:∀ (k:Nat) o' g',(st++[o])[k]? = some o'→(γ++[g])[k]? = some g'→o'.live=true→(k < st.length∧st[k]? = some o'∧γ[k]? = some g'∧g'.blk < w.heap.size)∨(k=st.length∧g'=g):=by
   intro k o' g' hk hg hl
   by_cases hlt:k < st.length
   · rw [List.getElem?_append_left hlt] at hk
     rw [List.getElem?_append_left (by rw [h.len]; exact hlt)] at hg
     exact .inl ⟨hlt,hk,hg,(h.obj k o' g' hk hg hl).lt⟩
   · have:k=st.length:=by
      have:=(List.getElem?_eq_some_iff.1 hk).1
      simp at this; omega
     subst this
     rw [← h.len] at hg
     simp at hg
     exact .inr ⟨rfl,hg.symm⟩
  rcases key k o1 g1 hk hg hl with ⟨a1,a2,a3,a4⟩ | ⟨a1,a2⟩ <;> rcases key k' o2 g2 hk' hg' hl' with ⟨b1,b2,b3,b4⟩ | ⟨b1,b2⟩
  · exact h.one k k' o1 o2 g1 g2 a2 b2 a3 b3 hl hl' heq
  · subst b2; omega
  · subst a2; omega
  · omega
 low:=hlow
 laid:=h.laid.keep S.toKeep
theorem StOk.set {Pr Pr' γ w w' st} (h:StOk Pr γ w st) {k:Nat} {o o':O} {g:G} (hk:st[k]? = some o) (hg:γ[k]? = some g) (hl:o.live=true)
  (S:Stepd Pr Pr' γ γ st w w' (some k)) (hlow:∀ b n,Pr' b n→b < w'.heap.size) (ho:o'.live=true→ObjOk Pr' γ w' o' g):StOk Pr' γ w' (st.set k o') where
 len:=by simp [h.len]
 obj:=fun j p q hj hq hp=>by
  rw [List.getElem?_set] at hj
  by_cases e:k=j
  · subst e
    have hlt:k < st.length:=(List.getElem?_eq_some_iff.1 hk).1
    simp [hlt] at hj
    subst hj
    rw [hg] at hq
    obtain rfl:=Option.some.inj hq
    exact ho hp
  · simp [e] at hj
    exact (h.obj j p q hj hq hp).stepd S hj hq hp (by simpa using e)
 one:=fun i j p p' q q' hi hj hq hq' hp hp' heq=>by
  have key:∀ (i:Nat) p,(st.set k o')[i]? = some p→p.live=true→∃ p0,st[i]? = some p0∧p0.live=true:=by
   intro i p hi hp
   rw [List.getElem?_set] at hi
   by_cases e:k=i
   · subst e; exact ⟨o,hk,hl⟩
   · simp [e] at hi; exact ⟨p,hi,hp⟩
  obtain ⟨p0,h1,h2⟩:=key i p hi hp
  obtain ⟨p1,h3,h4⟩:=key j p' hj hp'
  exact h.one i j p0 p1 q q' h1 h3 hq hq' h2 h4 heq
 low:=hlow
 laid:=h.laid.keep S.toKeep
structure FrOk (Pr:Nat→Nat→Prop) (γ:List G) (w:World) (fr:Nat→V) (a:Act) (nt:Nat):Prop where
 size:nt≤a.tmps.size
 slot:∀ t,Rep Pr γ w (fr t) (a.tmps.getD t undef)
omit [Lam] in
theorem FrOk.keep {Pr Pr' γ γ' w w' fr a nt} (K:Keep Pr Pr' γ γ' w w') (h:FrOk Pr γ w fr a nt):FrOk Pr' γ' w' fr a nt :=
 ⟨h.size,fun t=>(h.slot t).keep K⟩
def upd (fr:Nat→V) (d:Nat) (v:V):Nat→V:=fun t=>if t=d then v else fr t
def put (fr:Nat→V) (d:Option Nat) (v:V):Nat→V:=match d with
 | some d=>upd fr d v
 | none=>fr
omit [Lam] in
@[simp] theorem upd_same (fr:Nat→V) (d:Nat) (v:V):upd fr d v d=v:=by simp [upd]
omit [Lam] in
theorem upd_ne (fr:Nat→V) {d t:Nat} (v:V) (h:t≠d):upd fr d v t=fr t:=by simp [upd,h]
omit [Lam] in
theorem FrOk.put {Pr γ w fr a nt} (h:FrOk Pr γ w fr a nt) (d:Option Nat) (hd:∀ x,d=some x→x < nt) {x:V} {v:Value} (hv:Rep Pr γ w x v):FrOk Pr γ w (put fr d x) (a.put d v) nt:=by
 cases d with
 | none=>exact h
 | some d =>
   have hlt:d < a.tmps.size:=Nat.lt_of_lt_of_le (hd d rfl) h.size
   refine ⟨by simp [Act.put,h.size],fun t=>?_⟩
   by_cases e:t=d
   · subst e
     simpa [Cod.put,Act.put,hlt] using hv
   · have:=h.slot t
     simp only [Cod.put,upd_ne _ _ e]
     simp only [Act.put,Array.getD_eq_getD_getElem?,Array.getElem?_setIfInBounds,if_neg (Ne.symm e)] at this ⊢
     exact this
structure AR (w0:World) (mod:Nat→Prop) (γ0:List G) (Pr0:Nat→Nat→Prop) (nt:Nat) (Pr:Nat→Nat→Prop) (γ:List G) (fr:Nat→V) (st:St) (a:Act) (w:World):Prop where
 mine:∀ (k:Nat) (o:O) g,st[k]? = some o→γ[k]? = some g→o.live=true→w0.heap.size≤g.blk∨mod g.blk
 fr:FrOk Pr γ w fr a nt
 st:StOk Pr γ w st
 base:Base w0 mod γ0 Pr0 Pr γ w
end Go.Cod
namespace Go.Cod
open Go
variable [Lam]
inductive TK where
 | bool | int (k:IntKind) | str | slice (e:TypeId) | agg | map (k e:TypeId) | iface | ptr | other
 deriving DecidableEq
structure TI where
 kind:TK
 size:Nat
 bytes:Nat
 zero:V
 fields:List (Nat × Nat × Bool)
 meths:List (String × FuncId):=[]
 pair:Bool:=false
 arr:Option Nat:=none
def arrF (n:Nat):List (Nat × Nat × Bool):=(List.range n).map fun i=>(i,1,false)
def TI.flds (ti:TI):List (Nat × Nat × Bool):=match ti.pair with
 | true=>[(0,1,false),(1,1,false)]
 | false=>match ti.arr with
   | some n=>arrF n
   | none=>ti.fields
abbrev Tau:=Nat→Option TI
def kindOf (τ:Tau) (t:TypeId):Option TK:=(τ t).map TI.kind
def sizeOfT (τ:Tau) (t:TypeId):Option Nat:=(τ t).map TI.size
def Chk (b:Bool) (A:Prop):Prop:=match b with
 | true=>A
 | false=>False
omit [Lam] in
theorem Chk_iff {b:Bool} {A:Prop}:Chk b A↔b=true∧A:=by
 unfold Chk
 cases b <;> simp
def undefV:V:=.raw undef
def V.cells:V→List V
 | .agg cs=>cs
 | v=>[v]
def ofConst:Value→V
 | .bool b=>.bool b
 | .int k n=>.int k n
 | .string s=>.str s.data.toList
 | .slice none 0 0=>.nils
 | v=>.raw v
def ev (fr:Nat→V):Operand→V
 | .tmp t=>fr t
 | .const v=>ofConst v
 | .global g=>.raw (.pointer (some ⟨g,0,none⟩))
 | .func f=>.fn f []
def liveEs (st:St) (k:Nat):Option (List (List V)):=match st[k]? with
 | some o=>if o.live&&!o.box then some o.es else none
 | none=>none
def shareOwn (st:St) (k:Nat):V:=match liveEs st k with
 | some es=>.sl es
 | none=>.own k
def share (st:St):V→V
 | .own k=>shareOwn st k
 | .nils=>.sl []
 | .agg cs=>.agg (go st cs)
 | .tup cs=>.tup (go st cs)
 | .fn f cs=>.fn f (go st cs)
 | .iface t x=>.iface t (share st x)
 | .meth n x=>.meth n (share st x)
 | .bnd f x=>.bnd f (share st x)
 | v=>v
where
 go (st:St):List V→List V
  | []=>[]
  | x::xs=>share st x::go st xs
def shareX (st:St):V→V
 | .nils=>.nils
 | y=>share st y
def shareC (st:St):List V→List V
 | []=>[]
 | x::xs=>shareX st x::shareC st xs
def owns:V→List Nat
 | .own k=>[k]
 | .agg cs | .tup cs | .fn _ cs=>go cs
 | .iface _ x=>owns x
 | .meth _ x=>owns x
 | .bnd _ x=>owns x
 | _=>[]
where
 go:List V→List Nat
  | []=>[]
  | x::xs=>owns x++go xs
def O.setEs (o:O) (es:List (List V)):O:=match o with
 | ⟨_,w,l,x,b,k⟩=>⟨es,w,l,x,b,k⟩
def lenK (st:St) (n:Nat) (K:Nat→Prop):Prop:=match st with
 | []=>K n
 | _::os=>lenK os (n+1) K
omit [Lam] in
theorem lenK_eq:∀ (st:St) (n:Nat) (K:Nat→Prop),lenK st n K=K (n+st.length)
 | [],n,K=>rfl
 | o::os,n,K=>by
   simp only [lenK,lenK_eq os,List.length_cons]
   rw [show n+1+os.length=n+(os.length+1) by omega]
omit [Lam] in
theorem lenK0 (st:St) (K:Nat→Prop):lenK st 0 K=K st.length:=by rw [lenK_eq,Nat.zero_add]
def lend1 (st:St) (k:Nat):St:=match st[k]? with
 | some o=>if o.live&&!o.box then st.set k { o with excl:=false } else st
 | none=>st
def lend (st:St):List Nat→St
 | []=>st
 | k::ks=>lend (lend1 st k) ks
def Callable (P : Program) (f : FuncId) : Prop := ∃ fn, P.funcs[f]? = some fn ∧ (fn.name == "runtime.NumGoroutine") = false ∧ fn.body.isNone = false
inductive Out where
 | ret (v:V)
 | pan (v:V)
abbrev OkY:=List (List V)→List V→Prop
def noY:OkY:=fun _ _=>False
structure Fr (C:Nat→Prop) (Pr:Nat→Nat→Prop) (w w':World):Prop where
 os:w'.os=w.os
 tape:w'.tape=w.tape
 output:w'.output=w.output
 size:w.heap.size≤w'.heap.size
 blk:∀ b,C b→w'.heap[b]? = w.heap[b]?
 cell:∀ b n,Pr b n→w'.cell? ⟨b,n,none⟩=w.cell? ⟨b,n,none⟩
structure YFr (C C':Nat→Prop) (Pr:Nat→Nat→Prop) (w w':World):Prop where
 os:w'.os=w.os
 tape:w'.tape=w.tape
 output:w'.output=w.output
 size:w.heap.size≤w'.heap.size
 sub:∀ b,C b→C' b
 new:∀ b,C' b→C b∨w.heap.size≤b
 old:∀ b,b < w.heap.size→¬ C b→w'.heap[b]? = w.heap[b]?
 cell:∀ b n,Pr b n→w'.cell? ⟨b,n,none⟩=w.cell? ⟨b,n,none⟩
structure Env (P:Program) (ok:OkY) where
 l:Nat
 keep:Nat→Nat→Prop
 Inv:List (List V)→Bool→(Nat→Prop)→(Nat→Nat→Prop)→World→Prop
 low:∀ {log b C Pr w},Inv log b C Pr w→∀ x,C x→x < w.heap.size
 here:∀ {log b C Pr w},Inv log b C Pr w→C l
 stable:∀ {log b C Pr w w'},Inv log b C Pr w→Fr C Pr w w'→Inv log b C Pr w'
 mono:∀ {log b C Pr Pr' w},Inv log b C Pr w→(∀ b n,Pr b n→Pr' b n)→Inv log b C Pr' w
 call:∀ {log C Pr w} {vs:List V} {cargs:List Value},Inv log true C Pr w→(∀ b n,Pr b n→keep b n∨¬ C b)→(∀ b n,Pr b n→b < w.heap.size)→RepL Pr [] w vs cargs→ok log vs →
  YieldAt Fence.wide 0 P l cargs.toArray w fun e w'=>∃ b C',e=.returned (.bool b)∧Inv (log++[vs]) b C' Pr w'∧YFr C C' Pr w w'
def Env.none (P:Program) (ok:OkY):Env P ok where
 l:=0
 keep:=fun _ _=>True
 Inv:=fun _ _ _ _ _=>False
 low:=fun h=>h.elim
 here:=fun h=>h.elim
 stable:=fun h=>h.elim
 mono:=fun h=>h.elim
 call:=fun h=>h.elim
def kindCode:IntKind→Nat
 | .i8=>1
 | .i16=>2
 | .i32=>3
 | .i64=>4
 | .u8=>5
 | .u16=>6
 | .u32=>7
 | .u64=>8
def pairCode:List V→Nat
 | [.int .i64 _,.int .i64 _]=>11
 | _=>0
def keyCode:V→Nat
 | .int k _=>kindCode k
 | .str _=>9
 | .bool _=>10
 | .agg cs=>pairCode cs
 | _=>0
def codeOf:TK→Nat
 | .int k=>kindCode k
 | .str=>9
 | .bool=>10
 | _=>0
def codeI (ti:TI):Nat:=match ti.pair with
 | true=>11
 | false=>codeOf ti.kind
def keyEq:V→V→Bool
 | .int _ a,.int _ b=>decide (a=b)
 | .str a,.str b=>decide (a=b)
 | .bool a,.bool b=>a == b
 | .agg [.int _ a,.int _ b],.agg [.int _ c,.int _ d]=>decide (a=c)&&decide (b=d)
 | _,_=>false
def rowKey:List V→V
 | k::_=>k
 | []=>.nils
def rowVal:List V→V
 | _::v::_=>v
 | _=>.nils
def findRow (key:V):List (List V)→Option V
 | []=>none
 | e::es=>if keyEq (rowKey e) key then some (rowVal e) else findRow key es
def putRow (key v:V):List (List V)→List (List V)
 | []=>[[key,v]]
 | e::es=>if keyEq (rowKey e) key then [key,v]::es else e::putRow key v es
def MEnts (Pr:Nat→Nat→Prop) (γ:List G) (w:World) (es:List (List V)) (ents:List MapEntry):Prop :=
 es.length=ents.length∧∀ (i:Nat) e m,es[i]? = some e→ents[i]? = some m→∃ kx vx,e=[kx,vx]∧Rep Pr γ w kx m.key∧Rep Pr γ w vx m.val
structure MapOk (Pr:Nat→Nat→Prop) (γ:List G) (w:World) (o:O) (g:G):Prop where
 cl:V.clean.cleanLL 0 o.es=true
 ky:∀ e∈o.es,keyCode (rowKey e)=o.wid
 bx:o.box=false
 ex:∃ (ents:Array MapEntry) (clock:Nat),w.heap[g.blk]? = some (.map ents clock)∧MEnts Pr γ w o.es ents.toList∧(∀ (i:Nat) m,ents[i]? = some m→m.born < clock) ∧
  (∀ (i j:Nat) m m',i < j→ents[i]? = some m→ents[j]? = some m'→m.born < m'.born)
def ent (b cap sz:Nat) (rows:List (List V)):List V:=[.dref b sz cap,.sl rows]
def labOf:List V→Nat
 | .dref b _ _::_=>b
 | _=>0
def szOfE:List V→Nat
 | .dref _ s _::_=>s
 | _=>0
def capOf:List V→Nat
 | .dref _ _ c::_=>c
 | _=>0
def poolEs (st:St) (k:Nat):List (List V):=match st[k]? with
 | some o=>(match o.kind with
   | .pool=>o.es
   | _=>[])
 | none=>[]
def putEnt (b:Nat) (rows:List (List V)) (es:List (List V)):List (List V):=es.map fun e=>if labOf e=b then ent b (capOf e) (szOfE e) rows else e
def poolO (es:List (List V)):O:=⟨es,0,false,true,false,.pool⟩
def EntOk (Pr:Nat→Nat→Prop) (w:World) (e:List V):Prop:=∃ b cap sz rows ty,e=ent b cap sz rows∧ObjOk Pr [] w ⟨rows,sz,true,true,false,.cell⟩ ⟨b,rows.length,cap,sz,ty⟩
def Lab (st:St) (b:Nat):Prop:=∃ (k:Nat) (o:O) (e:List V),st[k]? = some o∧o.kind=.pool∧e∈o.es∧labOf e=b
structure Pools (lo:Nat) (mod:Nat→Prop) (C:Nat→Prop) (Pr:Nat→Nat→Prop) (γ:List G) (st:St) (w:World):Prop where
 ent:∀ (k:Nat) (o:O),st[k]? = some o→o.kind=.pool→∀ e∈o.es,EntOk Pr w e
 free:∀ (k:Nat) (o:O) (e:List V),st[k]? = some o→o.kind=.pool→e∈o.es→¬ C (labOf e)∧(lo≤labOf e∨mod (labOf e))
 one:∀ (k k':Nat) (o o':O) (i i':Nat) (e e':List V),st[k]? = some o→st[k']? = some o'→o.kind=.pool→o'.kind=.pool→o.es[i]? = some e→o'.es[i']? = some e'→labOf e=labOf e'→k=k'∧i=i'
 sep:∀ (k k':Nat) (o o':O) (g':G) (e:List V),st[k]? = some o→o.kind=.pool→e∈o.es→st[k']? = some o'→γ[k']? = some g'→o'.live=true→g'.blk≠labOf e
 bx:∀ (k:Nat) (o:O),st[k]? = some o→o.kind=.pool→o.box=false
def O.own (o:O):Bool:=o.live||decide (o.kind=.map)
def mark (r:Nat):Deferred:={ target:=.collected r,args:=#[] }
structure Ext (P:Program) (ok:OkY) (E:Env P ok) (w0:World) (mod:Nat→Prop) (C:Nat→Prop) (ρ:Option Nat) (Pr:Nat→Nat→Prop) (γ:List G) (st:St) (ds:List Deferred) (w:World):Prop where
 clow:∀ b,C b→b < w.heap.size
 apart:∀ (k:Nat) (o:O) g,st[k]? = some o→γ[k]? = some g→o.own=true→¬ C g.blk
 prC:∀ b n,Pr b n→E.keep b n∨¬ C b
 maps:∀ (k:Nat) (o:O) g,st[k]? = some o→γ[k]? = some g→o.kind=.map→MapOk Pr γ w o g
 mone:∀ (k k':Nat) (o o':O) g g',st[k]? = some o→st[k']? = some o'→γ[k]? = some g→γ[k']? = some g'→o.kind=.map→o'.kind=.map→g.blk=g'.blk→k=k'
 mmine:∀ (k:Nat) (o:O) g,st[k]? = some o→γ[k]? = some g→o.kind=.map→w0.heap.size≤g.blk∨mod g.blk
 yld:∀ (k:Nat) (o:O) g,st[k]? = some o→γ[k]? = some g→o.kind=.yld→g.blk=E.l∧o.box=false∧E.Inv o.es o.excl C Pr w
 yone:∀ (k k':Nat) (o o':O),st[k]? = some o→st[k']? = some o'→o.kind=.yld→o'.kind=.yld→k=k'
 marks:∃ rs:List Nat,ds=rs.map mark∧rs.Nodup∧∀ r∈rs,w.heap[r]? = some (.deferred (some []))∧¬ C r∧w0.heap.size≤r
 round:∀ l,ρ=some l→ds=[]∧∃ L,w.heap[l]? = some (.loop L)∧¬ C l
 pools:Pools w0.heap.size mod C Pr γ st w
structure Base2 (w0:World) (mod:Nat→Prop) (γ0:List G) (Pr0:Nat→Nat→Prop) (C0:Nat→Prop) (Pr:Nat→Nat→Prop) (γ:List G) (C:Nat→Prop) (w:World):Prop where
 os:w.os=w0.os
 tape:w.tape=w0.tape
 output:w.output=w0.output
 size:w0.heap.size≤w.heap.size
 old:∀ b,b < w0.heap.size→¬ mod b→¬ C0 b→w.heap[b]? = w0.heap[b]?
 sub:∀ b n,Pr0 b n→Pr b n
 new:∀ b n,Pr b n→Pr0 b n∨w0.heap.size≤b∨mod b
 names:∀ (k:Nat) g,γ0[k]? = some g→γ[k]? = some g
 cell:∀ b n,Pr0 b n→w.cell? ⟨b,n,none⟩=w0.cell? ⟨b,n,none⟩
 csub:∀ b,C0 b→C b
 cnew:∀ b,C b→C0 b∨w0.heap.size≤b
def Mine (w0:World) (mod:Nat→Prop) (γ:List G) (st:St):Prop:=∀ (k:Nat) (o:O) g,st[k]? = some o→γ[k]? = some g→o.live=true→w0.heap.size≤g.blk∨mod g.blk
def Owns (st:St) (γ:List G) (k:Nat) (b:Nat):Prop:=∃ (o:O),st[k]? = some o∧((∃ g:G,γ[k]? = some g∧o.own=true∧g.blk=b)∨(o.kind=.pool∧∃ e∈o.es,labOf e=b))
def modOf (st:St) (γ:List G) (b:Nat):Prop:=∃ k:Nat,Owns st γ k b
structure X (P:Program) (ok:OkY) (E:Env P ok) (w0:World) (mod:Nat→Prop) (γ0:List G) (Pr0:Nat→Nat→Prop) (C0:Nat→Prop) (nt:Nat) (ρ:Option Nat)
  (Pr:Nat→Nat→Prop) (γ:List G) (C:Nat→Prop) (fr:Nat→V) (st:St) (a:Act) (w:World):Prop where
 mine:Mine w0 mod γ st
 ext:Ext P ok E w0 mod C ρ Pr γ st a.defers w
 fr:FrOk Pr γ w fr a nt
 st:StOk Pr γ w st
 base:Base2 w0 mod γ0 Pr0 C0 Pr γ C w
inductive RepO (Pr:Nat→Nat→Prop) (γ:List G) (w:World):Out→Ending→Prop
 | ret {v:V} {cv:Value} (h:Rep Pr γ w v cv):RepO Pr γ w (.ret v) (.returned cv)
 | pan {v:V} {cv:Value} (h:Rep Pr γ w v cv):RepO Pr γ w (.pan v) (.panicked [{ v:=cv,recovered:=false }])
def Full (P:Program) (ok:OkY) (f:FuncId) (args:List V) (st0:St) (R:Out→St→Prop):Prop:=Callable P f ∧
 ∀ (E:Env P ok) (C:Nat→Prop) (Pr:Nat→Nat→Prop) (γ:List G) (w:World) (cargs:List Value),RepL Pr γ w args cargs→StOk Pr γ w st0→Ext P ok E w (modOf st0 γ) C .none Pr γ st0 [] w →
   Calls P f cargs.toArray w fun e w'=>∃ o st' γ' Pr' C',RepO Pr' γ' w' o e∧R o st'∧StOk Pr' γ' w' st'∧Mine w (modOf st0 γ) γ' st'∧Ext P ok E w (modOf st0 γ) C' .none Pr' γ' st' [] w' ∧
    Base2 w (modOf st0 γ) γ Pr C Pr' γ' C' w'
def Pure (P:Program) (f:FuncId) (args:List V) (R:V→Prop):Prop:=Full P noY f args [] fun o st'=>st'=[]∧∃ r,o=.ret r∧R r
theorem Full.mono {P ok f args st0} {R R':Out→St→Prop} (h:Full P ok f args st0 R) (hr:∀ o st',R o st'→R' o st'):Full P ok f args st0 R' :=
 ⟨h.1,fun E C Pr γ w cargs a b c=>(h.2 E C Pr γ w cargs a b c).mono fun _ _ ⟨o,st',γ',Pr',C',h1,h2,h3⟩=>⟨o,st',γ',Pr',C',h1,hr _ _ h2,h3⟩⟩
theorem Pure.mono {P f args} {R R':V→Prop} (h:Pure P f args R) (hr:∀ r,R r→R' r):Pure P f args R':=Full.mono h fun _ _ ⟨e,r,h1,h2⟩=>⟨e,r,h1,hr r h2⟩
def V.mapN (f:Nat→Nat):V→V
 | .own k=>.own (f k)
 | .ptr k i j=>.ptr (f k) i j
 | .win k j n c=>.win (f k) j n c
 | .cptr k j=>.cptr (f k) j
 | .map k=>.map (f k)
 | .yld k=>.yld (f k)
 | .iface t x=>.iface t (V.mapN f x)
 | .meth n x=>.meth n (V.mapN f x)
 | .bnd n x=>.bnd n (V.mapN f x)
 | .agg cs=>.agg (go f cs)
 | .tup cs=>.tup (go f cs)
 | .rptr cs=>.rptr (go f cs)
 | .fn g cs=>.fn g (go f cs)
 | v=>v
where
 go (f:Nat→Nat):List V→List V
  | []=>[]
  | x::xs=>V.mapN f x::go f xs
def shr (σ:List Nat) (kn:Bool) (st:St):V→V
 | .own k=>match σ.contains k with
   | true=>.own k
   | false=>shareOwn st k
 | .nils=>match kn with
   | true=>.nils
   | false=>.sl []
 | .agg cs=>.agg (go σ kn st cs)
 | .tup cs=>.tup (go σ kn st cs)
 | .fn f cs=>.fn f (go σ kn st cs)
 | .iface t x=>.iface t (shr σ kn st x)
 | .meth n x=>.meth n (shr σ kn st x)
 | .bnd n x=>.bnd n (shr σ kn st x)
 | v=>v
where
 go (σ:List Nat) (kn:Bool) (st:St):List V→List V
  | []=>[]
  | x::xs=>shr σ kn st x::go σ kn st xs
def shrRows (σ:List Nat) (kn:Bool) (st:St):List (List V)→List (List V)
 | []=>[]
 | r::rs=>shr.go σ kn st r::shrRows σ kn st rs
def mapRows (f:Nat→Nat):List (List V)→List (List V)
 | []=>[]
 | r::rs=>V.mapN.go f r::mapRows f rs
def shrO (σ:List Nat) (kn:Bool) (st:St) (o:O):O:=match o.box with
 | true=>{ o with es:=shrRows σ kn st o.es }
 | false=>o
def mapO (f:Nat→Nat) (o:O):O:=match o.box with
 | true=>{ o with es:=mapRows f o.es }
 | false=>o
def noO:O:=⟨[],0,false,false,false,.cell⟩
def ownsRows:List (List V)→List Nat
 | []=>[]
 | r::rs=>owns.go r++ownsRows rs
def ownsO (o:O):List Nat:=match o.box with
 | true=>ownsRows o.es
 | false=>[]
def getO (st:St) (k:Nat):O:=match st[k]? with
 | some o=>o
 | none=>noO
def idx (σ:List Nat) (k:Nat):Nat:=match σ.idxOf? k with
 | some i=>i
 | none=>σ.length
def handO (σ:List Nat) (kn:Bool) (st:St):List Nat→List O
 | []=>[]
 | k::ks=>mapO (idx σ) (shrO σ kn st (getO st k))::handO σ kn st ks
def lentO (σ:List Nat) (st:St):List Nat→List Nat
 | []=>[]
 | k::ks=>ownsO (getO st k)++lentO σ st ks
def lentN (σ:List Nat) (st:St) (vs:List V):List Nat:=(owns.go vs++lentO σ st σ).filter fun k=>!σ.contains k
def back (σ:List Nat) (m:Nat) (j:Nat):Nat:=match σ[j]? with
 | some k=>k
 | none=>m+(j - σ.length)
def rowsUnder (n:Nat):List O→Bool
 | []=>true
 | o::os=>(match o.box with
   | true=>V.under.underLL n o.es
   | false=>true)&&rowsUnder n os
def hasYld:List O→Bool
 | []=>false
 | o::os=>decide (o.kind=.yld)||hasYld os
def putAll (st:St):List Nat→List O→St
 | k::ks,o::os=>putAll (st.set k o) ks os
 | _,_=>st
def backSt (σ:List Nat) (st:St) (st':List O):St:=putAll st σ ((st'.take σ.length).map (mapO (back σ st.length)))++(st'.drop σ.length).map (mapO (back σ st.length))
def onOut (f:V→V) (K Z:V→Prop):Out→Prop
 | .ret v=>K (f v)
 | .pan v=>Z (f v)
def ACallG (P:Program) (ok:OkY) (f:FuncId) (vs:List V) (st:St) (σ:List Nat) (kn:Bool) (K Z:V→St→Prop):Prop :=
 Chk (decide σ.Nodup&&(σ.all fun k=>decide (k < st.length))&&V.under.underL σ.length (V.mapN.go (idx σ) (shr.go σ kn st vs))&&rowsUnder σ.length (handO σ kn st σ))
  (match hasYld (handO σ kn st σ) with
    | false=>Full P noY f (V.mapN.go (idx σ) (shr.go σ kn st vs)) (handO σ kn st σ) fun o st'=>onOut (V.mapN (back σ st.length)) (fun v=>K v (backSt σ (lend st (lentN σ st vs)) st')) (fun v=>Z v (backSt σ (lend st (lentN σ st vs)) st')) o
    | true=>Full P ok f (V.mapN.go (idx σ) (shr.go σ kn st vs)) (handO σ kn st σ) fun o st'=>onOut (V.mapN (back σ st.length)) (fun v=>K v (backSt σ (lend st (lentN σ st vs)) st')) (fun v=>Z v (backSt σ (lend st (lentN σ st vs)) st')) o)
inductive View (es:List (List V)):V→V→Prop
 | same (x:V):View es x x
 | nils:View es .nils (.sl [])
 | dref {b n cap sz:Nat} {rows rows':List (List V)} (hm:ent b cap sz rows∈es) (hn:n=rows.length) (hl:rows'.length=rows.length) (hcl:V.clean.cleanLL 0 rows'=true) (hlf:∀ e∈rows',∀ x∈e,x.leaf=true)
    (hr:∀ (i:Nat) r r',rows[i]? = some r→rows'[i]? = some r'→r.length=r'.length)
    (h:∀ (i:Nat) r r' (j:Nat) x y,rows[i]? = some r→rows'[i]? = some r'→r[j]? = some x→r'[j]? = some y→View es x y):View es (.dref b n cap) (.sl rows')
 | agg {cs ds:List V} (hl:cs.length=ds.length) (h:∀ (i:Nat) x y,cs[i]? = some x→ds[i]? = some y→View es x y):View es (.agg cs) (.agg ds)
 | tup {cs ds:List V} (hl:cs.length=ds.length) (h:∀ (i:Nat) x y,cs[i]? = some x→ds[i]? = some y→View es x y):View es (.tup cs) (.tup ds)
def ViewL (es:List (List V)) (xs ys:List V):Prop:=xs.length=ys.length∧∀ (i:Nat) x y,xs[i]? = some x→ys[i]? = some y→View es x y
def V.flat:V→Bool
 | .sl []=>true
 | .sl _ | .rptr _=>false
 | .agg cs | .tup cs | .fn _ cs=>go cs
 | .iface _ x=>V.flat x
 | .meth _ x=>V.flat x
 | .bnd _ x=>V.flat x
 | _=>true
where
 go:List V→Bool
  | []=>true
  | x::xs=>V.flat x&&go xs
def LentPure (P:Program) (f:FuncId) (vs:List V) (st:St) (R:V→Prop):Prop:=∃ (es:List (List V)) (vs':List V),(∀ e∈es,∃ k,e∈poolEs st k)∧ViewL es vs vs'∧V.clean.cleanL 0 vs'=true∧Pure P f vs' (fun r=>(r.flat||es.isEmpty)=true∧R r)
def ACall (P:Program) (ok:OkY) (f:FuncId) (vs:List V) (st:St) (K Z:V→St→Prop):Prop :=
 match V.clean.cleanL 0 vs with
 | true=>Pure P f (share.go st vs) (fun r=>K r st)∨(∃ σ kn,ACallG P ok f vs st σ kn K Z)∨LentPure P f vs st (fun r=>K r st)
 | false=>∃ σ kn,ACallG P ok f vs st σ kn K Z
@[irreducible] def AtRow (x:Option (List V)) (C:List V→Prop):Prop:=∃ e,x=some e∧C e
def atRow (box:Bool) (x:Option (List V)) (C:List V→Prop):Prop:=match box with
 | true=>(match x with
   | none=>False
   | some e=>C e)
 | false=>AtRow x C
omit [Lam] in
theorem atRow_iff {box:Bool} {x:Option (List V)} {C:List V→Prop}:atRow box x C↔∃ e,x=some e∧C e:=by
 unfold atRow
 cases box
 · simp only; unfold AtRow; rfl
 · cases x <;> simp
def splice (e:List V) (j:Nat) (cs:List V):List V:=e.take j++(cs++e.drop (j+cs.length))
def cellB (b:UInt8):V:=.int .u8 b.toNat
def newO (es:List (List V)) (wid:Nat) (box:Bool):O:=⟨es,wid,true,true,box,.cell⟩
def elems (st:St):V→Option (List (List V))
 | .nils=>some []
 | .sl es=>some es
 | .own k=>liveEs st k
 | _=>none
def shutB (p:Prop) [Decidable p]:Bool:=@decide p ((propext Decidable.not_not:(¬ ¬ p)=p) ▸ (inferInstance:Decidable (¬ ¬ p)))
omit [Lam] in
theorem shutB_eq (p:Prop) [Decidable p]:shutB p=decide p:=decide_eq_decide.2 Iff.rfl
@[irreducible] def eqB (a b:Int):Bool:=shutB (a=b)
@[irreducible] def ltB (a b:Int):Bool:=shutB (a < b)
@[irreducible] def leB (a b:Int):Bool:=shutB (a≤b)
@[irreducible] def eqS (a b:List UInt8):Bool:=shutB (a=b)
@[irreducible] def ltS (a b:List UInt8):Bool:=Op.bytesLess a b
omit [Lam] in
theorem eqB_def (a b:Int):eqB a b=decide (a=b):=by unfold eqB; exact shutB_eq _
omit [Lam] in
theorem ltB_def (a b:Int):ltB a b=decide (a < b):=by unfold ltB; exact shutB_eq _
omit [Lam] in
theorem leB_def (a b:Int):leB a b=decide (a≤b):=by unfold leB; exact shutB_eq _
omit [Lam] in
theorem eqS_def (a b:List UInt8):eqS a b=decide (a=b):=by unfold eqS; exact shutB_eq _
omit [Lam] in
theorem ltS_def (a b:List UInt8):ltS a b=Op.bytesLess a b:=by unfold ltS; rfl
def negB:Bool→Bool
 | true=>false
 | false=>true
def KSame (k k':IntKind) (A:Prop):Prop:=match decide (k=k') with
 | true=>A
 | false=>False
omit [Lam] in
theorem KSame_iff {k k':IntKind} {A:Prop}:KSame k k' A↔k=k'∧A:=by
 unfold KSame
 by_cases h:k=k' <;> simp [h]
def AtKind (t:Option TI) (k:TK) (A:Prop):Prop:=Chk (match t with | some i=>decide (i.kind=k) | none=>false) A
def aEqNil (t:Option TI) (lit:Bool):V→Value→(Bool→Prop)→Prop
 | .iface _ _,.nilIface,K=>AtKind t .iface (K false)
 | .raw .nilIface,.nilIface,K=>AtKind t .iface (Chk lit (K true))
 | .raw (.iface _ _),.nilIface,K=>AtKind t .iface (K false)
 | .ptr _ _ _,.pointer none,K=>AtKind t .ptr (K false)
 | .dptr _ _ _ _,.pointer none,K=>AtKind t .ptr (K false)
 | .rptr _,.pointer none,K=>AtKind t .ptr (K false)
 | .raw (.pointer none),.pointer none,K=>AtKind t .ptr (K true)
 | _,_,_=>False
def aBin (op:BinOp) (t:Option TI) (lit:Bool) (x y:V) (K:V→Prop):Prop :=
 match op,x,y with
 | .add,.int k a,.int k' b=>KSame k k' (K (.int k (k.wrap (a+b))))
 | .sub,.int k a,.int k' b=>KSame k k' (K (.int k (k.wrap (a - b))))
 | .mul,.int k a,.int k' b=>KSame k k' (K (.int k (k.wrap (a*b))))
 | .quo,.int k a,.int k' b=>b≠0∧KSame k k' (K (.int k (k.wrap (a.tdiv b))))
 | .rem,.int k a,.int k' b=>b≠0∧KSame k k' (K (.int k (a.tmod b)))
 | .eql,.int k a,.int k' b=>KSame k k' (K (.bool (eqB a b)))
 | .neq,.int k a,.int k' b=>KSame k k' (K (.bool (negB (eqB a b))))
 | .lss,.int k a,.int k' b=>KSame k k' (K (.bool (ltB a b)))
 | .leq,.int k a,.int k' b=>KSame k k' (K (.bool (leB a b)))
 | .gtr,.int k a,.int k' b=>KSame k k' (K (.bool (ltB b a)))
 | .geq,.int k a,.int k' b=>KSame k k' (K (.bool (leB b a)))
 | .shl,.int k a,.int _ b=>0≤b∧K (.int k (k.wrap (a*2 ^ (min b.toNat k.bits))))
 | .shr,.int k a,.int _ b=>0≤b∧K (.int k (a.fdiv (2 ^ (min b.toNat k.bits))))
 | .and,.int k a,.int k' b=>KSame k k' (K (.int k (k.wrap (BitVec.ofInt k.bits a &&& BitVec.ofInt k.bits b).toNat)))
 | .or,.int k a,.int k' b=>KSame k k' (K (.int k (k.wrap (BitVec.ofInt k.bits a ||| BitVec.ofInt k.bits b).toNat)))
 | .xor,.int k a,.int k' b=>KSame k k' (K (.int k (k.wrap (BitVec.ofInt k.bits a ^^^ BitVec.ofInt k.bits b).toNat)))
 | .add,.str a,.str b=>a.length+b.length≤9223372036854775807∧K (.str (a++b))
 | .eql,.str a,.str b=>K (.bool (eqS a b))
 | .neq,.str a,.str b=>K (.bool (negB (eqS a b)))
 | .lss,.str a,.str b=>K (.bool (ltS a b))
 | .leq,.str a,.str b=>K (.bool (ltS a b||eqS a b))
 | .gtr,.str a,.str b=>K (.bool !(ltS a b||eqS a b))
 | .geq,.str a,.str b=>K (.bool (negB (ltS a b)))
 | .eql,.bool a,.bool b=>Chk (match t with | some i=>decide (i.kind=.bool) | none=>false) (K (.bool (a == b)))
 | .neq,.bool a,.bool b=>Chk (match t with | some i=>decide (i.kind=.bool) | none=>false) (K (.bool (!(a == b))))
 | .eql,x,.raw v=>aEqNil t lit x v fun b=>K (.bool b)
 | .neq,x,.raw v=>aEqNil t lit x v fun b=>K (.bool (negB b))
 | _,_,_=>False
def aUn (op:UnOp) (x:V) (K:V→Prop):Prop :=
 match op,x with
 | .not,.bool b=>K (.bool (negB b))
 | .neg,.int k n=>K (.int k (k.wrap (0 - n)))
 | .xor,.int k n=>K (.int k (k.wrap (BitVec.ofInt k.bits (if k.signed then -1 else k.max) ^^^ BitVec.ofInt k.bits n).toNat))
 | _,_=>False
def globOf:Value→Option Nat
 | .pointer (some ⟨g,0,none⟩)=>some g
 | _=>none
omit [Lam] in
theorem globOf_some {v:Value} {g:Nat} (h:globOf v=some g):v=.pointer (some ⟨g,0,none⟩):=by
 unfold globOf at h
 split at h
 · cases h; rfl
 · cases h
def aLoad (τ:Tau) (t:TypeId) (p:V) (st:St) (K:V→Prop):Prop :=
 match τ t with
 | none=>False
 | some ti =>
   match p with
   | .ptr k i j=>match st[k]? with
     | none=>False
     | some o=>Chk o.live (atRow o.box o.es[i]? fun e=>if ti.kind=.agg then Chk (decide (j+ti.size≤e.length)) (K (.agg ((e.drop j).take ti.size)))
        else match e[j]? with
         | none=>False
         | some x=>K x)
   | .cptr k j=>∃ o e x,st[k]? = some o∧o.live=true∧o.box=true∧o.es[0]? = some e∧e[j]? = some x∧Chk (decide (ti.kind≠.agg)) (K x)
   | .rptr cs=>if ti.kind=.agg then Chk (decide (ti.size≤cs.length)) (K (.agg (cs.take ti.size)))
     else match cs[0]? with
      | none=>False
      | some x=>K x
   | .dptr b sz i j=>∃ (k cap:Nat) (rows:List (List V)) (e:List V),ent b cap sz rows∈poolEs st k∧rows[i]? = some e∧(if ti.kind=.agg then Chk (decide (j+ti.size≤e.length)) (K (.agg ((e.drop j).take ti.size)))
       else match e[j]? with
        | none=>False
        | some x=>K x)
   | .raw v=>(match (globOf v).bind Lam.dat with
     | some cs=>if ti.kind=.agg then Chk (decide (ti.size≤cs.length)) (K (.agg (cs.take ti.size)))
       else match cs[0]? with
        | none=>False
        | some x=>K x
     | none=>False)
   | _=>False
def aStore (τ:Tau) (t:TypeId) (p v:V) (st:St) (K:St→Prop):Prop :=
 match τ t,p with
 | some ti,.ptr k i j=>match st[k]? with
   | none=>False
   | some o=>Chk o.live (Chk o.excl (Chk (o.box||V.clean.cleanL 0 v.cells) (Chk (v.cells.all V.leaf) (Chk (decide (v.cells.length=ti.size)) (atRow o.box o.es[i]? fun e=>Chk (decide (j+ti.size≤e.length)) (K (st.set k (o.setEs (o.es.set i (splice e j v.cells))))))))))
 | some ti,.cptr k j=>∃ o e e',st[k]? = some o∧o.es[0]? = some e∧j+1≤e.length∧e'=e.set j v∧Chk (decide (ti.size=1)) (Chk o.live (Chk o.excl (Chk o.box (Chk (decide (v.cells.length=1)) (Chk v.leaf (K (st.set k (o.setEs (o.es.set 0 e')))))))))
 | some ti,.dptr b sz i j=>∃ (k cap:Nat) (rows:List (List V)) (e:List V) (es':List (List V)),ent b cap sz rows∈poolEs st k∧rows[i]? = some e∧es'=putEnt b (rows.set i (splice e j v.cells)) (poolEs st k)∧Chk (V.clean.cleanL 0 v.cells) (Chk (v.cells.all V.leaf) (Chk (decide (v.cells.length=ti.size)) (Chk (decide (j+ti.size≤e.length)) (K (st.set k (poolO es'))))))
 | _,_=>False
def aFieldAddr (τ:Tau) (s:TypeId) (p:V) (f:Nat) (K:V→Prop):Prop :=
 match (τ s).bind (·.fields[f]?) with
 | none=>False
 | some (off,size,_)=>Chk (decide (size≠0)) (match p with
   | .ptr k i j=>K (.ptr k i (j+off))
   | .rptr cs=>K (.rptr (cs.drop off))
   | .dptr b sz i j=>K (.dptr b sz i (j+off))
   | _=>False)
def aField (τ:Tau) (s:TypeId) (x:V) (f:Nat) (K:V→Prop):Prop :=
 match (τ s).bind (·.fields[f]?),x with
 | some (off,size,isagg),.agg cs=>if isagg then K (.agg ((cs.drop off).take size)) else match cs[off]? with
   | some v=>K v
   | none=>False
 | _,_=>False
def aElt (x:V) (i:Nat) (row:List V):V:=match x with
 | .own k=>.ptr k i 0
 | _=>.rptr row
def aIndexAddr (τ:Tau) (t:TypeId) (lit:Bool) (x i:V) (st:St) (K:V→Prop):Prop :=
 match kindOf τ t,i with
 | some .agg,.int _ n=>(match (τ t).bind TI.arr with
   | some len=>(match lit,x with
     | true,.ptr k i j=>Chk (decide (0≤n)) (Chk (decide (n.toNat < len)) (K (.ptr k i (j+n.toNat))))
     | false,.ptr k 0 j=>0≤n∧n.toNat < len∧K (.cptr k (j+n.toNat))
     | _,_=>False)
   | none=>False)
 | some (.slice e),.int _ n=>(match x with
   | .dref b m _=>0≤n∧n.toNat < m∧(match sizeOfT τ e with
     | some size=>Chk (decide (size≠0)) (K (.dptr b size n.toNat 0))
     | none=>False)
   | .win k j m _=>0≤n∧n.toNat < m∧(match sizeOfT τ e with
     | some size=>Chk (decide (size=1)) (K (.cptr k (j+n.toNat)))
     | none=>False)
   | x=>0≤n∧∃ es row size,elems st x=some es∧es[n.toNat]? = some row∧sizeOfT τ e=some size∧row.length=size∧K (aElt x n.toNat row))
 | _,_=>False
def aIndex (τ:Tau) (t:TypeId) (x i:V) (K:V→Prop):Prop :=
 match kindOf τ t,x,i with
 | some .str,.str s,.int _ n=>0≤n∧∃ b,s[n.toNat]? = some b∧K (cellB b)
 | some .agg,.agg cs,.int _ n=>(match (τ t).bind TI.arr with
   | some len=>0≤n∧n.toNat < len∧∃ y,cs[n.toNat]? = some y∧K y
   | none=>False)
 | _,_,_=>False
def aBound (x:V) (y:Nat) (K:Nat→Prop):Prop :=
 match x with
 | .int _ n=>0≤n∧n.toNat≤y∧K n.toNat
 | _=>False
def aLow (lo:Option V) (h:Nat) (C:Nat→Nat→Prop):Prop:=match lo with
 | none=>C 0 h
 | some l=>aBound l h fun l=>C l h
def aRange (lo hi:Option V) (n:Nat) (C:Nat→Nat→Prop):Prop :=
 match hi with
 | none=>aLow lo n C
 | some h=>aBound h n fun h=>aLow lo h C
def subD (b size l n c:Nat):V:=.raw (.slice (some ⟨b,l*size,none⟩) n c)
def aLowD (lo:Option V) (h c b size:Nat) (K:V→Prop):Prop:=match lo with
 | none=>K (.dref b h c)
 | some l=>aBound l h fun l=>(l=c→K (subD b size 0 0 0))∧(l≠c→K (subD b size l (h - l) (c - l)))
def aSlice (τ:Tau) (t:TypeId) (x:V) (lo hi:Option V) (st:St) (K:V→St→Prop):Prop :=
 match kindOf τ t,x with
 | some .str,.str s=>aRange lo hi s.length fun l h=>K (.str ((s.take h).drop l)) st
 | some (.slice e),.dref b n c=>(match sizeOfT τ e with
   | some size=>n≤c∧(match hi with
     | none=>aLowD lo n c b size fun v=>K v st
     | some h=>aBound h c fun h=>aLowD lo h c b size fun v=>K v st)
   | none=>False)
 | some .agg,.ptr k 0 j=>(match (τ t).bind TI.arr with
   | some len=>aRange lo hi len fun l h=>Chk (decide (l=0)) (K (.win k j h len) st)
   | none=>False)
 | some (.slice e),x=>(match elems st x,sizeOfT τ e with
   | some es,some size=>(∀ r∈es,r.length=size)∧aRange lo hi es.length fun l h=>K (.sl ((es.take h).drop l)) (lend st (owns x))
   | _,_=>False)
 | _,_=>False
def aConvert (τ:Tau) (src dst:TypeId) (x:V) (st:St) (K:V→St→Prop):Prop :=
 match kindOf τ src,kindOf τ dst,x with
 | some (.int _),some (.int k),.int _ n=>K (.int k (k.wrap n)) st
 | some .str,some .str,.str s=>K (.str s) st
 | some .str,some (.slice e),.str s=>Chk (decide (kindOf τ e=some (.int .u8))) (Chk (decide (sizeOfT τ e=some 1)) (s.length≤140737488355328∧lenK st 0 fun n=>K (.own n) (st++[newO (s.map fun b=>[cellB b]) 1 false])))
 | some (.slice e),some .str,x=>Chk (decide (kindOf τ e=some (.int .u8))) (match elems st x with
   | some es=>∃ bs:List UInt8,es=bs.map (fun b=>[cellB b])∧K (.str bs) st
   | none=>False)
 | _,_,_=>False
def aMake (τ:Tau) (t:TypeId) (n c:V) (st:St) (K:V→St→Prop):Prop :=
 match kindOf τ t,n,c with
 | some (.slice e),.int _ n,.int _ c=>0≤n∧n≤c∧(match τ e with
   | some ti=>c.toNat*ti.bytes≤281474976710656∧c≤9223372036854775807∧Chk (decide (0 < ti.size)) (Chk (decide (ti.zero.cells.length=ti.size)) (Chk (ti.zero.cells.all V.leaf) (Chk (V.clean.cleanL 0 ti.zero.cells) (lenK st 0 fun m=>K (.own m) (st++[newO (List.replicate n.toNat ti.zero.cells) ti.size false])))))
   | none=>False)
 | _,_,_=>False
def aBuildSlice (τ:Tau) (t:TypeId) (len:Nat) (parts:List (Nat × V)) (st:St) (K:V→St→Prop):Prop :=
 match kindOf τ t with
 | some (.slice e)=>(match τ e with
   | some ti=>Chk (decide (parts.map (·.1)=List.range len)) (Chk (decide (len*ti.size≤16777216)) (Chk (parts.all fun p=>decide (p.2.cells.length=ti.size∧p.2.cells.all V.leaf=true)) (Chk (decide (0 < ti.size)) (Chk (decide (ti.zero.cells.length=ti.size))
     (if len=0 then K .nils st else Chk (V.clean.cleanLL 0 (parts.map fun p=>shareC st p.2.cells)) (lenK st 0 fun n=>K (.own n) (lend st (owns.go (parts.map (·.2)))++[newO (parts.map fun p=>shareC st p.2.cells) ti.size false])))))))
   | none=>False)
 | _=>False
def moreOf (st:St) (k:TK):V→Option (List (List V))
 | .str b=>if k=.int .u8 then some (b.map fun c=>[cellB c]) else none
 | x=>elems st x
def notInt:Option TK→Bool
 | some .str | some (.slice _)=>true
 | _=>false
def aAppend (τ:Tau) (t u:TypeId) (s x:V) (st:St) (K:V→St→Prop):Prop :=
 match kindOf τ t with
 | some (.slice e)=>(match τ e with
   | some ti=>Chk (notInt (kindOf τ u)) (match moreOf st ti.kind x with
     | none=>False
     | some ms=>Chk (decide (0 < ti.size)) (Chk (decide (0 < ti.bytes)) (Chk (decide (ti.zero.cells.length=ti.size)) ((∀ m∈ms,m.length=ti.size)∧(match s with
       | .nils=>ms.length*ti.bytes≤140737488355328∧((ms=[]∧K .nils st)∨(ms≠[]∧lenK st 0 fun n=>K (.own n) (st++[newO ms ti.size false])))
       | .own k=>(match st[k]? with
         | none=>False
         | some o=>Chk o.live (Chk (!o.box) (Chk (decide (o.wid=ti.size)) ((o.es.length+ms.length)*ti.bytes≤140737488355328 ∧
           lenK st 0 fun n=>K (.own n) ((st.set k { o with live:=false })++[⟨o.es++ms,o.wid,true,o.excl,false,.cell⟩])))))
       | _=>False)))))
   | none=>False)
 | _=>False
def aLen (τ:Tau) (t:TypeId) (x:V) (st:St) (K:V→Prop):Prop :=
 match kindOf τ t,x with
 | some .str,.str s=>K (.int .i64 s.length)
 | some (.slice _),x=>(match x with
   | .dref _ m _=>K (.int .i64 m)
   | .win _ _ m _=>K (.int .i64 m)
   | x=>(match elems st x with
     | some es=>K (.int .i64 es.length)
     | none=>False))
 | some (.map _ _),.map k=>(match st[k]? with
   | some o=>Chk (decide (o.kind=.map)) (K (.int .i64 o.es.length))
   | none=>False)
 | _,_=>False
@[irreducible] def AtKey (x:Option V) (C:Option V→Prop):Prop:=∃ r,x=r∧C r
omit [Lam] in
theorem AtKey_iff {x:Option V} {C:Option V→Prop}:AtKey x C↔C x:=by
 unfold AtKey
 exact ⟨fun ⟨_,h,c⟩=>h ▸ c,fun h=>⟨_,rfl,h⟩⟩
def aLookup (τ:Tau) (t:TypeId) (m key:V) (commaOk:Bool) (st:St) (K:V→Prop):Prop :=
 match kindOf τ t,m with
 | some (.map tk te),.map k=>(match st[k]?,τ tk,τ te with
   | some o,some ik,some ie=>Chk (decide (o.kind=.map)&&decide (keyCode key=codeI ik)&&decide (codeI ik≠0)&&decide (o.wid=codeI ik))
      (AtKey (findRow key o.es) fun r=>match r with
        | some v=>K (match commaOk with | true=>.tup [v,.bool true] | false=>v)
        | none=>K (match commaOk with | true=>.tup [ie.zero,.bool false] | false=>ie.zero))
   | _,_,_=>False)
 | _,_=>False
def aMapUpdate (τ:Tau) (t:TypeId) (m key v:V) (st:St) (K:St→Prop):Prop :=
 match kindOf τ t,m with
 | some (.map tk _),.map k=>(match st[k]?,τ tk with
   | some o,some ik=>Chk (decide (o.kind=.map)&&decide (keyCode key=codeI ik)&&decide (codeI ik≠0)&&decide (o.wid=codeI ik)&&V.clean 0 (share st v))
      (K ((lend st (owns v)).set k { o with es:=putRow key (share st v) o.es }))
   | _,_=>False)
 | _,_=>False
def aMakeMap (τ:Tau) (t:TypeId) (st:St) (K:V→St→Prop):Prop :=
 match kindOf τ t with
 | some (.map tk _)=>(match τ tk with
   | some ik=>lenK st 0 fun n=>K (.map n) (st++[⟨[],codeI ik,false,true,false,.map⟩])
   | none=>False)
 | _=>False
def aMakeIface (τ:Tau) (t:TypeId) (x:V) (K:V→Prop):Prop :=
 match kindOf τ t with
 | some .iface=>False
 | some _=>K (.iface t x)
 | none=>False
def aAssert (τ:Tau) (t:TypeId) (commaOk:Bool) (x:V) (K:V→Prop):Prop :=
 match τ t with
 | some ti=>(match ti.kind with
   | .iface=>False
   | _=>(match x with
     | .iface d v=>(match decide (d=t) with
       | true=>K (match commaOk with | true=>.tup [v,.bool true] | false=>v)
       | false=>Chk commaOk (K (.tup [ti.zero,.bool false])))
     | .raw .nilIface=>Chk commaOk (K (.tup [ti.zero,.bool false]))
     | _=>False))
 | none=>False
def methOf (τ:Tau) (t:TypeId) (name:String):Option FuncId:=(τ t).bind fun ti=>ti.meths.lookup name
def isConst:Operand→Bool
 | .const _=>true
 | _=>false
def aYield (ok:OkY) (k:Nat) (vs:List V) (st:St) (K:V→St→Prop):Prop :=
 match st[k]? with
 | some o=>Chk (decide (o.kind=.yld)&&o.excl&&V.clean.cleanL 0 (share.go st vs)) (ok o.es (share.go st vs) ∧
    ∀ b,K (.bool b) ((lend st (owns.go vs)).set k { o with es:=o.es++[share.go st vs],excl:=b }))
 | none=>False
def aBuild (τ:Tau) (t:TypeId) (parts:List (Nat × V)) (K:V→Prop):Prop :=
 match τ t with
 | some ti=>Chk (decide (ti.kind=.agg)) (Chk (decide (ti.flds≠[])) (match ti.zero with
   | .agg z=>go ti.flds parts z K
   | _=>False))
 | none=>False
where
 go (fs:List (Nat × Nat × Bool)):List (Nat × V)→List V→(V→Prop)→Prop
  | [],cs,K=>K (.agg cs)
  | (i,v)::rest,cs,K=>match fs[i]? with
    | some (off,size,_)=>Chk (decide (v.cells.length=size)) (Chk (v.cells.all V.leaf) (Chk (decide (off+size≤cs.length)) (go fs rest (splice cs off v.cells) K)))
    | none=>False
def semVals (fr:Nat→V) (o:Oper):List V:=o.op.operands.toList.map (ev fr)
@[irreducible] def SemOp (P:Program) (o:Oper) (vs:List V) (st:St) (K:V→St→Prop):Prop:=(∀ c,o.op≠.defer c) ∧
  ∀ (ok:OkY) (E:Env P ok) (w0:World) (mod:Nat→Prop) (γ0:List G) (Pr0:Nat→Nat→Prop) (C0:Nat→Prop) (nt:Nat) (ρ:Option Nat) (Pr:Nat→Nat→Prop) (γ:List G) (C:Nat→Prop) (fr:Nat→V) (a:Act) (w:World),
    X P ok E w0 mod γ0 Pr0 C0 nt ρ Pr γ C fr st a w→RepL Pr γ w vs (o.op.operands.toList.map a.eval) →
    ∃ v cv st' Pr' γ' C' w',K v st'∧Rep Pr' γ' w' v cv∧X P ok E w0 mod γ0 Pr0 C0 nt ρ Pr' γ' C' fr st' a w'∧(execOp a.eval o).run P w=.ok (.value cv) w'
def isName:Operand→Bool
 | .func _=>true
 | _=>false
def isPoolK:XK→Bool
 | .pool=>true
 | _=>false
def poolIn:St→Bool
 | []=>false
 | o::os=>(match isPoolK o.kind with
   | true=>true
   | false=>poolIn os)
def ownT (t:Nat) (st:St):V→Bool
 | .nils=>(match Lam.apool t with
   | true=>!poolIn st
   | false=>true)
 | .own _=>true
 | _=>false
def aOp (P:Program) (ok:OkY) (τ:Tau) (o:Oper) (fr:Nat→V) (st:St) (K Z:V→St→Prop):Prop :=
 match o.op with
 | .move x | .assign x=>K (ev fr x) st
 | .pick c a b=>(match ev fr c with
   | .bool t=>K (if t then ev fr a else ev fr b) st
   | _=>False)
 | .box _ x=>Chk ((ev fr x).cells.all V.leaf) (lenK st 0 fun n=>K (.ptr n 0 0) (st++[newO [(ev fr x).cells] (ev fr x).cells.length true]))
 | .alloc e=>(match τ e with
   | some ti=>Chk (ti.zero.cells.all V.leaf) (lenK st 0 fun n=>K (.ptr n 0 0) (st++[newO [ti.zero.cells] ti.zero.cells.length true]))
   | none=>False)
 | .load t a=>aLoad τ t (ev fr a) st fun v=>K v st
 | .store t a v=>aStore τ t (ev fr a) (ev fr v) st fun st=>K undefV st
 | .binOp op t x y _=>aBin op (τ t) (isConst x||isConst y) (ev fr x) (ev fr y) fun v=>K v st
 | .unOp op _ x=>aUn op (ev fr x) fun v=>K v st
 | .convert src dst x=>aConvert τ src dst (ev fr x) st K
 | .makeSlice t n c=>(match Lam.pool t with
   | true=>SemOp P o (semVals fr o) st K
   | false=>aMake τ t (ev fr n) (ev fr c) st K)
 | .slice t x lo hi none=>aSlice τ t (ev fr x) (lo.map (ev fr)) (hi.map (ev fr)) st K
 | .fieldAddr s x f=>aFieldAddr τ s (ev fr x) f fun v=>K v st
 | .field s x f=>aField τ s (ev fr x) f fun v=>K v st
 | .indexAddr t x i=>aIndexAddr τ t (isConst i) (ev fr x) (ev fr i) st fun v=>K v st
 | .index t x i=>aIndex τ t (ev fr x) (ev fr i) fun v=>K v st
 | .extract x i=>(match ev fr x with
   | .tup vs=>(match vs[i]? with | some v=>K v st | none=>False)
   | _=>False)
 | .build t parts=>aBuild τ t (parts.toList.map fun p=>(p.1,ev fr p.2)) fun v=>K v st
 | .buildSlice t len parts=>aBuildSlice τ t len (parts.toList.map fun p=>(p.1,ev fr p.2)) st K
 | .makeFunc (.func f) first cap=>(match first.toList with
   | []=>K (.fn f (cap.toList.map (ev fr))) st
   | [x]=>Chk (decide (cap.size=0)) (K (.bnd f (ev fr x)) st)
   | _=>False)
 | .makeFunc (.method n) first cap=>Chk (decide (cap.size=0)) (match first.toList with
   | [x]=>K (.meth n (ev fr x)) st
   | _=>False)
 | .nilCheck x=>(match ev fr x with
   | .ptr k i j=>K (.ptr k i j) st
   | .rptr cs=>K (.rptr cs) st
   | .dptr b sz i j=>K (.dptr b sz i j) st
   | .fn f cs=>K (.fn f cs) st
   | .yld k=>K (.yld k) st
   | .iface t v=>K (.iface t v) st
   | _=>False)
 | .call { callee:=.value f,args,.. }=>(match ev fr f with
   | .fn g cap=>(match isName f&&Lam.ext g with
     | true=>SemOp P o (semVals fr o) st K
     | false=>ACall P ok g (args.toList.map (ev fr)++cap) st K Z)
   | .yld k=>aYield ok k (args.toList.map (ev fr)) st K
   | .meth n (.iface t v)=>∃ g,methOf τ t n=some g∧ACall P ok g (v::args.toList.map (ev fr)) st K Z
   | .bnd g x=>ACall P ok g (x::args.toList.map (ev fr)) st K Z
   | _=>False)
 | .call { callee:=.invoke x name,args,.. }=>(match ev fr x with
   | .iface t v=>∃ f,methOf τ t name=some f∧ACall P ok f (v::args.toList.map (ev fr)) st K Z
   | _=>False)
 | .makeMap t none=>aMakeMap τ t st K
 | .lookup t m key c=>aLookup τ t (ev fr m) (ev fr key) c st fun v=>K v st
 | .mapUpdate t m key v | .insert t m key v=>aMapUpdate τ t (ev fr m) (ev fr key) (ev fr v) st fun st=>K undefV st
 | .makeInterface t x=>aMakeIface τ t (ev fr x) fun v=>K v st
 | .typeAssert x _ t c=>aAssert τ t c (ev fr x) fun v=>K v st
 | .panic x=>(match ev fr x with
   | .iface t v=>Z (.iface t v) st
   | .raw (.iface t u)=>Z (.raw (.iface t u)) st
   | _=>False)
 | .call { callee:=.builtin .len,args,argTypes }=>(match args.toList,argTypes.toList with
   | [x],[t]=>aLen τ t (ev fr x) st fun v=>K v st
   | _,_=>False)
 | .call { callee:=.builtin .append,args,argTypes }=>(match args.toList,argTypes.toList with
   | [s,x],[t,u]=>(match ownT t st (ev fr s) with
     | true=>aAppend τ t u (ev fr s) (ev fr x) st K
     | false=>SemOp P o (semVals fr o) st K)
   | _,_=>False)
 | .call { callee:=.builtin .cap,.. } | .call { callee:=.builtin .copy,.. } | .call { callee:=.builtin .clear,.. } | .slice _ _ _ _ (some _) | .call { callee:=.builtin .min,.. } | .call { callee:=.builtin .max,.. }=>SemOp P o (semVals fr o) st K
 | _=>False
def BC (b:Bool) (A B:Prop):Prop:=match b with
 | true=>A
 | false=>B
def forceL {α:Type}:List α→(List α→Prop)→Prop
 | [],K=>K []
 | x::xs,K=>forceL xs fun xs=>K (x::xs)
def force (v:V) (K:V→Prop):Prop:=match v with
 | .bool b=>K (.bool b)
 | .int k n=>K (.int k n)
 | .str s=>K (.str s)
 | .agg cs=>forceL cs fun cs=>K (.agg cs)
 | .tup vs=>forceL vs fun vs=>K (.tup vs)
 | .nils=>K .nils
 | .sl es=>K (.sl es)
 | .own k=>K (.own k)
 | .ptr k i j=>K (.ptr k i j)
 | .rptr cs=>forceL cs fun cs=>K (.rptr cs)
 | .fn f cap=>K (.fn f cap)
 | .raw v=>K (.raw v)
 | .any=>K .any
 | .map k=>K (.map k)
 | .yld k=>K (.yld k)
 | .iface t x=>force x fun x=>K (.iface t x)
 | .meth n x=>force x fun x=>K (.meth n x)
 | .bnd n x=>force x fun x=>K (.bnd n x)
 | .dref b n c=>K (.dref b n c)
 | .dptr b sz i j=>K (.dptr b sz i j)
 | .win k j n c=>K (.win k j n c)
 | .cptr k j=>K (.cptr k j)
def forceRows (es:List (List V)) (K:List (List V)→Prop):Prop:=match es with
 | [row]=>forceL row fun row=>K [row]
 | es=>K es
def forceO (o:O) (K:O→Prop):Prop:=match o with
 | ⟨es,wid,live,excl,true,k⟩=>(match Nat.ble 64 wid with
   | true=>K ⟨es,wid,live,excl,true,k⟩
   | false=>forceRows es fun es=>K ⟨es,wid,live,excl,true,k⟩)
 | ⟨es,wid,live,excl,false,k⟩=>K ⟨es,wid,live,excl,false,k⟩
def forceSt:St→(St→Prop)→Prop
 | [],K=>K []
 | o::os,K=>forceO o fun o=>forceSt os fun os=>K (o::os)
omit [Lam] in
theorem forceL_eq {α:Type}:∀ (l:List α) (K:List α→Prop),forceL l K=K l
 | [],K=>rfl
 | x::xs,K=>by simp only [forceL,forceL_eq xs]
omit [Lam] in
theorem force_eq:∀ (v:V) (K:V→Prop),force v K=K v
 | .iface t x,K=>by simp only [force,force_eq x]
 | .meth n x,K=>by simp only [force,force_eq x]
 | .bnd n x,K=>by simp only [force,force_eq x]
 | .agg _,K | .tup _,K | .rptr _,K | .fn _ _,K=>by simp only [force,forceL_eq]
 | .bool _,K | .int _ _,K | .str _,K | .nils,K | .sl _,K | .own _,K | .ptr _ _ _,K | .win _ _ _ _,K | .cptr _ _,K | .raw _,K | .any,K | .map _,K | .yld _,K | .dref _ _ _,K | .dptr _ _ _ _,K=>rfl
omit [Lam] in
theorem forceRows_eq (es:List (List V)) (K:List (List V)→Prop):forceRows es K=K es:=by
 unfold forceRows
 split
 · simp only [forceL_eq]
 · rfl
omit [Lam] in
theorem forceO_eq (o:O) (K:O→Prop):forceO o K=K o:=by
 obtain ⟨es,wid,live,excl,box,k⟩:=o
 cases box
 · rfl
 · simp only [forceO]
   cases Nat.ble 64 wid
   · simp only [forceRows_eq]
   · rfl
omit [Lam] in
theorem forceSt_eq:∀ (st:St) (K:St→Prop),forceSt st K=K st
 | [],K=>rfl
 | o::os,K=>by simp only [forceSt,forceO_eq,forceSt_eq os]
def aOps (P:Program) (ok:OkY) (τ:Tau) (ops:Array Oper) (l:List Oper):(Nat→V)→St→((Nat→V)→St→Prop)→(V→(Nat→V)→St→Prop)→Prop :=
 List.rec (motive:=fun _=>(Nat→V)→St→((Nat→V)→St→Prop)→(V→(Nat→V)→St→Prop)→Prop)
  (fun fr st K _=>K fr st)
  (fun o _ ih fr st K Z=>match o.guard with
    | none=>aOp P ok τ o fr st (fun v st'=>force v fun v=>forceSt st' fun st'=>ih (put fr o.dst v) st' K Z) (fun v st'=>Z v fr st')
    | some (j,want)=>match (ops[j]?).bind (·.dst) with
      | some d=>(match fr d with
        | .bool b=>BC (if want then b else negB b) (aOp P ok τ o fr st (fun v st'=>force v fun v=>forceSt st' fun st'=>ih (put fr o.dst v) st' K Z) (fun v st'=>Z v fr st'))
          (ih (put fr o.dst undefV) st K Z)
        | .raw (.tuple _)=>ih (put fr o.dst undefV) st K Z
        | _=>False)
      | none=>False) l
theorem aOps_cons (P:Program) (ok:OkY) (τ:Tau) (ops:Array Oper) (o:Oper) (rest:List Oper) (fr:Nat→V) (st:St) (K:(Nat→V)→St→Prop) (Z:V→(Nat→V)→St→Prop):aOps P ok τ ops (o::rest) fr st K Z=(match o.guard with
  | none=>aOp P ok τ o fr st (fun v st'=>force v fun v=>forceSt st' fun st'=>aOps P ok τ ops rest (put fr o.dst v) st' K Z) (fun v st'=>Z v fr st')
  | some (j,want)=>match (ops[j]?).bind (·.dst) with
    | some d=>(match fr d with
      | .bool b=>BC (if want then b else negB b) (aOp P ok τ o fr st (fun v st'=>force v fun v=>forceSt st' fun st'=>aOps P ok τ ops rest (put fr o.dst v) st' K Z) (fun v st'=>Z v fr st'))
        (aOps P ok τ ops rest (put fr o.dst undefV) st K Z)
      | .raw (.tuple _)=>aOps P ok τ ops rest (put fr o.dst undefV) st K Z
      | _=>False)
    | none=>False):=rfl
def isSlice:Op→Bool
 | .slice ..=>true
 | .convert ..=>true
 | _=>false
def aQOp (P:Program) (τ:Tau) (o:Oper) (fr:Nat→V) (st:St) (K:V→Prop):Prop :=
 match o.op with
 | .call { callee:=.value f,args,.. }=>(match ev fr f with
   | .fn g cap=>Chk (negB (isName f&&Lam.ext g)&&V.clean.cleanL 0 (args.toList.map (ev fr)++cap)) (∃ r,(Pure P g (share.go st (args.toList.map (ev fr)++cap)) (·=r)∨LentPure P g (args.toList.map (ev fr)++cap) st (·=r))∧K r)
   | _=>False)
 | _=>match isSlice o.op with
   | true=>aOp P noY τ o fr st (fun v st'=>st'=st∧K v) (fun _ _=>False)
   | false=>aOp P noY τ o fr st (fun v _=>K v) (fun _ _=>False)
def aQOps (P:Program) (τ:Tau) (ops:Array Oper) (l:List Oper):(Nat→V)→St→((Nat→V)→Prop)→Prop :=
 List.rec (motive:=fun _=>(Nat→V)→St→((Nat→V)→Prop)→Prop)
  (fun fr _ K=>K fr)
  (fun o _ ih fr st K=>match o.guard with
    | none=>aQOp P τ o fr st fun v=>force v fun v=>ih (put fr o.dst v) st K
    | some (j,want)=>match (ops[j]?).bind (·.dst) with
      | some d=>(match fr d with
        | .bool b=>BC (if want then b else negB b) (aQOp P τ o fr st fun v=>force v fun v=>ih (put fr o.dst v) st K)
          (ih (put fr o.dst undefV) st K)
        | .raw (.tuple _)=>ih (put fr o.dst undefV) st K
          | _=>False)
      | none=>False) l
theorem aQOps_cons (P:Program) (τ:Tau) (ops:Array Oper) (o:Oper) (rest:List Oper) (fr:Nat→V) (st:St) (K:(Nat→V)→Prop):aQOps P τ ops (o::rest) fr st K=(match o.guard with
  | none=>aQOp P τ o fr st fun v=>force v fun v=>aQOps P τ ops rest (put fr o.dst v) st K
  | some (j,want)=>match (ops[j]?).bind (·.dst) with
    | some d=>(match fr d with
      | .bool b=>BC (if want then b else negB b) (aQOp P τ o fr st fun v=>force v fun v=>aQOps P τ ops rest (put fr o.dst v) st K)
        (aQOps P τ ops rest (put fr o.dst undefV) st K)
      | .raw (.tuple _)=>aQOps P τ ops rest (put fr o.dst undefV) st K
         | _=>False)
    | none=>False):=rfl
def isCall:Op→Bool
 | .call { callee:=.value _,.. }=>true
 | _=>false
def quietOp:Op→Bool
 | .move _ | .assign _ | .pick .. | .load .. | .binOp .. | .unOp .. | .slice _ _ _ _ none | .fieldAddr .. | .field .. | .indexAddr .. | .index .. | .extract .. | .nilCheck _ | .lookup .. | .makeInterface .. | .typeAssert .. | .build .. | .convert ..=>true
 | .call { callee:=.builtin .len,.. }=>true
 | .call { callee:=.value _,.. }=>true
 | _=>false
def reach (ops:Array Oper):Nat→Nat→Nat→Bool
 | 0,_,_=>false
 | n+1,i,j=>match ops[i]? with
   | some o=>o.after.toList.any fun e=>Region.binds .any e&&(e.on == j||reach ops n e.on j)
   | none=>false
def orderOk (ops:Array Oper):Bool :=
 let n:=ops.size
 let dst (i:Nat):Option Nat:=(ops[i]?).bind (·.dst)
 (List.range n).all fun i=>match ops[i]? with
   | none=>true
   | some o=>quietOp o.op&&(o.after.toList.all fun e=>!Region.binds .any e||decide (e.on < i)) &&
     ((List.range n).all fun j=>(i == j||dst i == none||!(dst i == dst j)) &&
       (match dst j with
         | none=>true
         | some t=>!(o.looksAt ops).contains t||(decide (j < i)&&reach ops n i j)||(decide (i < j)&&reach ops n j i)))
def chainAt (ops:Array Oper) (i:Nat):Bool:=match ops[i]? with
 | none=>false
 | some o=>!quietOp o.op||(List.range ops.size).any fun j=>decide (j < i)&&(match ops[j]? with
   | some p=>!quietOp p.op
   | none=>false)&&reach ops ops.size i j
def plainOp:Op→Bool
 | .move _ | .assign _ | .pick .. | .binOp .. | .unOp .. | .fieldAddr .. | .field .. | .extract .. | .makeInterface .. | .build .. | .nilCheck _ | .index ..=>true
 | _=>false
def lookOp:Op→Bool
 | .load .. | .indexAddr ..=>true
 | .call { callee:=.builtin .len,.. }=>true
 | _=>false
def allocOp:Op→Bool
 | .buildSlice .. | .box .. | .alloc _=>true
 | _=>false
def mixOk (ops:Array Oper):Bool :=
 let n:=ops.size
 let dst (i:Nat):Option Nat:=(ops[i]?).bind (·.dst)
 (List.range n).all fun i=>match ops[i]? with
   | none=>true
   | some o=>(chainAt ops i||quietOp o.op)&&(o.after.toList.all fun e=>!Region.binds .any e||decide (e.on < i)) &&
     ((List.range n).all fun j=>(i == j||dst i == none||!(dst i == dst j)) &&
       (match dst j with
         | none=>true
         | some t=>!(o.looksAt ops).contains t||(decide (j < i)&&reach ops n i j)||(decide (i < j)&&reach ops n j i))) &&
     (match chainAt ops i with
       | true=>(List.range n).all fun j=>!(chainAt ops j&&decide (j < i))||reach ops n i j
       | false=>((List.range n).all fun j=>!(chainAt ops j&&reach ops n i j))&&(plainOp o.op||(List.range n).all fun j=>!chainAt ops j||reach ops n j i||(lookOp o.op&&(match ops[j]? with
         | some p=>allocOp p.op
         | none=>false))))
def aEOps (P:Program) (τ:Tau) (ops:Array Oper) (l:List Oper):Nat→(Nat→V)→St→((Nat→V)→Prop)→Prop :=
 List.rec (motive:=fun _=>Nat→(Nat→V)→St→((Nat→V)→Prop)→Prop)
  (fun _ fr _ K=>K fr)
  (fun o _ ih k fr st K=>match chainAt ops k with
    | true=>ih (k+1) fr st K
    | false=>match o.guard with
      | none=>aQOp P τ o fr st fun v=>force v fun v=>ih (k+1) (put fr o.dst v) st K
      | some (j,want)=>match (ops[j]?).bind (·.dst) with
        | some d=>(match fr d with
          | .bool b=>BC (if want then b else negB b) (aQOp P τ o fr st fun v=>force v fun v=>ih (k+1) (put fr o.dst v) st K)
            (ih (k+1) (put fr o.dst undefV) st K)
          | .raw (.tuple _)=>ih (k+1) (put fr o.dst undefV) st K
          | _=>False)
        | none=>False) l
theorem aEOps_cons (P:Program) (τ:Tau) (ops:Array Oper) (o:Oper) (rest:List Oper) (k:Nat) (fr:Nat→V) (st:St) (K:(Nat→V)→Prop):aEOps P τ ops (o::rest) k fr st K=(match chainAt ops k with
   | true=>aEOps P τ ops rest (k+1) fr st K
   | false=>match o.guard with
     | none=>aQOp P τ o fr st fun v=>force v fun v=>aEOps P τ ops rest (k+1) (put fr o.dst v) st K
     | some (j,want)=>match (ops[j]?).bind (·.dst) with
       | some d=>(match fr d with
         | .bool b=>BC (if want then b else negB b) (aQOp P τ o fr st fun v=>force v fun v=>aEOps P τ ops rest (k+1) (put fr o.dst v) st K)
           (aEOps P τ ops rest (k+1) (put fr o.dst undefV) st K)
         | .raw (.tuple _)=>aEOps P τ ops rest (k+1) (put fr o.dst undefV) st K
         | _=>False)
       | none=>False):=rfl
def aCOps (P:Program) (ok:OkY) (τ:Tau) (ops:Array Oper) (Z:V→St→Prop) (l:List Oper):Nat→(Nat→V)→St→((Nat→V)→St→Prop)→Prop :=
 List.rec (motive:=fun _=>Nat→(Nat→V)→St→((Nat→V)→St→Prop)→Prop)
  (fun _ fr st K=>K fr st)
  (fun o _ ih k fr st K=>match chainAt ops k with
    | false=>ih (k+1) fr st K
    | true=>match o.guard with
      | none=>aOp P ok τ o fr st (fun v st'=>force v fun v=>forceSt st' fun st'=>ih (k+1) (put fr o.dst v) st' K) Z
      | some (j,want)=>match (ops[j]?).bind (·.dst) with
        | some d=>(match fr d with
          | .bool b=>BC (if want then b else negB b) (aOp P ok τ o fr st (fun v st'=>force v fun v=>forceSt st' fun st'=>ih (k+1) (put fr o.dst v) st' K) Z)
            (ih (k+1) (put fr o.dst undefV) st K)
          | _=>False)
        | none=>False) l
theorem aCOps_cons (P:Program) (ok:OkY) (τ:Tau) (ops:Array Oper) (Z:V→St→Prop) (o:Oper) (rest:List Oper) (k:Nat) (fr:Nat→V) (st:St) (K:(Nat→V)→St→Prop):aCOps P ok τ ops Z (o::rest) k fr st K=(match chainAt ops k with
   | false=>aCOps P ok τ ops Z rest (k+1) fr st K
   | true=>match o.guard with
     | none=>aOp P ok τ o fr st (fun v st'=>force v fun v=>forceSt st' fun st'=>aCOps P ok τ ops Z rest (k+1) (put fr o.dst v) st' K) Z
     | some (j,want)=>match (ops[j]?).bind (·.dst) with
       | some d=>(match fr d with
         | .bool b=>BC (if want then b else negB b) (aOp P ok τ o fr st (fun v st'=>force v fun v=>forceSt st' fun st'=>aCOps P ok τ ops Z rest (k+1) (put fr o.dst v) st' K) Z)
           (aCOps P ok τ ops Z rest (k+1) (put fr o.dst undefV) st K)
         | _=>False)
       | none=>False):=rfl
def handF:Operand→Bool
 | .func g=>Lam.hand g
 | _=>false
def handCall (τ:Tau):Op→Bool
 | .call { callee:=.value f,argTypes,.. }=>handF f||argTypes.toList.any fun t=>match kindOf τ t with
   | some .ptr | some (.map _ _)=>true
   | _=>false
 | _=>false
def hasHand (τ:Tau) (ops:Array Oper):Bool:=ops.toList.any fun o=>handCall τ o.op
def hasBit (m j:Nat):Bool:=Nat.beq (Nat.mod (Nat.shiftRight m j) 2) 1
def forceNat (m:Nat) (K:Nat→Prop):Prop:=Nat.rec (motive:=fun _=>Prop) (K 0) (fun k _=>K (Nat.succ k)) m
omit [Lam] in
theorem forceNat_eq (m:Nat) (K:Nat→Prop):forceNat m K=K m:=by cases m <;> rfl
def rowAt (M n i:Nat):Nat:=Nat.mod (Nat.shiftRight M (Nat.mul i n)) (Nat.pow 2 n)
def relB (M n i j:Nat):Bool:=match Nat.ble n j with
 | true=>false
 | false=>hasBit M (Nat.add (Nat.mul i n) j)
def rowMake (n M:Nat):List Edge→Nat→Nat
 | [],m=>m
 | e::es,m=>match Region.binds .any e with
   | true=>rowMake n M es (Nat.lor m (Nat.lor (Nat.shiftLeft 1 e.on) (rowAt M n e.on)))
   | false=>rowMake n M es m
def matL (n:Nat):List Oper→Nat→Nat→Nat
 | [],_,M=>M
 | o::os,i,M=>matL n os (Nat.succ i) (Nat.lor M (Nat.shiftLeft (Nat.mod (rowMake n M o.after.toList 0) (Nat.pow 2 n)) (Nat.mul i n)))
def matGo (n:Nat):List Oper→Nat→Nat→(Nat→Prop)→Prop
 | [],_,M,K=>K M
 | o::os,i,M,K=>forceNat (Nat.lor M (Nat.shiftLeft (Nat.mod (rowMake n M o.after.toList 0) (Nat.pow 2 n)) (Nat.mul i n))) fun M=>matGo n os (Nat.succ i) M K
omit [Lam] in
theorem matGo_eq (n:Nat):∀ (l:List Oper) (i M:Nat) (K:Nat→Prop),matGo n l i M K=K (matL n l i M)
 | [],_,_,_=>rfl
 | o::os,i,M,K=>by simp only [matGo,matL,forceNat_eq,matGo_eq n os]
def nqMask (τ:Tau):List Oper→Nat→Nat→Nat
 | [],_,m=>m
 | o::os,i,m=>match !quietOp o.op||handCall τ o.op with
   | true=>nqMask τ os (Nat.succ i) (Nat.lor m (Nat.shiftLeft 1 i))
   | false=>nqMask τ os (Nat.succ i) m
def chMask (n M NQ:Nat):Nat→Nat→Nat→Nat
 | 0,_,m=>m
 | k+1,i,m=>match hasBit NQ i||!(Nat.beq (Nat.land (rowAt M n i) NQ) 0) with
   | true=>chMask n M NQ k (Nat.succ i) (Nat.lor m (Nat.shiftLeft 1 i))
   | false=>chMask n M NQ k (Nat.succ i) m
def chainC (CH n i:Nat):Bool:=match Nat.ble n i with
 | true=>false
 | false=>hasBit CH i
def withMat (τ:Tau) (ops:Array Oper) (K:Nat→Nat→Prop):Prop:=matGo ops.size ops.toList 0 0 fun M=>forceNat (nqMask τ ops.toList 0 0) fun NQ=>forceNat (chMask ops.size M NQ ops.size 0 0) fun CH=>K M CH
theorem withMat_iff {τ:Tau} {ops:Array Oper} {K:Nat→Nat→Prop} (h:withMat τ ops K):∃ CH,K (matL ops.size ops.toList 0 0) CH:=by
 unfold withMat at h
 rw [matGo_eq,forceNat_eq,forceNat_eq] at h
 exact ⟨_,h⟩
def aEOps2 (P:Program) (τ:Tau) (CH:Nat) (ops:Array Oper) (l:List Oper):Nat→(Nat→V)→St→((Nat→V)→Prop)→Prop :=
 List.rec (motive:=fun _=>Nat→(Nat→V)→St→((Nat→V)→Prop)→Prop)
  (fun _ fr _ K=>K fr)
  (fun o _ ih k fr st K=>match chainC CH ops.size k with
    | true=>ih (k+1) fr st K
    | false=>match o.guard with
      | none=>aQOp P τ o fr st fun v=>force v fun v=>ih (k+1) (put fr o.dst v) st K
      | some (j,want)=>match (ops[j]?).bind (·.dst) with
        | some d=>(match fr d with
          | .bool b=>BC (if want then b else negB b) (aQOp P τ o fr st fun v=>force v fun v=>ih (k+1) (put fr o.dst v) st K)
            (ih (k+1) (put fr o.dst undefV) st K)
          | .raw (.tuple _)=>ih (k+1) (put fr o.dst undefV) st K
          | _=>False)
        | none=>False) l
theorem aEOps2_cons (P:Program) (τ:Tau) (CH:Nat) (ops:Array Oper) (o:Oper) (rest:List Oper) (k:Nat) (fr:Nat→V) (st:St) (K:(Nat→V)→Prop):aEOps2 P τ CH ops (o::rest) k fr st K=(match chainC CH ops.size k with
   | true=>aEOps2 P τ CH ops rest (k+1) fr st K
   | false=>match o.guard with
     | none=>aQOp P τ o fr st fun v=>force v fun v=>aEOps2 P τ CH ops rest (k+1) (put fr o.dst v) st K
     | some (j,want)=>match (ops[j]?).bind (·.dst) with
       | some d=>(match fr d with
         | .bool b=>BC (if want then b else negB b) (aQOp P τ o fr st fun v=>force v fun v=>aEOps2 P τ CH ops rest (k+1) (put fr o.dst v) st K)
           (aEOps2 P τ CH ops rest (k+1) (put fr o.dst undefV) st K)
         | .raw (.tuple _)=>aEOps2 P τ CH ops rest (k+1) (put fr o.dst undefV) st K
         | _=>False)
       | none=>False):=rfl
def floatOk (ops:Array Oper) (i:Nat):Bool:=match ops[i]? with
 | some o=>o.dst.isSome&&(o.looksAt ops).all fun t=>(List.range ops.size).all fun m=>decide (m < i)||!((ops[m]?).bind (·.dst) == some t)
 | none=>false
def floatsAt (M CH:Nat) (ops:Array Oper) (k i:Nat):Bool:=match ops[i]?,ops[k]? with
 | some o,some p=>!plainOp o.op&&(!(lookOp o.op&&allocOp p.op)&&(!relB M ops.size k i&&!chainC CH ops.size i))
 | _,_=>false
def mix2Ok (τ:Tau) (M CH:Nat) (ops:Array Oper):Bool :=
 let n:=ops.size
 let dst (i:Nat):Option Nat:=(ops[i]?).bind (·.dst)
 (List.range n).all fun i=>match ops[i]? with
   | none=>true
   | some o=>(chainC CH ops.size i||(quietOp o.op&&!handCall τ o.op))&&(o.after.toList.all fun e=>!Region.binds .any e||decide (e.on < i)) &&
     ((List.range n).all fun j=>(i == j||dst i == none||!(dst i == dst j)) &&
       (match dst j with
         | none=>true
         | some t=>!(o.looksAt ops).contains t||(decide (j < i)&&relB M n i j)||(decide (i < j)&&relB M n j i))) &&
     (match chainC CH ops.size i with
       | true=>true
       | false=>((List.range n).all fun j=>!(chainC CH ops.size j&&relB M n i j))&&(plainOp o.op||floatOk ops i||(List.range n).all fun j=>!chainC CH ops.size j||relB M n j i||(lookOp o.op&&(match ops[j]? with
         | some p=>allocOp p.op
         | none=>false))))
def aFloat (P:Program) (τ:Tau) (ops:Array Oper) (fs:List Nat):(Nat→V)→St→Prop→Prop :=
 List.rec (motive:=fun _=>(Nat→V)→St→Prop→Prop) (fun _ _ C=>C)
  (fun i _ ih fr st C=>(match ops[i]? with
    | none=>False
    | some o=>match o.dst with
      | none=>False
      | some t=>match o.guard with
        | none=>aQOp P τ o fr st fun v=>v=fr t
        | some (j,want)=>match (ops[j]?).bind (·.dst) with
          | some d=>(match fr d with
            | .bool b=>BC (if want then b else negB b) (aQOp P τ o fr st fun v=>v=fr t) True
            | _=>False)
          | none=>False)∧ih fr st C) fs
def planOf (M CH:Nat) (ops:Array Oper):List (Nat × List Nat × List Nat):=((List.range ops.size).filter (chainC CH ops.size)).map fun i =>
 (i,(List.range ops.size).filter (fun j=>relB M ops.size i j&&chainC CH ops.size j),(List.range ops.size).filter (floatsAt M CH ops i))
def forcePlan:List (Nat × List Nat × List Nat)→(List (Nat × List Nat × List Nat)→Prop)→Prop
 | [],K=>K []
 | (i,ps,fs)::rest,K=>forceL ps fun ps=>forceL fs fun fs=>forcePlan rest fun rest=>K ((i,ps,fs)::rest)
omit [Lam] in
theorem forcePlan_eq:∀ (l:List (Nat × List Nat × List Nat)) (K:List (Nat × List Nat × List Nat)→Prop),forcePlan l K=K l
 | [],K=>rfl
 | (i,ps,fs)::rest,K=>by simp only [forcePlan,forceL_eq,forcePlan_eq rest]
def allL {α:Type} (l:List α):(α→Prop)→Prop :=
 List.rec (motive:=fun _=>(α→Prop)→Prop) (fun _=>True) (fun i is ih f=>match is with
  | []=>f i
  | _::_=>f i∧ih f) l
def readyX (plan:List (Nat × List Nat × List Nat)) (l:List Nat):List (Nat × List Nat × List Nat):=plan.filter fun e=>!l.contains e.1&&e.2.1.all l.contains
def aXOps (P:Program) (ok:OkY) (τ:Tau) (ops:Array Oper) (Z:V→St→Prop) (plan:List (Nat × List Nat × List Nat)) (K:(Nat→V)→St→Prop) (fuel:List (Nat × List Nat × List Nat)):List Nat→(Nat→V)→St→Prop :=
 List.rec (motive:=fun _=>List Nat→(Nat→V)→St→Prop)
  (fun l fr st=>match readyX plan l with
    | []=>K fr st
    | _::_=>False)
  (fun _ _ ih l fr st=>match readyX plan l with
  | []=>K fr st
  | e::es=>allL (e::es) fun e=>match e with
    | (i,_,fs)=>match ops[i]? with
      | none=>False
      | some o=>match o.guard with
        | none=>aOp P ok τ o fr st (fun v st'=>force v fun v=>forceSt st' fun st'=>aFloat P τ ops fs (put fr o.dst v) st' (ih (i::l) (put fr o.dst v) st')) Z
        | some (j,want)=>match (ops[j]?).bind (·.dst) with
          | some d=>(match fr d with
            | .bool b=>BC (if want then b else negB b) (aOp P ok τ o fr st (fun v st'=>force v fun v=>forceSt st' fun st'=>aFloat P τ ops fs (put fr o.dst v) st' (ih (i::l) (put fr o.dst v) st')) Z)
              (ih (i::l) (put fr o.dst undefV) st)
            | _=>False)
          | none=>False) fuel
theorem aXOps_cons {P:Program} {ok:OkY} {τ:Tau} {ops:Array Oper} {Z:V→St→Prop} {plan:List (Nat × List Nat × List Nat)} {K:(Nat→V)→St→Prop} {e0:Nat × List Nat × List Nat} {fl:List (Nat × List Nat × List Nat)} {l:List Nat} {fr:Nat→V} {st:St}:aXOps P ok τ ops Z plan K (e0::fl) l fr st =
  (match readyX plan l with
  | []=>K fr st
  | e::es=>allL (e::es) fun e=>match e with
    | (i,_,fs)=>match ops[i]? with
      | none=>False
      | some o=>match o.guard with
        | none=>aOp P ok τ o fr st (fun v st'=>force v fun v=>forceSt st' fun st'=>aFloat P τ ops fs (put fr o.dst v) st' (aXOps P ok τ ops Z plan K fl (i::l) (put fr o.dst v) st')) Z
        | some (j,want)=>match (ops[j]?).bind (·.dst) with
          | some d=>(match fr d with
            | .bool b=>BC (if want then b else negB b) (aOp P ok τ o fr st (fun v st'=>force v fun v=>forceSt st' fun st'=>aFloat P τ ops fs (put fr o.dst v) st' (aXOps P ok τ ops Z plan K fl (i::l) (put fr o.dst v) st')) Z)
              (aXOps P ok τ ops Z plan K fl (i::l) (put fr o.dst undefV) st)
            | _=>False)
          | none=>False):=rfl
def readyL (ops:Array Oper) (l:List Nat):List Nat:=(List.range ops.size).filter fun i=>!l.contains i&&(match ops[i]? with
 | some o=>o.after.toList.all fun e=>!Region.binds .any e||l.contains e.on
 | none=>false)
def aAny (P:Program) (ok:OkY) (τ:Tau) (ops:Array Oper) (K:(Nat→V)→St→Prop) (Z:V→(Nat→V)→St→Prop):Nat→List Nat→(Nat→V)→St→Prop
 | 0,l,fr,st=>(match readyL ops l with
   | []=>K fr st
   | _::_=>False)
 | n+1,l,fr,st=>match readyL ops l with
   | []=>K fr st
   | i::is=>allL (i::is) fun i=>match ops[i]? with
     | none=>False
     | some o=>match o.guard with
       | none=>aOp P ok τ o fr st (fun v st'=>force v fun v=>forceSt st' fun st'=>aAny P ok τ ops K Z n (i::l) (put fr o.dst v) st') (fun v st'=>Z v fr st')
       | some (j,want)=>match (ops[j]?).bind (·.dst) with
         | some d=>(match fr d with
           | .bool b=>BC (if want then b else negB b) (aOp P ok τ o fr st (fun v st'=>force v fun v=>forceSt st' fun st'=>aAny P ok τ ops K Z n (i::l) (put fr o.dst v) st') (fun v st'=>Z v fr st'))
             (aAny P ok τ ops K Z n (i::l) (put fr o.dst undefV) st)
           | _=>False)
         | none=>False
inductive Ex where
 | normal
 | exit (id:Nat)
 | ret
 | pan (v:V)
def AThen (f:(Nat→V)→St→Prop) (Q:Ex→(Nat→V)→St→Prop):Ex→(Nat→V)→St→Prop
 | .normal=>f
 | e=>Q e
def ABlock (id:Nat) (Q:Ex→(Nat→V)→St→Prop):Ex→(Nat→V)→St→Prop
 | .exit j=>if j=id then Q .normal else Q (.exit j)
 | e=>Q e
def ACond (c:V) (A B:Prop):Prop:=match c with
 | .bool b=>BC b A B
 | _=>False
def renV (sel:List Nat):V→V
 | .own k=>match sel.idxOf? k with
   | some i=>.own i
   | none=>.any
 | .ptr k i j=>match sel.idxOf? k with
   | some k'=>.ptr k' i j
   | none=>.any
 | .win k j n c=>match sel.idxOf? k with
   | some k'=>.win k' j n c
   | none=>.any
 | .cptr k j=>match sel.idxOf? k with
   | some k'=>.cptr k' j
   | none=>.any
 | .map k=>match sel.idxOf? k with
   | some k'=>.map k'
   | none=>.any
 | .yld k=>match sel.idxOf? k with
   | some k'=>.yld k'
   | none=>.any
 | .iface t x=>.iface t (renV sel x)
 | .meth n x=>.meth n (renV sel x)
 | .bnd n x=>.bnd n (renV sel x)
 | .agg cs=>.agg (go sel cs)
 | .tup cs=>.tup (go sel cs)
 | .rptr cs=>.rptr (go sel cs)
 | .fn f cs=>.fn f (go sel cs)
 | v=>v
where
 go (sel:List Nat):List V→List V
  | []=>[]
  | x::xs=>renV sel x::go sel xs
def renO (sel:List Nat) (o:O):O:=match o.box with
 | true=>⟨o.es.map (renV.go sel),o.wid,o.live,o.excl,true,o.kind⟩
 | false=>⟨o.es,o.wid,o.live,o.excl,false,o.kind⟩
def cmpSt (sel:List Nat) (st:St):St:=sel.map fun k=>renO sel (st.getD k noO)
def cmpF (sel:List Nat) (fr:Nat→V):Nat→V:=fun t=>renV sel (fr t)
def selOk (nb:Nat) (sel:List Nat) (st:St):Bool:=decide sel.Nodup&&(sel.all fun k=>decide (k < st.length))&&(List.range nb).all fun i=>sel[i]? == some i
def cmp (nb:Nat) (sel:Option (List Nat)) (fr:Nat→V) (st:St) (C:(Nat→V)→St→Prop):Prop:=match sel with
 | none=>C fr st
 | some sel=>Chk (selOk nb sel st) (C (cmpF sel fr) (cmpSt sel st))
def ALoop (nb:Nat) (flag:Bool) (J:Nat→(Nat→V)→St→Prop) (n:Nat):(Nat→V)→St→Prop:=match flag with
 | false=>fun fr' st'=>∃ n',n' < n∧J n' fr' st'
 | true=>fun fr' st'=>∃ n',n' < n∧∃ sel,cmp nb sel fr' st' (J n')
def away (st:St):List Nat→St
 | []=>st
 | k::ks=>away (st.set k { getO st k with live:=false,kind:=.cell }) ks
def again (st0:St) (st:St):List Nat→St
 | []=>st
 | k::ks=>again st0 (st.set k (getO st0 k)) ks
def setPs:List Tmp→List V→(Nat→V)→(Nat→V)
 | p::ps,v::vs,fr=>setPs ps vs (upd fr p v)
 | _,_,fr=>fr
def logO (log:List (List V)) (b:Bool):O:=⟨log,0,false,b,false,.yld⟩
def idx1 (σ:List Nat) (k:Nat):Nat:=idx σ k+1
def handC (σ:List Nat) (kn:Bool) (st:St):List Nat→List O
 | []=>[]
 | k::ks=>shrO σ kn st (getO st k)::handC σ kn st ks
def plainO:List O→Bool
 | []=>true
 | o::os=>o.own&&V.clean.cleanLL 0 o.es&&plainO os
def shrAll (σ:List Nat) (kn:Bool) (st st1:St):List Nat→St
 | []=>st1
 | k::ks=>shrAll σ kn st (st1.set k (shrO σ kn st (getO st k))) ks
def ARnd (nb:Nat) (σ:List Nat) (st0:St) (fr0:Nat→V) (I:St→Prop) (Q:Ex→(Nat→V)→St→Prop):Ex→(Nat→V)→St→Prop
 | .normal=>fun fr' st'=>∃ sel,cmp nb sel fr' st' fun _ st'=>I st'
 | .exit id=>fun _ st'=>Q (.exit id) fr0 (again st0 st' σ)
 | .ret=>fun _ st'=>Q .ret fr0 (again st0 st' σ)
 | .pan _=>fun _ _=>False
def ARange (P:Program) (g:FuncId) (cap:List V) (np:Nat) (bodyW:(Ex→(Nat→V)→St→Prop)→List V→St→Prop) (Q:Ex→(Nat→V)→St→Prop) (fr:Nat→V) (st:St):Prop :=
 ∃ (σ:List Nat) (kn:Bool) (okb:OkY) (I:List (List V)→St→Prop),
   Chk (decide σ.Nodup&&(σ.all fun k=>decide (k < st.length))&&V.under.underL (σ.length+1) (V.mapN.go (idx1 σ) (shr.go σ kn st cap))&&plainO (handC σ kn st σ))
    (I [] (away (shrAll σ kn st (lend st (lentN σ st cap)) σ) σ) ∧
      (∀ log vs st',I log st'→okb log vs→vs.length=np∧bodyW (ARnd st.length σ (shrAll σ kn st (lend st (lentN σ st cap)) σ) fr (I (log++[vs])) Q) vs st') ∧
      Full P okb g (.yld 0::V.mapN.go (idx1 σ) (shr.go σ kn st cap)) (logO [] true::handC σ kn st σ) fun o stf=>∃ r log b,o=.ret r∧stf=logO log b::handC σ kn st σ ∧
       (b=true→∀ st',I log st'→Q .normal fr (again (shrAll σ kn st (lend st (lentN σ st cap)) σ) st' σ)))
def awp (P:Program) (ok:OkY) (τ:Tau) (nb:Nat) (c:Code):(Ex→(Nat→V)→St→Prop)→(Nat→V)→St→Prop :=
 Code.rec (motive:=fun _=>Nat→(Ex→(Nat→V)→St→Prop)→(Nat→V)→St→Prop)
  (fun _ Q fr st=>Q .normal fr st)
  (fun _ ops d _ Q fr st=>match d with
    | false=>aOps P ok τ ops ops.toList fr st (Q .normal) (fun v=>Q (.pan v))
    | true=>(match hasHand τ ops with
      | true=>withMat τ ops fun M CH=>Chk (mix2Ok τ M CH ops) (aEOps2 P τ CH ops ops.toList 0 fr st fun fr=>forcePlan (planOf M CH ops) fun plan=>aXOps P ok τ ops (fun v st'=>∀ fr',Q (.pan v) fr' st') plan (Q .normal) plan [] fr st)
      | false=>(match orderOk ops with
        | true=>aQOps P τ ops ops.toList fr st fun fr=>Q .normal fr st
        | false=>(match mixOk ops with
          | true=>aEOps P τ ops ops.toList 0 fr st fun fr=>aCOps P ok τ ops (fun v st'=>∀ fr',Q (.pan v) fr' st') ops.toList 0 fr st (Q .normal)
          | false=>withMat τ ops fun M CH=>(match mix2Ok τ M CH ops with
            | true=>aEOps2 P τ CH ops ops.toList 0 fr st fun fr=>forcePlan (planOf M CH ops) fun plan=>aXOps P ok τ ops (fun v st'=>∀ fr',Q (.pan v) fr' st') plan (Q .normal) plan [] fr st
            | false=>aAny P ok τ ops (Q .normal) (fun v=>Q (.pan v)) ops.size [] fr st)))))
  (fun _ _ iha ihb nb Q fr st=>iha nb (AThen (ihb nb Q) Q) fr st)
  (fun c _ _ iha ihb nb Q fr st=>ACond (ev fr c) (iha nb Q fr st) (ihb nb Q fr st))
  (fun id _ ih nb Q fr st=>ih nb (ABlock id Q) fr st)
  (fun _ ih nb Q fr st=>∃ (J:Nat→(Nat→V)→St→Prop) (n:Nat) (flag:Bool) (s0:Option (List Nat)),cmp nb s0 fr st (J n) ∧
    ∀ n fr st,J n fr st→ih nb (AThen (ALoop nb flag J n) Q) fr st)
  (fun f ps _ _ ihx ihy _ Q fr st=>(match ev fr f with
    | .fn g cap=>ARange P g cap ps.size (fun Q vs st'=>ihx st.length (AThen (ihy st.length Q) fun _ _ _=>False) (setPs ps.toList vs fr) st') Q fr st
    | _=>False))
  (fun id _ Q fr st=>Q (.exit id) fr st)
  (fun _ _ _ _ _ _=>False)
  (fun _ _ _ _ _=>False)
  (fun _ _ _ _ _=>False)
  (fun _ Q fr st=>Q .ret fr st)
  (fun _ _ _ _ _=>False) c nb
theorem awp_region (P:Program) (ok:OkY) (τ:Tau) (nb:Nat) (id:Nat) (ops:Array Oper) (Q:Ex→(Nat→V)→St→Prop) (fr:Nat→V) (st:St):awp P ok τ nb (.region id ops true) Q fr st=(match hasHand τ ops with
  | true=>withMat τ ops fun M CH=>Chk (mix2Ok τ M CH ops) (aEOps2 P τ CH ops ops.toList 0 fr st fun fr=>forcePlan (planOf M CH ops) fun plan=>aXOps P ok τ ops (fun v st'=>∀ fr',Q (.pan v) fr' st') plan (Q .normal) plan [] fr st)
  | false=>(match orderOk ops with
    | true=>aQOps P τ ops ops.toList fr st fun fr=>Q .normal fr st
    | false=>(match mixOk ops with
      | true=>aEOps P τ ops ops.toList 0 fr st fun fr=>aCOps P ok τ ops (fun v st'=>∀ fr',Q (.pan v) fr' st') ops.toList 0 fr st (Q .normal)
      | false=>withMat τ ops fun M CH=>(match mix2Ok τ M CH ops with
        | true=>aEOps2 P τ CH ops ops.toList 0 fr st fun fr=>forcePlan (planOf M CH ops) fun plan=>aXOps P ok τ ops (fun v st'=>∀ fr',Q (.pan v) fr' st') plan (Q .normal) plan [] fr st
        | false=>aAny P ok τ ops (Q .normal) (fun v=>Q (.pan v)) ops.size [] fr st)))):=rfl
theorem awp_cond (P:Program) (ok:OkY) (τ:Tau) (nb:Nat) (c:Operand) (x y:Code) (Q:Ex→(Nat→V)→St→Prop) (fr:Nat→V) (st:St):awp P ok τ nb (.cond c x y) Q fr st=ACond (ev fr c) (awp P ok τ nb x Q fr st) (awp P ok τ nb y Q fr st):=rfl
theorem awp_rangeFunc (P:Program) (ok:OkY) (τ:Tau) (nb:Nat) (f:Operand) (ps:Array Tmp) (x y:Code) (Q:Ex→(Nat→V)→St→Prop) (fr:Nat→V) (st:St):awp P ok τ nb (.rangeFunc f ps x y) Q fr st=(match ev fr f with
  | .fn g cap=>ARange P g cap ps.size (fun Q vs st'=>awp P ok τ st.length x (AThen (awp P ok τ st.length y Q) fun _ _ _=>False) (setPs ps.toList vs fr) st') Q fr st
  | _=>False):=rfl
end Go.Cod
namespace Go.Cod
open Go
variable [Lam]
def isNils:Value→Bool
 | .slice none 0 0=>true
 | _=>false
omit [Lam] in
theorem isNils_eq {u:Value} (h:isNils u=true):u=.slice none 0 0:=by
 unfold isNils at h; split at h <;> first | rfl | cases h
def isRaw:Value→Value→Bool
 | .pointer none,.pointer none=>true
 | .nilFunc,.nilFunc=>true
 | .nilIface,.nilIface=>true
 | .map none,.map none=>true
 | _,_=>false
omit [Lam] in
theorem isRaw_eq {v u:Value} (h:isRaw v u=true):v=u:=by
 unfold isRaw at h; split at h <;> first | rfl | cases h
def isBool (b:Bool):Value→Bool
 | .bool c=>b == c
 | _=>false
omit [Lam] in
theorem isBool_eq {b:Bool} {u:Value} (h:isBool b u=true):u=.bool b:=by
 unfold isBool at h; split at h
 · simp at h; subst h; rfl
 · cases h
def isInt (k:IntKind) (n:Int):Value→Bool
 | .int j m=>decide (k=j)&&decide (n=m)
 | _=>false
omit [Lam] in
theorem isInt_eq {k:IntKind} {n:Int} {u:Value} (h:isInt k n u=true):u=.int k n:=by
 unfold isInt at h; split at h
 · simp at h; obtain ⟨rfl,rfl⟩:=h; rfl
 · cases h
def isEmptyS:Value→Bool
 | .string s=>s.data.toList.isEmpty
 | _=>false
omit [Lam] in
theorem isEmptyS_eq {u:Value} (h:isEmptyS u=true):u=.string ⟨([]:List UInt8).toArray⟩:=by
 unfold isEmptyS at h; split at h
 · rename_i s; cases s; simp at h; simp [h]
 · cases h
def aggOf:Value→Option (List Value)
 | .agg us=>some us.toList
 | _=>none
omit [Lam] in
theorem aggOf_eq {u:Value} {us:List Value} (h:aggOf u=some us):u=.agg us.toArray:=by
 unfold aggOf at h; split at h
 · simp at h; subst h; simp
 · cases h
def zrep:V→Value→Bool
 | .bool b,u=>isBool b u
 | .int k n,u=>isInt k n u
 | .str s,u=>s.isEmpty&&isEmptyS u
 | .nils,u=>isNils u
 | .agg cs,u=>(match aggOf u with
   | some us=>zrepL cs us
   | none=>false)
 | .raw v,u=>isRaw v u
 | _,_=>false
where
 zrepL:List V→List Value→Bool
  | [],us=>us.isEmpty
  | x::xs,us=>(match us with
    | u::us=>zrep x u&&zrepL xs us
    | []=>false)
omit [Lam] in
mutual
theorem Rep.zero {Pr γ w}:∀ (x:V) (u:Value),zrep x u=true→Rep Pr γ w x u
 | .bool b,u,h=>by rw [isBool_eq h]; exact .bool _
 | .int k n,u,h=>by rw [isInt_eq h]; exact .int _ _
 | .str s,u,h=>by
   simp only [zrep,Bool.and_eq_true,List.isEmpty_iff] at h
   obtain ⟨rfl,h⟩:=h
   rw [isEmptyS_eq h]; exact .str _
 | .nils,u,h=>by rw [isNils_eq h]; exact .nils _
 | .agg cs,u,h=>by
   simp only [zrep] at h
   split at h
   · rename_i us hu
     rw [aggOf_eq hu]
     have:=RepL.zero (Pr:=Pr) (γ:=γ) (w:=w) cs us h
     exact .agg this.1 this.2
   · cases h
 | .raw v,u,h=>by rw [← isRaw_eq h]; exact .raw _
 | .tup _,u,h=>by simp [zrep] at h
 | .sl _,u,h=>by simp [zrep] at h
 | .own _,u,h=>by simp [zrep] at h
 | .ptr _ _ _,u,h=>by simp [zrep] at h
 | .win _ _ _ _,u,h=>by simp [zrep] at h
 | .cptr _ _,u,h=>by simp [zrep] at h
 | .rptr _,u,h=>by simp [zrep] at h
 | .fn _ _,u,h=>by simp [zrep] at h
theorem RepL.zero {Pr γ w}:∀ (cs:List V) (us:List Value),zrep.zrepL cs us=true→RepL Pr γ w cs us
 | [],us,h=>by cases us <;> simp [zrep.zrepL] at h; exact RepL.nil
 | x::xs,us,h=>by
   cases us with
   | nil=>simp [zrep.zrepL] at h
   | cons u us =>
     simp only [zrep.zrepL,Bool.and_eq_true] at h
     exact RepL.cons (Rep.zero x u h.1) (RepL.zero xs us h.2)
end
structure TIok (P:Program) (t:TypeId) (ti:TI):Prop where
 arr:∀ n,ti.arr=some n→∃ e i k,P.underlying t=some (.array n e)∧P.info? e=some i∧i.size=1∧P.underlying e=some (.int k)
 pair:ti.pair=true→∃ e i,P.underlying t=some (.array 2 e)∧P.info? e=some i∧i.size=1∧P.underlying e=some (.int .i64)
 info:∃ i z,P.info? t=some i∧i.size=ti.size∧i.bytes=ti.bytes∧i.zero=some z∧zrep ti.zero z=true
 kind:match ti.kind with
  | .bool=>P.underlying t=some .bool
  | .int k=>P.underlying t=some (.int k)
  | .str=>P.underlying t=some .string
  | .slice e=>P.underlying t=some (.slice e)
  | .agg=>(∃ fs,P.underlying t=some (.struct fs))∨∃ n e,P.underlying t=some (.array n e)
  | .map k e=>P.underlying t=some (.map k e)
  | .iface=>∃ ms,P.underlying t=some (.interface ms)
  | .ptr=>∃ e,P.underlying t=some (.pointer e)
  | .other=>∃ d,P.underlying t=some d∧(∀ fs,d≠.struct fs)∧(∀ n e,d≠.array n e)∧(∀ ms,d≠.interface ms)
 fields:ti.fields≠[]→∃ fs,P.underlying t=some (.struct fs)∧fs.size=ti.fields.length ∧
  ∀ (i:Nat) f,fs[i]? = some f→∃ fi:TypeInfo,∃ b:Bool,P.info? f.type=some fi∧ti.fields[i]? = some (f.offset,fi.size,b) ∧
    ∃ d,P.underlying f.type=some d∧(match d with | .struct _ | .array _ _=>b=true | _=>b=false)
 meths:∀ name f,ti.meths.lookup name=some f→∃ (i:TypeInfo) (m:Method) (pr:Bool),P.info? t=some i∧i.methods.find? (·.name == name)=some m∧m.path=#[]∧m.func=some (f,pr) ∧
  ((pr=true∧∃ e,P.underlying t=some (.pointer e))∨(pr=false∧∃ d,P.underlying t=some d∧∀ e,d≠.pointer e))
def TauOk (P:Program) (τ:Tau):Prop:=∀ t ti,τ t=some ti→TIok P t ti
omit [Lam] in
theorem TIok.isAgg {P t ti} (h:TIok P t ti) (w:World):(isAgg t).run P w=.ok (decide (ti.kind=.agg)) w:=by
 have hk:=h.kind
 unfold Go.isAgg
 cases e:ti.kind <;> rw [e] at hk <;> simp only at hk
 · simp [run_underlying hk]
 · simp [run_underlying hk]
 · simp [run_underlying hk]
 · simp [run_underlying hk]
 · rcases hk with ⟨fs,hk⟩ | ⟨n,e,hk⟩ <;> simp [run_underlying hk]
 · simp [run_underlying hk]
 · obtain ⟨ms,hk⟩:=hk; simp [run_underlying hk]
 · obtain ⟨e,hk⟩:=hk; simp [run_underlying hk]
 · obtain ⟨d,hk,h1,h2,h3⟩:=hk
   rw [Sem.run_bind,run_underlying hk]
   cases d <;> simp <;> first | exact absurd rfl (h1 _) | exact absurd rfl (h2 _ _)
omit [Lam] in
theorem TIok.sizeOf {P t ti} (h:TIok P t ti) (w:World):(sizeOf t).run P w=.ok ti.size w:=by
 obtain ⟨i,z,h1,h2,_⟩:=h.info
 simp [Go.sizeOf,typeInfo,h1,h2]
omit [Lam] in
theorem Rep.ofConst {Pr γ w} (v:Value):Rep Pr γ w (ofConst v) v:=by
 unfold Cod.ofConst
 split
 · exact .bool _
 · exact .int _ _
 · rename_i s; exact .str s.data.toList
 · exact .nils _
 · exact .raw _
omit [Lam] in
theorem FrOk.ev {Pr γ w fr a nt} (h:FrOk Pr γ w fr a nt) (x:Operand):Rep Pr γ w (ev fr x) (a.eval x):=by
 cases x with
 | tmp t=>exact h.slot t
 | const v=>exact Rep.ofConst v
 | global g=>exact .raw _
 | func f=>exact Rep.fn (us:=[]) rfl (by simp)
end Go.Cod
namespace Go.Cod
open Go
variable [Lam]
omit [Lam] in
theorem eqGuard_int {op:BinOp} {t:TypeId} {x y:Operand} {k:IntKind} {n:Int} {b:Value}:eqGuard op t x y (.int k n) b=pure ():=by cases op <;> rfl
omit [Lam] in
theorem eqGuard_str {op:BinOp} {t:TypeId} {x y:Operand} {s:ByteArray} {b:Value}:eqGuard op t x y (.string s) b=pure ():=by cases op <;> rfl
omit [Lam] in
theorem eqGuard_bool {op:BinOp} {t:TypeId} {x y:Operand} {s:Bool} {b:Value}:eqGuard op t x y (.bool s) b=pure ():=by cases op <;> rfl
omit [Lam] in
theorem int_beq (a b:Int):(a == b)=decide (a=b):=by
 by_cases h:a=b <;> simp [h]
omit [Lam] in
theorem negB_eq (b:Bool):negB b=!b:=by cases b <;> rfl
omit [Lam] in
theorem bytes_toList (l:List UInt8):(⟨l.toArray⟩:ByteArray).toList=l:=by
 simp [ByteArray.toList_eq]
omit [Lam] in
theorem bytes_append (a b:List UInt8):(⟨(a++b).toArray⟩:ByteArray)=⟨a.toArray⟩++⟨b.toArray⟩:=by
 apply ByteArray.ext; simp
omit [Lam] in
theorem beq_dec (a b:List UInt8):(a == b)=decide (a=b):=by
 by_cases h:a=b <;> simp [h]
omit [Lam] in
theorem sop_add (a b:List UInt8) (h:a.length+b.length≤9223372036854775807):Op.stringOp .add ⟨a.toArray⟩ ⟨b.toArray⟩=pure (.string ⟨(a++b).toArray⟩):=by
 have hs:∀ l:List UInt8,ByteArray.size ⟨l.toArray⟩=l.length:=fun l=>by simp [ByteArray.size]
 have h1:¬ (((a.length+b.length:Nat):Int) > 9223372036854775807):=by omega
 simp only [Op.stringOp,IntKind.max_i64,hs,if_neg h1,bytes_append]
omit [Lam] in
theorem sop_eql (a b:List UInt8):Op.stringOp .eql ⟨a.toArray⟩ ⟨b.toArray⟩=pure (.bool (eqS a b)):=by simp only [Op.stringOp,bytes_toList,beq_dec,eqS_def]
omit [Lam] in
theorem sop_neq (a b:List UInt8):Op.stringOp .neq ⟨a.toArray⟩ ⟨b.toArray⟩=pure (.bool (negB (eqS a b))):=by simp only [Op.stringOp,bytes_toList,beq_dec,eqS_def,negB_eq]
omit [Lam] in
theorem sop_lss (a b:List UInt8):Op.stringOp .lss ⟨a.toArray⟩ ⟨b.toArray⟩=pure (.bool (ltS a b)):=by simp only [Op.stringOp,bytes_toList,ltS_def]
omit [Lam] in
theorem sop_leq (a b:List UInt8):Op.stringOp .leq ⟨a.toArray⟩ ⟨b.toArray⟩=pure (.bool (ltS a b||eqS a b)):=by simp only [Op.stringOp,bytes_toList,beq_dec,ltS_def,eqS_def]
omit [Lam] in
theorem sop_gtr (a b:List UInt8):Op.stringOp .gtr ⟨a.toArray⟩ ⟨b.toArray⟩=pure (.bool !(ltS a b||eqS a b)):=by simp only [Op.stringOp,bytes_toList,beq_dec,ltS_def,eqS_def]
omit [Lam] in
theorem sop_geq (a b:List UInt8):Op.stringOp .geq ⟨a.toArray⟩ ⟨b.toArray⟩=pure (.bool (negB (ltS a b))):=by simp only [Op.stringOp,bytes_toList,ltS_def,negB_eq]
omit [Lam] in
theorem run_equal_bool {P:Program} {t:TypeId} (ht:P.underlying t=some .bool) (a b:Bool) (w:World):(Op.equal t (.bool a) (.bool b)).run P w=.ok (a == b) w:=by
 have key:∀ d,(Op.equalIn (d+1) t (.bool a) (.bool b)).run P w=.ok (a == b) w:=fun d=>by
  unfold Op.equalIn
  simp only [Sem.run_bind,run_underlying ht,Result.andThen_ok,Sem.run_pure]
 exact key 9999
omit [Lam] in
theorem atKind {P:Program} {τ:Tau} (hτ:TauOk P τ) {t:TypeId} {k:TK} {A:Prop} (h:AtKind (τ t) k A):(∃ ti,τ t=some ti∧ti.kind=k∧TIok P t ti)∧A:=by
 obtain ⟨h1,h2⟩:=Chk_iff.1 h
 refine ⟨?_,h2⟩
 split at h1
 · rename_i ti hti; exact ⟨ti,hti,of_decide_eq_true h1,hτ _ _ hti⟩
 · cases h1
omit [Lam] in
theorem run_equal_nil_iface {P:Program} {t d:TypeId} {u:Value} {ms:Array (String × TypeId)} (ht:P.underlying t=some (.interface ms)) (w:World):(Op.equal t (.iface d u) .nilIface).run P w=.ok false w:=by
 have key:∀ n,(Op.equalIn (n+1) t (.iface d u) .nilIface).run P w=.ok false w:=fun n=>by
  unfold Op.equalIn
  simp only [Sem.run_bind,run_underlying ht,Result.andThen_ok,Sem.run_pure]
 exact key 9999
omit [Lam] in
theorem run_equal_nil_nil {P:Program} {t:TypeId} {ms:Array (String × TypeId)} (ht:P.underlying t=some (.interface ms)) (w:World):(Op.equal t .nilIface .nilIface).run P w=.ok true w:=by
 have key:∀ n,(Op.equalIn (n+1) t .nilIface .nilIface).run P w=.ok true w:=fun n=>by
  unfold Op.equalIn
  simp only [Sem.run_bind,run_underlying ht,Result.andThen_ok,Sem.run_pure]
 exact key 9999
omit [Lam] in
theorem run_equal_nil_ptr {P:Program} {t e:TypeId} {a:Option Addr} (ht:P.underlying t=some (.pointer e)) (w:World):(Op.equal t (.pointer a) (.pointer none)).run P w=.ok a.isNone w:=by
 have key:∀ n,(Op.equalIn (n+1) t (.pointer a) (.pointer none)).run P w=.ok a.isNone w:=fun n=>by
  unfold Op.equalIn
  cases a <;> simp only [Sem.run_bind,run_underlying ht,Result.andThen_ok,Sem.run_pure,Option.isNone]
 exact key 9999
omit [Lam] in
theorem aEqNil_sound {P:Program} {τ:Tau} (hτ:TauOk P τ) {op:BinOp} (hop:op=.eql∨op=.neq) {t:TypeId} {x:V} {v:Value} {K:Bool→Prop} {Pr γ w} {X Y:Operand} {cx:Value}
  (h:aEqNil (τ t) (isConst X||isConst Y) x v K) (hx:Rep Pr γ w x cx):∃ b,K b∧eqGuard op t X Y cx v=pure ()∧(Op.equal t cx v).run P w=.ok b w∧(∀ o,(o=.eql∨o=.neq)→binOp o t cx v=(do let b ← Op.equal t cx v; pure (.bool (if o=.eql then b else !b)):Sem Value)):=by
 generalize hlit:(isConst X||isConst Y)=lit at h
 unfold aEqNil at h
 split at h
 · obtain ⟨⟨ti,_,hk,ht⟩,h⟩:=atKind hτ h
   have:=ht.kind; rw [hk] at this; obtain ⟨ms,hu⟩:=this
   cases hx
   exact ⟨_,h,by rcases hop with rfl | rfl <;> rfl,run_equal_nil_iface hu w,fun o ho=>by rcases ho with rfl | rfl <;> simp [binOp]⟩
 · obtain ⟨⟨ti,_,hk,ht⟩,h⟩:=atKind hτ h
   have:=ht.kind; rw [hk] at this; obtain ⟨ms,hu⟩:=this
   obtain ⟨hl,h⟩:=Chk_iff.1 h
   cases hx
   refine ⟨_,h,?_,run_equal_nil_nil hu w,fun o ho=>by rcases ho with rfl | rfl <;> simp [binOp]⟩
   rw [hl] at hlit
   cases X <;> cases Y <;> rcases hop with rfl | rfl <;> first | rfl | (simp [isConst] at hlit)
 · obtain ⟨⟨ti,_,hk,ht⟩,h⟩:=atKind hτ h
   have:=ht.kind; rw [hk] at this; obtain ⟨ms,hu⟩:=this
   cases hx
   exact ⟨_,h,by rcases hop with rfl | rfl <;> rfl,run_equal_nil_iface hu w,fun o ho=>by rcases ho with rfl | rfl <;> simp [binOp]⟩
 · obtain ⟨⟨ti,_,hk,ht⟩,h⟩:=atKind hτ h
   have:=ht.kind; rw [hk] at this; obtain ⟨e,hu⟩:=this
   cases hx
   exact ⟨_,h,by rcases hop with rfl | rfl <;> rfl,run_equal_nil_ptr hu w,fun o ho=>by rcases ho with rfl | rfl <;> simp [binOp]⟩
 · obtain ⟨⟨ti,_,hk,ht⟩,h⟩:=atKind hτ h
   have:=ht.kind; rw [hk] at this; obtain ⟨e,hu⟩:=this
   cases hx
   exact ⟨_,h,by rcases hop with rfl | rfl <;> rfl,run_equal_nil_ptr hu w,fun o ho=>by rcases ho with rfl | rfl <;> simp [binOp]⟩
 · obtain ⟨⟨ti,_,hk,ht⟩,h⟩:=atKind hτ h
   have:=ht.kind; rw [hk] at this; obtain ⟨e,hu⟩:=this
   cases hx
   exact ⟨_,h,by rcases hop with rfl | rfl <;> rfl,run_equal_nil_ptr hu w,fun o ho=>by rcases ho with rfl | rfl <;> simp [binOp]⟩
 · obtain ⟨⟨ti,_,hk,ht⟩,h⟩:=atKind hτ h
   have:=ht.kind; rw [hk] at this; obtain ⟨e,hu⟩:=this
   cases hx
   exact ⟨_,h,by rcases hop with rfl | rfl <;> rfl,run_equal_nil_ptr hu w,fun o ho=>by rcases ho with rfl | rfl <;> simp [binOp]⟩
 · exact h.elim
omit [Lam] in
theorem aBin_sound {P:Program} {τ:Tau} (hτ:TauOk P τ) {op:BinOp} {t:TypeId} {x y:V} {K:V→Prop} {Pr γ w} {X Y:Operand} {cx cy:Value}
  (h:aBin op (τ t) (isConst X||isConst Y) x y K) (hx:Rep Pr γ w x cx) (hy:Rep Pr γ w y cy) :
  ∃ v cv,K v∧Rep Pr γ w v cv∧(do eqGuard op t X Y cx cy; binOp op t cx cy:Sem Value).run P w=.ok cv w:=by
 unfold aBin at h
 split at h
 case h_26 v =>
  cases hy
  obtain ⟨b,hK,h1,h2,h3⟩:=aEqNil_sound hτ (.inl rfl) h hx
  refine ⟨_,.bool b,hK,.bool _,?_⟩
  rw [h1,h3 _ (.inl rfl)]
  simp only [Sem.run_bind,Sem.run_pure,Result.andThen_ok,h2,if_true]
 case h_27 v =>
  cases hy
  obtain ⟨b,hK,h1,h2,h3⟩:=aEqNil_sound hτ (.inr rfl) h hx
  refine ⟨_,.bool (!b),hK,by rw [negB_eq]; exact .bool _,?_⟩
  rw [h1,h3 _ (.inr rfl)]
  simp only [Sem.run_bind,Sem.run_pure,Result.andThen_ok,h2,reduceCtorEq,if_false]
 all_goals first | exact h.elim | (cases hx; cases hy)
 all_goals simp only [eqGuard_int,eqGuard_str,eqGuard_bool,Sem.run_bind,Sem.run_pure,Result.andThen_ok]
 all_goals try simp only [KSame_iff] at h
 all_goals try (obtain ⟨rfl,h⟩:=h)
 all_goals try (obtain ⟨h0,rfl,h⟩:=h)
 case _=>exact ⟨_,_,h,.int _ _,by simp [binOp,Op.intArith]⟩
 case _=>exact ⟨_,_,h,.int _ _,by simp [binOp,Op.intArith]⟩
 case _=>exact ⟨_,_,h,.int _ _,by simp [binOp,Op.intArith]⟩
 case _=>exact ⟨_,_,h,.int _ _,by simp [binOp,Op.intDiv,h0]⟩
 case _=>exact ⟨_,_,h,.int _ _,by simp [binOp,Op.intDiv,h0]⟩
 case _=>exact ⟨_,_,h,.bool _,by simp only [binOp,Op.intCmp,eqB_def,int_beq,ne_eq,not_true_eq_false,if_false,Sem.run_pure]⟩
 case _=>exact ⟨_,_,h,.bool _,by simp only [binOp,Op.intCmp,eqB_def,bne,int_beq,negB_eq,ne_eq,not_true_eq_false,if_false,Sem.run_pure]⟩
 case _=>exact ⟨_,_,h,.bool _,by simp [binOp,Op.intCmp,ltB_def]⟩
 case _=>exact ⟨_,_,h,.bool _,by simp [binOp,Op.intCmp,leB_def]⟩
 case _=>exact ⟨_,_,h,.bool _,by simp [binOp,Op.intCmp,ltB_def]⟩
 case _=>exact ⟨_,_,h,.bool _,by simp [binOp,Op.intCmp,leB_def]⟩
 case _=>exact ⟨_,_,h.2,.int _ _,by simp [binOp,Op.shift,Int.not_lt.2 h.1]⟩
 case _=>exact ⟨_,_,h.2,.int _ _,by simp [binOp,Op.shift,Int.not_lt.2 h.1]⟩
 case _=>exact ⟨_,_,h,.int _ _,by simp [binOp,Op.intBits]⟩
 case _=>exact ⟨_,_,h,.int _ _,by simp [binOp,Op.intBits]⟩
 case _=>exact ⟨_,_,h,.int _ _,by simp [binOp,Op.intBits]⟩
 case _=>exact ⟨_,_,h.2,.str _,by simp only [binOp,sop_add _ _ h.1,Sem.run_pure]⟩
 case _=>exact ⟨_,_,h,.bool _,by simp only [binOp,sop_eql,Sem.run_pure]⟩
 case _=>exact ⟨_,_,h,.bool _,by simp only [binOp,sop_neq,Sem.run_pure]⟩
 case _=>exact ⟨_,_,h,.bool _,by simp only [binOp,sop_lss,Sem.run_pure]⟩
 case _=>exact ⟨_,_,h,.bool _,by simp only [binOp,sop_leq,Sem.run_pure]⟩
 case _=>exact ⟨_,_,h,.bool _,by simp only [binOp,sop_gtr,Sem.run_pure]⟩
 case _=>exact ⟨_,_,h,.bool _,by simp only [binOp,sop_geq,Sem.run_pure]⟩
 case _ =>
  obtain ⟨ht,h⟩:=Chk_iff.1 h
  split at ht
  · rename_i ti hti
    have hk:=(hτ _ _ hti).kind
    rw [of_decide_eq_true ht] at hk
    exact ⟨_,_,h,.bool _,by simp only [binOp,Sem.run_bind,run_equal_bool hk,Result.andThen_ok,Sem.run_pure]⟩
  · cases ht
 case _ =>
  obtain ⟨ht,h⟩:=Chk_iff.1 h
  split at ht
  · rename_i ti hti
    have hk:=(hτ _ _ hti).kind
    rw [of_decide_eq_true ht] at hk
    exact ⟨_,_,h,.bool _,by simp only [binOp,Sem.run_bind,run_equal_bool hk,Result.andThen_ok,Sem.run_pure]⟩
  · cases ht
omit [Lam] in
theorem aUn_sound {P:Program} {op:UnOp} {x:V} {K:V→Prop} {Pr γ w} {cx:Value}
  (h:aUn op x K) (hx:Rep Pr γ w x cx):∃ v cv,K v∧Rep Pr γ w v cv∧(Op.unary op cx).run P w=.ok cv w:=by
 unfold aUn at h
 split at h
 all_goals first | exact h.elim | cases hx
 · exact ⟨_,_,h,.bool _,by simp [Op.unary,negB_eq]⟩
 · exact ⟨_,_,h,.int _ _,by simp [Op.unary,Op.intArith]⟩
 · exact ⟨_,_,h,.int _ _,by simp [Op.unary,Op.intBits]⟩
end Go.Cod
namespace Go.Cod
open Go
variable [Lam]
omit [Lam] in
theorem ObjOk.cells {Pr γ w o g} (h:ObjOk Pr γ w o g) {i:Nat} {e:List V} (hi:o.es[i]? = some e) :
  ∀ (j:Nat) x,e[j]? = some x→∃ u,w.cell? ⟨g.blk,i*g.sz+j,none⟩=some u∧Rep Pr γ w x u:=by
 intro j x hx
 obtain ⟨cur,f,h1,_,h3⟩:=h.row
 obtain ⟨u,hu,hr⟩:=h3 i e j x hi hx
 exact ⟨u,by simp [World.cell?,h1.1,hu],hr⟩
omit [Lam] in
theorem ent_inj {b b' cap cap' sz sz':Nat} {rows rows':List (List V)} (h:ent b cap sz rows=ent b' cap' sz' rows'):b=b'∧cap=cap'∧sz=sz'∧rows=rows':=by
 simp only [ent,List.cons.injEq,V.dref.injEq,V.sl.injEq] at h
 exact ⟨h.1.1,h.1.2.2,h.1.2.1,h.2.1⟩
omit [Lam] in
theorem EntOk.obj {Pr w b cap sz rows} (h:EntOk Pr w (ent b cap sz rows)):∃ ty,∀ γ:List G,ObjOk Pr γ w ⟨rows,sz,true,true,false,.cell⟩ ⟨b,rows.length,cap,sz,ty⟩:=by
 obtain ⟨b',cap',sz',rows',ty,he,hO⟩:=h
 obtain ⟨rfl,rfl,rfl,rfl⟩:=ent_inj he
 refine ⟨ty,fun γ=>⟨hO.len,hO.wid,hO.le,hO.max,hO.sz,hO.lf,?_,hO.spare,hO.excl,hO.cl,hO.kd⟩⟩
 obtain ⟨cur,f,h1,h2,h3⟩:=hO.row
 refine ⟨cur,f,h1,h2,fun i e j x a b=>?_⟩
 obtain ⟨u,hu,hr⟩:=h3 i e j x a b
 exact ⟨u,hu,hr.names (n:=0) (fun k hk=>absurd hk (Nat.not_lt_zero _)) (V.cleanL_mem (V.cleanLL_mem (hO.cl rfl) e (List.mem_of_getElem? a)) x (List.mem_of_getElem? b))⟩
def Lies (Pr:Nat→Nat→Prop) (γ:List G) (w:World) (b off:Nat) (cs:List V):Prop :=
 ∀ (j:Nat) x,cs[j]? = some x→∃ u,w.cell? ⟨b,off+j,none⟩=some u∧Rep Pr γ w x u
omit [Lam] in
theorem addr_add (b o n:Nat):(⟨b,o,none⟩:Addr).add n=⟨b,o+n,none⟩:=by
 unfold Addr.add; split <;> simp_all
omit [Lam] in
theorem Lies.drop {Pr γ w b off cs} (h:Lies Pr γ w b off cs) (n:Nat):Lies Pr γ w b (off+n) (cs.drop n):=by
 intro j x hx
 rw [List.getElem?_drop] at hx
 obtain ⟨u,h1,h2⟩:=h _ _ hx
 exact ⟨u,by rw [Nat.add_assoc]; exact h1,h2⟩
omit [Lam] in
theorem Lies.take {Pr γ w b off cs} (h:Lies Pr γ w b off cs) (n:Nat):Lies Pr γ w b off (cs.take n):=by
 intro j x hx
 rw [List.getElem?_take] at hx
 split at hx
 · exact h j x hx
 · cases hx
omit [Lam] in
theorem run_load_agg {P:Program} {t:TypeId} {ti:TI} (ht:TIok P t ti) (hk:ti.kind=.agg) {Pr γ w b off} {cs:List V} (hl:Lies Pr γ w b off cs) (hn:cs.length=ti.size) :
  ∃ cv,(Instr.loadAt t (.pointer (some ⟨b,off,none⟩))).run P w=.ok cv w∧Rep Pr γ w (.agg cs) cv:=by
 have hex:∀ j,∃ u:Value,j < cs.length→(w.cell? ⟨b,off+j,none⟩=some u∧∀ x,cs[j]? = some x→Rep Pr γ w x u):=by
  intro j
  by_cases hj:j < cs.length
  · obtain ⟨u,h1,h2⟩:=hl j cs[j] (by simp [hj])
    exact ⟨u,fun _=>⟨h1,fun x hx=>by simp [hj] at hx; subst hx; exact h2⟩⟩
  · exact ⟨.nilFunc,fun h=>absurd h hj⟩
 obtain ⟨f,hf⟩:=Classical.axiomOfChoice hex
 refine ⟨.agg ((List.range ti.size).map f).toArray,?_,?_⟩
 · simp only [Instr.loadAt,Instr.sureAddr,loadVar,Sem.run_bind,Sem.run_pure,Result.andThen_ok,ht.isAgg,hk,decide_true,if_true,ht.sizeOf]
   rw [run_loadCells w ⟨b,off,none⟩ ti.size f (fun j hj=>by rw [addr_add]; exact (hf j (by omega)).1)]
   simp
 · refine .agg (by simp [hn]) fun i x u hx hu=>?_
   simp only [List.getElem?_map,Option.map_eq_some_iff] at hu
   have hi:i < cs.length:=(List.getElem?_eq_some_iff.1 hx).1
   obtain ⟨j,hj,rfl⟩:=hu
   have:j=i:=by
    rw [List.getElem?_range (by omega)] at hj; exact (Option.some.inj hj).symm
   subst this
   exact (hf _ hi).2 x hx
omit [Lam] in
theorem run_load_leaf {P:Program} {t:TypeId} {ti:TI} (ht:TIok P t ti) (hk:ti.kind≠.agg) {w:World} {b off:Nat} {u:Value} (hc:w.cell? ⟨b,off,none⟩=some u) :
  (Instr.loadAt t (.pointer (some ⟨b,off,none⟩))).run P w=.ok u w:=by
 simp only [Instr.loadAt,Instr.sureAddr,loadVar,Sem.run_bind,Sem.run_pure,Result.andThen_ok,ht.isAgg,decide_eq_false hk,Bool.false_eq_true,if_false]
 simp [run_load,hc]
theorem aLoad_sound {P:Program} {τ:Tau} (hτ:TauOk P τ) {t:TypeId} {p:V} {st:St} {K:V→Prop} {Pr γ w} (hst:StOk Pr γ w st) (hpl:∀ (k:Nat) e,e∈poolEs st k→EntOk Pr w e) {cp:Value}
  (h:aLoad τ t p st K) (hp:Rep Pr γ w p cp):∃ v cv,K v∧Rep Pr γ w v cv∧(Instr.loadAt t cp).run P w=.ok cv w:=by
 unfold aLoad at h
 simp only [atRow_iff,Chk_iff,decide_eq_true_eq] at h
 split at h
 · exact h.elim
 rename_i ti hti
 have ht:=hτ _ _ hti
 split at h
 · rename_i k i j
   split at h
   · exact h.elim
   rename_i o ho
   obtain ⟨hlive,e,he,h⟩:=h
   cases hp with
   | ptr hg =>
     rename_i g
     have hl:=(hst.obj k o g ho hg hlive).cells he
     by_cases hk:ti.kind=.agg
     · rw [if_pos hk] at h
       have hl':Lies Pr γ w g.blk (i*g.sz+j) ((e.drop j).take ti.size):=(Lies.drop (off:=i*g.sz) hl j).take _
       obtain ⟨cv,h1,h2⟩:=run_load_agg ht hk hl' (by simp; omega)
       exact ⟨_,cv,h.2,h2,h1⟩
     · rw [if_neg hk] at h
       split at h
       · exact h.elim
       · rename_i x hx
         obtain ⟨u,h1,h2⟩:=hl j x hx
         exact ⟨x,u,h,h2,run_load_leaf ht hk h1⟩
 · rename_i k j
   obtain ⟨o,e,x,ho,hlive,-,he,hx,hk,h⟩:=h
   cases hp with
   | cptr hg =>
     rename_i g
     have hl:=(hst.obj k o g ho hg hlive).cells he
     obtain ⟨u,h1,h2⟩:=hl j x hx
     rw [Nat.zero_mul,Nat.zero_add] at h1
     exact ⟨x,u,h,h2,run_load_leaf ht hk h1⟩
 · rename_i cs
   cases hp with
   | rptr u hlf hm hr =>
     rename_i b off
     have hl:Lies Pr γ w b off cs:=fun j x hx=>⟨u j,(hm j x hx).1,hr j x hx⟩
     by_cases hk:ti.kind=.agg
     · rw [if_pos hk] at h
       obtain ⟨cv,h1,h2⟩:=run_load_agg ht hk (hl.take ti.size) (by simp; omega)
       exact ⟨_,cv,h.2,h2,h1⟩
     · rw [if_neg hk] at h
       split at h
       · exact h.elim
       · rename_i x hx
         exact ⟨x,u 0,h,hr 0 x hx,run_load_leaf ht hk (by simpa using (hm 0 x hx).1)⟩
 · rename_i b sz i j
   obtain ⟨k,cap,rows,e,hm,he,h⟩:=h
   cases hp
   obtain ⟨ty,hO⟩:=EntOk.obj (hpl k _ hm)
   have hl:=(hO γ).cells he
   by_cases hk:ti.kind=.agg
   · rw [if_pos hk] at h
     obtain ⟨h0,h⟩:=h
     have hl':Lies Pr γ w b (i*sz+j) ((e.drop j).take ti.size):=(Lies.drop (off:=i*sz) hl j).take _
     obtain ⟨cv,h1,h2⟩:=run_load_agg ht hk hl' (by simp; omega)
     exact ⟨_,cv,h,h2,h1⟩
   · rw [if_neg hk] at h
     split at h
     · exact h.elim
     · rename_i x hx
       obtain ⟨u,h1,h2⟩:=hl j x hx
       exact ⟨x,u,h,h2,run_load_leaf ht hk h1⟩
 · rename_i v
   split at h
   · rename_i cs hcs
     obtain ⟨g,hg,hcs⟩:=Option.bind_eq_some_iff.1 hcs
     obtain rfl:=globOf_some hg
     cases hp
     cases hst.laid.at γ hcs with
     | rptr u hlf hm hr =>
       have hl:Lies Pr γ w g 0 cs:=fun j x hx=>⟨u j,(hm j x hx).1,hr j x hx⟩
       by_cases hk:ti.kind=.agg
       · rw [if_pos hk] at h
         obtain ⟨cv,h1,h2⟩:=run_load_agg ht hk (hl.take ti.size) (by simp; omega)
         exact ⟨_,cv,h.2,h2,h1⟩
       · rw [if_neg hk] at h
         split at h
         · exact h.elim
         · rename_i x hx
           exact ⟨x,u 0,h,hr 0 x hx,run_load_leaf ht hk (by simpa using (hm 0 x hx).1)⟩
   · exact h.elim
 · exact h.elim
omit [Lam] in
theorem TIok.field {P t ti} (ht:TIok P t ti) {f off size:Nat} {b:Bool} (hf:ti.fields[f]? = some (off,size,b)) :
  ∃ (fs:Array Field) (fd:Field) (fi:TypeInfo),P.underlying t=some (.struct fs)∧fs[f]? = some fd∧P.info? fd.type=some fi∧fd.offset=off∧fi.size=size ∧
    ∃ d,P.underlying fd.type=some d∧(match d with | .struct _ | .array _ _=>b=true | _=>b=false):=by
 obtain ⟨fs,h1,h2,h3⟩:=ht.fields (by rintro e; rw [e] at hf; simp at hf)
 have hlt:f < fs.size:=by rw [h2]; exact (List.getElem?_eq_some_iff.1 hf).1
 obtain ⟨fi,b',g1,g2,d,g3,g4⟩:=h3 f fs[f] (by simp [hlt])
 rw [hf] at g2
 simp only [Option.some.injEq,Prod.mk.injEq] at g2
 obtain ⟨rfl,rfl,rfl⟩:=g2
 exact ⟨fs,fs[f],fi,h1,by simp [hlt],g1,rfl,rfl,d,g3,g4⟩
omit [Lam] in
theorem aFieldAddr_sound {P:Program} {τ:Tau} (hτ:TauOk P τ) {s:TypeId} {p:V} {f:Nat} {K:V→Prop} {Pr γ w} {cp:Value}
  (h:aFieldAddr τ s p f K) (hp:Rep Pr γ w p cp):∃ v cv,K v∧Rep Pr γ w v cv∧(Instr.fieldAt s cp f).run P w=.ok cv w:=by
 unfold aFieldAddr at h
 simp only [Chk_iff,decide_eq_true_eq] at h
 split at h
 · exact h.elim
 rename_i off size b hb
 obtain ⟨ti,hti,hf⟩:=Option.bind_eq_some_iff.1 hb
 obtain ⟨fs,fd,fi,h1,h2,h3,rfl,rfl,_⟩:=(hτ _ _ hti).field hf
 obtain ⟨hz,h⟩:=h
 have run:∀ b off,(Instr.fieldAt s (.pointer (some ⟨b,off,none⟩)) f).run P w=.ok (.pointer (some ⟨b,off+fd.offset,none⟩)) w:=by
  intro b off
  simp [Instr.fieldAt,run_underlying h1,h2,Instr.sureAddr,fieldPlace,Go.sizeOf,typeInfo,h3,hz,addr_add]
 split at h
 · rename_i k i j
   cases hp with
   | ptr hg=>exact ⟨_,_,h,by rw [Nat.add_assoc]; exact .ptr hg,run _ _⟩
 · rename_i cs
   cases hp with
   | rptr u hlf hm hr =>
     refine ⟨_,_,h,.rptr (fun j=>u (fd.offset+j)) (fun x hx=>hlf x (List.mem_of_mem_drop hx)) (fun j x hx=>?_) (fun j x hx=>?_),run _ _⟩
     · rw [List.getElem?_drop] at hx
       have:=hm _ _ hx
       rw [Nat.add_assoc]; exact this
     · rw [List.getElem?_drop] at hx
       exact hr _ _ hx
 · rename_i b sz i j
   cases hp
   exact ⟨_,_,h,by rw [Nat.add_assoc]; exact .dptr _ _ _ _,run _ _⟩
 · exact h.elim
omit [Lam] in
theorem aField_sound {P:Program} {τ:Tau} (hτ:TauOk P τ) {s:TypeId} {x:V} {f:Nat} {K:V→Prop} {Pr γ w} {cx:Value}
  (h:aField τ s x f K) (hx:Rep Pr γ w x cx):∃ v cv,K v∧Rep Pr γ w v cv∧(Instr.field s cx f).run P w=.ok cv w:=by
 unfold aField at h
 split at h
 · rename_i off size b cs hb
   obtain ⟨ti,hti,hf⟩:=Option.bind_eq_some_iff.1 hb
   obtain ⟨fs,fd,fi,h1,h2,h3,rfl,rfl,d,h4,h5⟩:=(hτ _ _ hti).field hf
   cases hx with
   | agg hl hr =>
     rename_i us
     cases b with
     | true =>
       have ha:(isAgg fd.type).run P w=.ok true w:=by
        unfold Go.isAgg; rw [Sem.run_bind,run_underlying h4]; cases d <;> simp at h5 ⊢
       simp only [if_true] at h
       refine ⟨_,.agg (us.toArray.extract fd.offset (fd.offset+fi.size)),h,?_,?_⟩
       · have:us.toArray.extract fd.offset (fd.offset+fi.size)=((us.drop fd.offset).take fi.size).toArray:=by
          simp [List.extract_toArray]
         rw [this]
         refine .agg (by simp [hl]) fun i x u a b=>?_
         rw [List.getElem?_take] at a b
         split at a
         · rw [if_pos ‹_›,List.getElem?_drop] at b
           rw [List.getElem?_drop] at a
           exact hr _ _ _ a b
         · cases a
       · simp [Instr.field,run_underlying h1,h2,part,ha,asAgg,Go.sizeOf,typeInfo,h3]
     | false =>
       have ha:(isAgg fd.type).run P w=.ok false w:=by
        unfold Go.isAgg; rw [Sem.run_bind,run_underlying h4]; cases d <;> simp at h5 ⊢
       simp only [Bool.false_eq_true,if_false] at h
       split at h
       · rename_i v hv
         have hlt:fd.offset < us.length:=by rw [← hl]; exact (List.getElem?_eq_some_iff.1 hv).1
         exact ⟨v,us[fd.offset],h,hr _ _ _ hv (by simp [hlt]),by simp [Instr.field,run_underlying h1,h2,part,ha,asAgg,hlt]⟩
       · exact h.elim
 · exact h.elim
end Go.Cod
namespace Go.Cod
open Go
variable [Lam]
structure SRows (Pr:Nat→Nat→Prop) (γ:List G) (w:World) (es:List (List V)) (b off c:Nat):Prop where
 wid:∀ e∈es,e.length=c
 lf:∀ e∈es,∀ x∈e,x.leaf=true
 lies:∀ (i:Nat) e,es[i]? = some e→Lies Pr γ w b (off+i*c) e
omit [Lam] in
theorem liveEs_some {st:St} {k:Nat} {es:List (List V)} (h:liveEs st k=some es):∃ o,st[k]? = some o∧o.live=true∧o.es=es∧o.box=false:=by
 unfold liveEs at h
 split at h
 · rename_i o ho
   split at h
   · rename_i hl; simp at hl; exact ⟨o,ho,hl.1,Option.some.inj h,hl.2⟩
   · cases h
 · cases h
theorem elems_rows {Pr γ w st} (hst:StOk Pr γ w st) {x:V} {es:List (List V)} {cx:Value} (h:elems st x=some es) (hx:Rep Pr γ w x cx) :
  ∃ a cap,cx=.slice a es.length cap∧es.length≤cap∧(es≠[]→∃ b off c,a=some ⟨b,off,none⟩∧SRows Pr γ w es b off c):=by
 unfold elems at h
 split at h
 · cases h; cases hx; rename_i a; exact ⟨a,0,rfl,Nat.le_refl _,fun h=>absurd rfl h⟩
 · cases h
   cases hx with
   | sl0 a cap=>exact ⟨a,cap,rfl,Nat.zero_le _,fun h=>absurd rfl h⟩
   | sl u hcl hn hc hlf hm hr =>
     refine ⟨_,_,rfl,hn,fun _=>⟨_,_,_,rfl,hc,hlf,fun i e hi j x hx=>⟨u i j,?_,hr i e j x hi hx⟩⟩⟩
     rw [Nat.add_assoc]; exact (hm i e j x hi hx).1
 · rename_i k
   obtain ⟨o,ho,hl,rfl,_⟩:=liveEs_some h
   cases hx with
   | own hg =>
     have H:=hst.obj _ _ _ ho hg hl
     refine ⟨_,_,by rw [H.len],by rw [← H.len]; exact H.le,fun _=>⟨_,_,_,rfl,H.sz,H.lf,fun i e hi=>?_⟩⟩
     rw [Nat.zero_add]; exact H.cells hi
 · cases h
omit [Lam] in
theorem run_indexAt {P:Program} {t e:TypeId} {ie:TypeInfo} (ht:P.underlying t=some (.slice e)) (he:P.info? e=some ie) (w:World) (b off len cap:Nat) (k:IntKind) (n:Int) (h0:0≤n) (h1:n < len) :
  (Instr.indexAt t (.slice (some ⟨b,off,none⟩) len cap) (.int k n)).run P w=.ok (.pointer (some ⟨b,off+n.toNat*ie.size,none⟩)) w:=by
 simp [Instr.indexAt,asIntOf,run_underlying ht,h0,h1,Go.sizeOf,typeInfo,he,addr_add]
omit [Lam] in
theorem kindOf_some {τ:Tau} {t:TypeId} {k:TK} (h:kindOf τ t=some k):∃ ti,τ t=some ti∧ti.kind=k:=by
 simpa [kindOf] using h
omit [Lam] in
theorem sizeOfT_some {τ:Tau} {t:TypeId} {k:Nat} (h:sizeOfT τ t=some k):∃ ti,τ t=some ti∧ti.size=k:=by
 simpa [sizeOfT] using h
omit [Lam] in
theorem kind_slice {P τ} (hτ:TauOk P τ) {t e:TypeId} (h:kindOf τ t=some (.slice e)):P.underlying t=some (.slice e):=by
 obtain ⟨ti,h1,h2⟩:=kindOf_some h
 have:=(hτ _ _ h1).kind; rw [h2] at this; exact this
omit [Lam] in
theorem kind_str {P τ} (hτ:TauOk P τ) {t:TypeId} (h:kindOf τ t=some .str):P.underlying t=some .string:=by
 obtain ⟨ti,h1,h2⟩:=kindOf_some h
 have:=(hτ _ _ h1).kind; rw [h2] at this; exact this
omit [Lam] in
theorem kind_map {P τ} (hτ:TauOk P τ) {t k e:TypeId} (h:kindOf τ t=some (.map k e)):P.underlying t=some (.map k e):=by
 obtain ⟨ti,h1,h2⟩:=kindOf_some h
 have:=(hτ _ _ h1).kind; rw [h2] at this; exact this
omit [Lam] in
theorem kind_int {P τ} (hτ:TauOk P τ) {t:TypeId} {k:IntKind} (h:kindOf τ t=some (.int k)):P.underlying t=some (.int k):=by
 obtain ⟨ti,h1,h2⟩:=kindOf_some h
 have:=(hτ _ _ h1).kind; rw [h2] at this; exact this
omit [Lam] in
theorem arr_desc {P:Program} {τ:Tau} (hτ:TauOk P τ) {t:TypeId} {len:Nat} (h:(τ t).bind TI.arr=some len):∃ e i k,P.underlying t=some (.array len e)∧P.info? e=some i∧i.size=1∧P.underlying e=some (.int k):=by
 obtain ⟨ti,h1,h2⟩:=Option.bind_eq_some_iff.1 h
 exact (hτ _ _ h1).arr len h2
omit [Lam] in
theorem run_indexArr {P:Program} {t e:TypeId} {ie:TypeInfo} {len:Nat} (ht:P.underlying t=some (.array len e)) (he:P.info? e=some ie) (hs:ie.size=1) (w:World) (b off:Nat) (k:IntKind) (n:Int) (h0:0≤n) (h1:n.toNat < len) :
  (Instr.indexAt t (.pointer (some ⟨b,off,none⟩)) (.int k n)).run P w=.ok (.pointer (some ⟨b,off+n.toNat,none⟩)) w:=by
 have h2:n < len:=by omega
 simp [Instr.indexAt,asIntOf,run_underlying ht,Instr.sureAddr,h0,h2,Go.sizeOf,typeInfo,he,hs,addr_add]
theorem aIndexAddr_sound {P:Program} {τ:Tau} (hτ:TauOk P τ) {t:TypeId} {lit:Bool} {x i:V} {st:St} {K:V→Prop} {Pr γ w} (hst:StOk Pr γ w st) {cx ci:Value}
  (h:aIndexAddr τ t lit x i st K) (hx:Rep Pr γ w x cx) (hi:Rep Pr γ w i ci):∃ v cv,K v∧Rep Pr γ w v cv∧(Instr.indexAt t cx ci).run P w=.ok cv w:=by
 unfold aIndexAddr at h
 split at h
 · rename_i kk n hk
   cases hi
   split at h
   · rename_i len hlen
     obtain ⟨e,ie,ik,hu,g1,g2,_⟩:=arr_desc hτ hlen
     split at h
     · rename_i k i j
       simp only [Chk_iff,decide_eq_true_eq] at h
       obtain ⟨h0,h1,h⟩:=h
       cases hx with
       | ptr hg=>exact ⟨_,_,h,by have:=Rep.ptr (Pr:=Pr) (w:=w) (i:=i) (j:=j+n.toNat) hg; rw [← Nat.add_assoc] at this; exact this,run_indexArr hu g1 g2 w _ _ kk n h0 h1⟩
     · rename_i k j
       obtain ⟨h0,h1,h⟩:=h
       cases hx with
       | ptr hg=>exact ⟨_,_,h,.cptr hg,by rw [Nat.zero_mul,Nat.zero_add]; exact run_indexArr hu g1 g2 w _ _ kk n h0 h1⟩
     · exact h.elim
   · exact h.elim
 · rename_i e k n hk
   have hu:=kind_slice hτ hk
   cases hi
   split at h
   · rename_i b m c
     obtain ⟨h0,hlt,h⟩:=h
     split at h
     · rename_i size hsz
       obtain ⟨te,hte,rfl⟩:=sizeOfT_some hsz
       obtain ⟨ie,z,g1,g2,_⟩:=(hτ _ _ hte).info
       obtain ⟨hz,h⟩:=Chk_iff.1 h
       cases hx
       refine ⟨_,_,h,.dptr _ _ _ _,?_⟩
       have:=run_indexAt hu g1 w b 0 m c k n h0 (by omega)
       rw [this,g2]; simp
     · exact h.elim
   · rename_i k' j m c
     obtain ⟨h0,hlt,h⟩:=h
     split at h
     · rename_i size hsz
       obtain ⟨te,hte,rfl⟩:=sizeOfT_some hsz
       obtain ⟨ie,z,g1,g2,_⟩:=(hτ _ _ hte).info
       obtain ⟨hz,h⟩:=Chk_iff.1 h
       cases hx with
       | win hg =>
       rename_i g
       refine ⟨_,_,h,.cptr hg,?_⟩
       have:=run_indexAt hu g1 w g.blk j m c k n h0 (by omega)
       rw [this,g2,of_decide_eq_true hz,Nat.mul_one]
     · exact h.elim
   · rename_i hnd hnw
     clear hnd hnw
     obtain ⟨h0,es,row,size,hes,hr,hsz,h⟩:=h
     obtain ⟨te,hte,rfl⟩:=sizeOfT_some hsz
     obtain ⟨ie,z,g1,g2,_⟩:=(hτ _ _ hte).info
     obtain ⟨a,cap,hcx,hcap,hR⟩:=elems_rows hst hes hx
     have hlt:n.toNat < es.length:=(List.getElem?_eq_some_iff.1 hr).1
     obtain ⟨b,off,c,rfl,R⟩:=hR (by intro e; rw [e] at hlt; simp at hlt)
     obtain ⟨hlen,h⟩:=h
     have hc:c=ie.size:=by rw [g2,← hlen]; exact (R.wid row (List.mem_of_getElem? hr)).symm
     subst hc
     have run:(Instr.indexAt t cx (.int k n)).run P w=.ok (.pointer (some ⟨b,off+n.toNat*ie.size,none⟩)) w:=by
      rw [hcx]; exact run_indexAt hu g1 w b off es.length cap k n h0 (by omega)
     refine ⟨_,_,h,?_,run⟩
     cases hx with
     | own hg =>
       rename_i g
       obtain ⟨o,ho,hl,rfl,_⟩:=liveEs_some hes
       have hsz:g.sz=ie.size:=by
        rw [← (hst.obj _ _ _ ho hg hl).sz row (List.mem_of_getElem? hr),hlen,g2]
       simp only [Value.slice.injEq,Option.some.injEq,Addr.mk.injEq] at hcx
       obtain ⟨⟨rfl,rfl,_⟩,_⟩:=hcx
       have:=Rep.ptr (Pr:=Pr) (w:=w) (i:=n.toNat) (j:=0) hg
       rw [hsz] at this
       simpa [aElt] using this
     | nils=>cases hes; simp at hr
     | sl0=>cases hes; simp at hr
     | sl u hcl hn hc' hlf hm hr' =>
       cases hes
       rename_i c'
       have hc2:c'=ie.size:=by rw [← hc' row (List.mem_of_getElem? hr),hlen,g2]
       subst hc2
       simp only [Value.slice.injEq,Option.some.injEq,Addr.mk.injEq] at hcx
       obtain ⟨⟨rfl,rfl,_⟩,_⟩:=hcx
       refine .rptr (fun j=>u n.toNat j) (hlf row (List.mem_of_getElem? hr)) (fun j x hx=>?_) (fun j x hx=>hr' _ _ _ _ hr hx)
       have:=hm _ _ _ _ hr hx
       rw [← Nat.add_assoc] at this; exact this
     | _=>cases hes
 · exact h.elim
omit [Lam] in
theorem ba_size (s:List UInt8):(⟨s.toArray⟩:ByteArray).size=s.length:=by
 simp only [ByteArray.size,List.size_toArray]
omit [Lam] in
theorem ba_get (s:List UInt8) (i:Nat):(⟨s.toArray⟩:ByteArray)[i]? = s[i]? := by
 by_cases h:i < s.length
 · rw [getElem?_pos _ _ (by rw [ba_size]; exact h)]
   simp [h,ByteArray.getElem_eq_getElem_data]
 · rw [getElem?_neg _ _ (by rw [ba_size]; exact h)]
   simp [h]
omit [Lam] in
theorem aIndex_sound {P:Program} {τ:Tau} (hτ:TauOk P τ) {t:TypeId} {x i:V} {K:V→Prop} {Pr γ w} {cx ci:Value}
  (h:aIndex τ t x i K) (hx:Rep Pr γ w x cx) (hi:Rep Pr γ w i ci):∃ v cv,K v∧Rep Pr γ w v cv∧(Instr.index t cx ci).run P w=.ok cv w:=by
 unfold aIndex at h
 split at h
 · rename_i s k n hk
   have hu:=kind_str hτ hk
   obtain ⟨h0,h⟩:=h
   cases hi; cases hx
   · obtain ⟨b,hb,h⟩:=h
     refine ⟨_,_,h,.int _ _,?_⟩
     have hlt:n.toNat < s.length:=(List.getElem?_eq_some_iff.1 hb).1
     have hg:(⟨s.toArray⟩:ByteArray)[n.toNat]? = some b:=by rw [ba_get]; exact hb
     simp [Instr.index,asIntOf,run_underlying hu,h0,hg]
 · rename_i cs k n hk
   cases hi
   split at h
   · rename_i len hlen
     obtain ⟨e,ie,ik,hu,g1,g2,g3⟩:=arr_desc hτ hlen
     obtain ⟨h0,h1,y,hy,h⟩:=h
     cases hx with
     | agg hl hr =>
       rename_i us
       have hlt:n.toNat < us.length:=by rw [← hl]; exact (List.getElem?_eq_some_iff.1 hy).1
       have ha:(isAgg e).run P w=.ok false w:=by
        unfold Go.isAgg; rw [Sem.run_bind,run_underlying g3]; simp
       have h2:n < len:=by omega
       exact ⟨y,us[n.toNat],h,hr _ _ _ hy (by simp [hlt]),by simp [Instr.index,asIntOf,run_underlying hu,h0,h2,part,ha,Go.sizeOf,typeInfo,g1,g2,hlt]⟩
   · exact h.elim
 · exact h.elim
theorem aLen_sound {P:Program} {τ:Tau} (hτ:TauOk P τ) {t u:TypeId} {ts:Array TypeId} (hts:ts[0]? = some t) {x:V} {st:St} {K:V→Prop} {Pr γ w} (hst:StOk Pr γ w st) (hmap:∀ (k:Nat) (o:O) g,st[k]? = some o→γ[k]? = some g→o.kind=.map→MapOk Pr γ w o g) {cx:Value}
  (h:aLen τ t x st K) (hx:Rep Pr γ w x cx):∃ v cv,K v∧Rep Pr γ w v cv∧(Builtin.len_ ts u #[cx]).run P w=.ok cv w:=by
 unfold aLen at h
 split at h
 · rename_i s hk
   cases hx
   refine ⟨_,_,h,.int _ _,?_⟩
   simp [Builtin.len_,hts,run_underlying (kind_str hτ hk),goInt,ba_size]
 · rename_i e x hk
   split at h
   · cases hx
     exact ⟨_,_,h,.int _ _,by simp [Builtin.len_,hts,run_underlying (kind_slice hτ hk),goInt]⟩
   · cases hx
     exact ⟨_,_,h,.int _ _,by simp [Builtin.len_,hts,run_underlying (kind_slice hτ hk),goInt]⟩
   split at h
   · rename_i es hes
     obtain ⟨a,cap,rfl,_⟩:=elems_rows hst hes hx
     exact ⟨_,_,h,.int _ _,by simp [Builtin.len_,hts,run_underlying (kind_slice hτ hk),goInt]⟩
   · exact h.elim
 · rename_i tk te k hk
   split at h
   · rename_i o ho
     obtain ⟨hm,h⟩:=Chk_iff.1 h
     cases hx with
     | map hg =>
       rename_i g
       obtain ⟨ents,clock,e1,e2,_⟩:=(hmap k o g ho hg (of_decide_eq_true hm)).ex
       refine ⟨_,_,h,.int _ _,?_⟩
       have hl:o.es.length=ents.size:=by simpa using e2.1
       simp [Builtin.len_,hts,run_underlying (kind_map hτ hk),goInt,getObj,e1,hl,Sem.run]
   · exact h.elim
 · exact h.elim
end Go.Cod
namespace Go.Cod
open Go
variable [Lam]
def lentPr (Pr:Nat→Nat→Prop) (g:G):Nat→Nat→Prop:=fun b n=>Pr b n∨(b=g.blk∧n < g.len*g.sz)
omit [Lam] in
theorem Base.lend {w0 mod γ0 Pr0 Pr γ w} (h:Base w0 mod γ0 Pr0 Pr γ w) {g:G} (hg:w0.heap.size≤g.blk∨mod g.blk):Base w0 mod γ0 Pr0 (lentPr Pr g) γ w where
 os:=h.os
 tape:=h.tape
 output:=h.output
 size:=h.size
 old:=h.old
 sub:=fun b n hp=>.inl (h.sub b n hp)
 new:=fun b n hp=>by
  rcases hp with hp | ⟨rfl,_⟩
  · exact h.new b n hp
  · exact .inr hg
 names:=h.names
theorem StOk.lend1 {Pr γ w st} (h:StOk Pr γ w st) {k:Nat} {o:O} {g:G} (hk:st[k]? = some o) (hg:γ[k]? = some g) (hl:o.live=true) (hb:o.box=false):StOk (lentPr Pr g) γ w (lend1 st k):=by
 have H:=h.obj k o g hk hg hl
 have e:Cod.lend1 st k=st.set k { o with excl:=false }:=by simp [Cod.lend1,hk,hl,hb]
 rw [e]
 refine h.set hk hg hl ⟨⟨fun b n hp=>.inl hp,fun _ _ _=>rfl,fun _ _ h=>h⟩,fun _ _ _ _ _ _ _=>rfl,fun j o' g' n hj hg' hl' hne hp=>?_⟩ (fun b n hp=>?_) (fun _=>?_)
 · rcases hp with hp | ⟨hb,_⟩
   · exact hp
   · exact absurd (h.one k j o o' g g' hk hj hg hg' hl hl' hb.symm) (by intro e; exact hne (by rw [e]))
 · rcases hp with hp | ⟨rfl,_⟩
   · exact h.low b n hp
   · exact H.lt
 · refine ⟨H.len,H.wid,H.le,H.max,H.sz,H.lf,?_,fun n hn hp=>?_,(fun he=>by cases he),H.cl,H.kd⟩
   · obtain ⟨cur,f,h1,h2,h3⟩:=H.row
     refine ⟨cur,f,h1,h2,fun i e j x a b=>?_⟩
     obtain ⟨u,hu,hr⟩:=h3 i e j x a b
     exact ⟨u,hu,hr.keep ⟨fun b n hp=>.inl hp,fun _ _ _=>rfl,fun _ _ h=>h⟩⟩
   · rcases hp with hp | ⟨_,hlt⟩
     · exact H.spare n hn hp
     · omega
omit [Lam] in
theorem FrOk.lent {Pr γ w fr a nt} (h:FrOk Pr γ w fr a nt) (g:G):FrOk (lentPr Pr g) γ w fr a nt :=
 h.keep ⟨fun _ _ hp=>.inl hp,fun _ _ _=>rfl,fun _ _ h=>h⟩
omit [Lam] in
theorem keep_lent (Pr γ w) (g:G):Keep Pr (lentPr Pr g) γ γ w w:=⟨fun _ _ hp=>.inl hp,fun _ _ _=>rfl,fun _ _ h=>h⟩
omit [Lam] in
theorem lend1_get {st:St} {k j:Nat} {o:O} (h:(lend1 st k)[j]? = some o):∃ o',st[j]? = some o'∧o'.es=o.es∧o'.live=o.live∧o'.box=o.box∧(o.box=true→o=o'):=by
 unfold lend1 at h
 split at h
 · rename_i o' ho'
   split at h
   · rename_i hc
     simp at hc
     rw [List.getElem?_set] at h
     split at h
     · rename_i e
       subst e
       split at h
       · cases h; exact ⟨o',ho',rfl,rfl,rfl,fun hb=>by simp [hc.2] at hb⟩
       · cases h
     · exact ⟨o,h,rfl,rfl,rfl,fun _=>rfl⟩
   · exact ⟨o,h,rfl,rfl,rfl,fun _=>rfl⟩
 · exact ⟨o,h,rfl,rfl,rfl,fun _=>rfl⟩
theorem AR.lend1 {w0 mod γ0 Pr0 nt Pr γ fr st a w} (h:AR w0 mod γ0 Pr0 nt Pr γ fr st a w) (k:Nat) :
  ∃ Pr',Keep Pr Pr' γ γ w w∧AR w0 mod γ0 Pr0 nt Pr' γ fr (lend1 st k) a w∧(∀ es cv,liveEs st k=some es→Rep Pr γ w (.own k) cv→Rep Pr' γ w (.sl es) cv):=by
 by_cases hex:∃ o,st[k]? = some o∧o.live=true∧o.box=false
 · obtain ⟨o,hk,hl,hb⟩:=hex
   obtain ⟨g,hg⟩:=h.st.at hk
   have H:=h.st.obj k o g hk hg hl
   refine ⟨lentPr Pr g,keep_lent _ _ _ _,⟨fun j o' q hj hq hlv=>?_,h.fr.lent g,h.st.lend1 hk hg hl hb,h.base.lend (h.mine k o g hk hg hl)⟩,?_⟩
   · obtain ⟨o1,h1,_,h3,h4,h5⟩:=lend1_get hj
     exact h.mine j o1 q h1 hq (h3.trans hlv)
   · intro es cv hes hr
     obtain ⟨o',ho',_,rfl,hbx0⟩:=liveEs_some hes
     rw [hk] at ho'; cases ho'
     cases hr with
     | own hg' =>
       rw [hg] at hg'; cases hg'
       obtain ⟨cur,f,h1,h2,h3⟩:=H.row
       by_cases hz:o.es=[]
       · rw [hz]
         have:g.len=0:=by rw [H.len,hz]; rfl
         rw [this]; exact .sl0 _ _
       · have hu:∀ i,∃ f:Nat→Value,∀ j e x,o.es[i]? = some e→e[j]? = some x→(cur[i*g.sz+j]? = some (f j)∧Rep Pr γ w x (f j)):=by
          intro i
          have:∀ j,∃ u:Value,∀ e x,o.es[i]? = some e→e[j]? = some x→(cur[i*g.sz+j]? = some u∧Rep Pr γ w x u):=by
           intro j
           by_cases hh:∃ e x,o.es[i]? = some e∧e[j]? = some x
           · obtain ⟨e,x,a,b⟩:=hh
             obtain ⟨u,hu,hr⟩:=h3 i e j x a b
             refine ⟨u,fun e' x' a' b'=>?_⟩
             rw [a] at a'; cases a'; rw [b] at b'; cases b'; exact ⟨hu,hr⟩
           · exact ⟨.nilFunc,fun e x a b=>absurd ⟨e,x,a,b⟩ hh⟩
          obtain ⟨f,hf⟩:=Classical.axiomOfChoice this
          exact ⟨f,fun j e x=>hf j e x⟩
         obtain ⟨u,hu⟩:=Classical.axiomOfChoice hu
         rw [H.len]
         refine .sl (off:=0) (c:=g.sz) u (H.cl hbx0) (by rw [← H.len]; exact H.le) H.sz H.lf (fun i e j x a b=>?_) (fun i e j x a b=>(hu i j e x a b).2.keep (keep_lent _ _ _ _))
         refine ⟨by rw [Nat.zero_add]; simp [World.cell?,h1.1,(hu i j e x a b).1],.inr ⟨rfl,?_⟩⟩
         have hi:i < o.es.length:=(List.getElem?_eq_some_iff.1 a).1
         have hj:j < e.length:=(List.getElem?_eq_some_iff.1 b).1
         rw [H.sz e (List.mem_of_getElem? a)] at hj
         rw [H.len,Nat.zero_add]
         calc i*g.sz+j < i*g.sz+g.sz:=by omega
          _=(i+1)*g.sz:=by rw [Nat.add_mul]; omega
          _≤o.es.length*g.sz:=Nat.mul_le_mul_right _ hi
 · refine ⟨Pr,Keep.refl _ _ _,?_,fun es cv hes=>?_⟩
   · have:Cod.lend1 st k=st:=by
      unfold Cod.lend1
      split
      · rename_i o ho
        split
        · rename_i hc; simp at hc; exact absurd ⟨o,ho,hc.1,hc.2⟩ hex
        · rfl
      · rfl
     rw [this]; exact h
   · obtain ⟨o,h1,h2,_,h4⟩:=liveEs_some hes
     exact absurd ⟨o,h1,h2,h4⟩ hex
omit [Lam] in
theorem liveEs_lend1 (st:St) (k j:Nat):liveEs (lend1 st k) j=liveEs st j:=by
 unfold Cod.lend1
 split
 · rename_i o ho
   split
   · rename_i hc
     unfold liveEs
     rw [List.getElem?_set]
     by_cases e:k=j
     · subst e
       have hlt:k < st.length:=(List.getElem?_eq_some_iff.1 ho).1
       rw [if_pos rfl,if_pos hlt,ho]
     · simp [e]
   · rfl
 · rfl
theorem AR.lend {w0 mod γ0 Pr0 nt γ fr a w}:∀ (ks:List Nat) {Pr st},AR w0 mod γ0 Pr0 nt Pr γ fr st a w→∃ Pr',Keep Pr Pr' γ γ w w∧AR w0 mod γ0 Pr0 nt Pr' γ fr (lend st ks) a w∧(∀ k∈ks,∀ es cv,liveEs st k=some es→Rep Pr γ w (.own k) cv→Rep Pr' γ w (.sl es) cv)
 | [],Pr,st,h=>⟨Pr,Keep.refl _ _ _,h,fun k hk=>by simp at hk⟩
 | k::ks,Pr,st,h=>by
   obtain ⟨P1,K1,A1,R1⟩:=h.lend1 k
   obtain ⟨P2,K2,A2,R2⟩:=AR.lend ks A1
   refine ⟨P2,K1.trans K2,A2,fun j hj es cv hes hr=>?_⟩
   rcases List.mem_cons.1 hj with rfl | hj
   · exact (R1 es cv hes hr).keep K2
   · refine R2 j hj es cv ?_ (hr.keep K1)
     rw [liveEs_lend1]; exact hes
omit [Lam] in
mutual
theorem share_rep {Pr Pr' γ w st} (K:Keep Pr Pr' γ γ w w):∀ (x:V) (cv:Value),(∀ k∈owns x,∀ es cv,liveEs st k=some es→Rep Pr γ w (.own k) cv→Rep Pr' γ w (.sl es) cv)→Rep Pr γ w x cv→Rep Pr' γ w (share st x) cv
 | .own k,cv,hk,h=>by
   simp only [share,shareOwn]
   split
   · rename_i es hes; exact hk k (by simp [owns]) es cv hes h
   · exact h.keep K
 | .nils,cv,_,h=>by cases h; exact .sl0 _ _
 | .agg cs,cv,hk,h=>by
   cases h with
   | agg hl hr =>
     simp only [share]
     have:=shareL_rep K cs _ (by simpa [owns] using hk) ⟨hl,hr⟩
     exact .agg this.1 this.2
 | .tup cs,cv,hk,h=>by
   cases h with
   | tup hl hr =>
     simp only [share]
     have:=shareL_rep K cs _ (by simpa [owns] using hk) ⟨hl,hr⟩
     exact .tup this.1 this.2
 | .fn f cs,cv,hk,h=>by
   cases h with
   | fn hl hr =>
     simp only [share]
     have:=shareL_rep K cs _ (by simpa [owns] using hk) ⟨hl,hr⟩
     exact .fn this.1 this.2
 | .bool _,cv,_,h=>by simpa [share] using h.keep K
 | .int _ _,cv,_,h=>by simpa [share] using h.keep K
 | .str _,cv,_,h=>by simpa [share] using h.keep K
 | .sl _,cv,_,h=>by simpa [share] using h.keep K
 | .ptr _ _ _,cv,_,h=>by simpa [share] using h.keep K
 | .win _ _ _ _,cv,_,h=>by simpa [share] using h.keep K
 | .cptr _ _,cv,_,h=>by simpa [share] using h.keep K
 | .rptr _,cv,_,h=>by simpa [share] using h.keep K
 | .raw _,cv,_,h=>by simpa [share] using h.keep K
 | .any,cv,_,h=>by simpa [share] using h.keep K
 | .map _,cv,_,h=>by simpa [share] using h.keep K
 | .yld _,cv,_,h=>by simpa [share] using h.keep K
 | .dref _ _ _,cv,_,h=>by simpa [share] using h.keep K
 | .dptr _ _ _ _,cv,_,h=>by simpa [share] using h.keep K
 | .iface t x,cv,hk,h=>by
   cases h with
   | iface h =>
     simp only [share]
     exact .iface (share_rep K x _ (by simpa [owns] using hk) h)
 | .meth t x,cv,hk,h=>by
   cases h with
   | meth h =>
     simp only [share]
     exact .meth (share_rep K x _ (by simpa [owns] using hk) h)
 | .bnd t x,cv,hk,h=>by
   cases h with
   | bnd h =>
     simp only [share]
     exact .bnd (share_rep K x _ (by simpa [owns] using hk) h)
theorem shareL_rep {Pr Pr' γ w st} (K:Keep Pr Pr' γ γ w w):∀ (cs:List V) (us:List Value),(∀ k∈owns.go cs,∀ es cv,liveEs st k=some es→Rep Pr γ w (.own k) cv→Rep Pr' γ w (.sl es) cv)→RepL Pr γ w cs us→RepL Pr' γ w (share.go st cs) us
 | [],us,_,h=>by
   cases us with
   | nil=>exact RepL.nil
   | cons=>simp [RepL] at h
 | x::xs,us,hk,h=>by
   cases us with
   | nil=>simp [RepL] at h
   | cons u us =>
     simp only [share.go]
     refine RepL.cons (share_rep K x u (fun k hkx=>hk k (by simp [owns.go,hkx])) (h.2 0 x u rfl rfl)) (shareL_rep K xs us (fun k hkx=>hk k (by simp [owns.go,hkx])) ⟨by simpa using h.1,fun i y v a b=>h.2 (i+1) y v (by simpa using a) (by simpa using b)⟩)
end
end Go.Cod
namespace Go.Cod
open Go
variable [Lam]
omit [Lam] in
theorem run_bound {P:Program} {x:V} {y:Nat} {C:Nat→Prop} {Pr γ w} {cx:Value} (h:aBound x y C) (hx:Rep Pr γ w x cx) :
  ∃ n,n≤y∧C n∧∀ z,y≤z→∀ code,(Instr.sliceBound cx z code).run P w=.ok n w:=by
 unfold aBound at h
 split at h
 · obtain ⟨h0,h1,h2⟩:=h
   cases hx
   exact ⟨_,h1,h2,fun z hz code=>run_sliceBound w _ _ _ _ h0 (by omega)⟩
 · exact h.elim
omit [Lam] in
theorem run_low {P:Program} {lo:Option V} {n:Nat} {C:Nat→Nat→Prop} {Pr γ w} {clo:Option Value}
  (h:aLow lo n C) (hlo:∀ x,lo=some x→∃ c,clo=some c∧Rep Pr γ w x c) (hlo':lo=none→clo=none) :
  ∃ l,l≤n∧C l n∧∀ {α:Type} (f:Nat→Sem α) code,((match clo with | some v=>Instr.sliceBound v n code | none=>pure 0:Sem Nat) >>= f).run P w=(f l).run P w:=by
 unfold aLow at h
 cases lo with
 | none=>rw [hlo' rfl]; exact ⟨0,Nat.zero_le _,h,fun f code=>by simp⟩
 | some x =>
   obtain ⟨c,rfl,hr⟩:=hlo x rfl
   obtain ⟨l,h1,h2,h3⟩:=run_bound (P:=P) h hr
   exact ⟨l,h1,h2,fun f code=>by simp [h3 n (Nat.le_refl _)]⟩
omit [Lam] in
theorem run_range {P:Program} {lo hi:Option V} {n cap:Nat} {C:Nat→Nat→Prop} {Pr γ w} {clo chi:Option Value} {b:Bool} (hn:n≤cap)
  (h:aRange lo hi n C) (hlo:∀ x,lo=some x→∃ c,clo=some c∧Rep Pr γ w x c) (hlo':lo=none→clo=none) (hhi:∀ x,hi=some x→∃ c,chi=some c∧Rep Pr γ w x c) (hhi':hi=none→chi=none) :
  ∃ l h,l≤h∧h≤n∧C l h∧(Instr.sliceBounds b n cap clo chi none).run P w=.ok (l,h,cap) w:=by
 unfold aRange at h
 cases hi with
 | none =>
   rw [hhi' rfl]
   obtain ⟨l,h1,h2,h3⟩:=run_low (P:=P) h hlo hlo'
   refine ⟨l,n,h1,Nat.le_refl _,h2,?_⟩
   cases clo with
   | none=>have:=h3 (α:=Nat) (fun l=>pure l) .sliceB; simp at this; simp [Instr.sliceBounds,this]
   | some c=>have:=h3 (α:=Nat) (fun l=>pure l) .sliceB; simp at this; simp [Instr.sliceBounds,this]
 | some y =>
   obtain ⟨c',rfl,hr'⟩:=hhi y rfl
   obtain ⟨m,hm,h,hrun⟩:=run_bound (P:=P) h hr'
   obtain ⟨l,h1,h2,h3⟩:=run_low (P:=P) h hlo hlo'
   refine ⟨l,m,h1,hm,h2,?_⟩
   cases clo with
   | none=>have:=h3 (α:=Nat) (fun l=>pure l) .sliceB; simp at this; simp [Instr.sliceBounds,hrun cap hn,this]
   | some c=>have:=h3 (α:=Nat) (fun l=>pure l) .sliceB; simp at this; simp [Instr.sliceBounds,hrun cap hn,this]
omit [Lam] in
theorem aLowD_low {lo:Option V} {h c b size:Nat} {K:V→Prop} (H:aLowD lo h c b size K) :
  aLow lo h fun l _=>∃ v,K v∧((l=0∧v=.dref b h c)∨((l=c→v=subD b size 0 0 0)∧(l≠c→v=subD b size l (h - l) (c - l)))):=by
 cases lo with
 | none=>exact ⟨_,H,.inl ⟨rfl,rfl⟩⟩
 | some x =>
   unfold aLowD aBound at H
   unfold aLow aBound
   simp only at H ⊢
   split at H
   · obtain ⟨a1,a2,a3,a4⟩:=H
     refine ⟨a1,a2,?_⟩
     rename_i k n
     by_cases e:n.toNat=c
     · exact ⟨_,a3 e,.inr ⟨fun _=>rfl,fun h=>absurd e h⟩⟩
     · exact ⟨_,a4 e,.inr ⟨fun h=>absurd h e,fun _=>rfl⟩⟩
   · exact H.elim
omit [Lam] in
theorem run_rangeD {P:Program} {lo hi:Option V} {n c b size:Nat} {K:V→Prop} {Pr γ w} {clo chi:Option Value} (hn:n≤c)
  (h:match hi with
    | none=>aLowD lo n c b size K
    | some h=>aBound h c fun h=>aLowD lo h c b size K) (hlo:∀ x,lo=some x→∃ c,clo=some c∧Rep Pr γ w x c) (hlo':lo=none→clo=none) (hhi:∀ x,hi=some x→∃ c,chi=some c∧Rep Pr γ w x c) (hhi':hi=none→chi=none) :
  ∃ l h v,l≤h∧h≤c∧K v∧((l=0∧v=.dref b h c)∨((l=c→v=subD b size 0 0 0)∧(l≠c→v=subD b size l (h - l) (c - l))))∧(Instr.sliceBounds true n c clo chi none).run P w=.ok (l,h,c) w:=by
 cases hi with
 | none =>
   rw [hhi' rfl]
   obtain ⟨l,h1,⟨v,v1,v2⟩,h3⟩:=run_low (P:=P) (aLowD_low h) hlo hlo'
   refine ⟨l,n,v,h1,hn,v1,v2,?_⟩
   cases clo with
   | none=>have:=h3 (α:=Nat) (fun l=>pure l) .sliceB; simp at this; simp [Instr.sliceBounds,this]
   | some c=>have:=h3 (α:=Nat) (fun l=>pure l) .sliceB; simp at this; simp [Instr.sliceBounds,this]
 | some y =>
   obtain ⟨c',rfl,hr'⟩:=hhi y rfl
   obtain ⟨m,hm,h,hrun⟩:=run_bound (P:=P) h hr'
   obtain ⟨l,h1,⟨v,v1,v2⟩,h3⟩:=run_low (P:=P) (aLowD_low h) hlo hlo'
   refine ⟨l,m,v,h1,hm,v1,v2,?_⟩
   cases clo with
   | none=>have:=h3 (α:=Nat) (fun l=>pure l) .sliceB; simp at this; simp [Instr.sliceBounds,hrun c (Nat.le_refl _),this]
   | some c=>have:=h3 (α:=Nat) (fun l=>pure l) .sliceB; simp at this; simp [Instr.sliceBounds,hrun _ (Nat.le_refl _),this]
omit [Lam] in
theorem ba_extract (s:List UInt8) (l h:Nat):(⟨s.toArray⟩:ByteArray).extract l h=⟨((s.take h).drop l).toArray⟩:=by
 apply ByteArray.ext
 simp [ByteArray.data_extract,List.extract_toArray]
 exact List.drop_take.symm
omit [Lam] in
theorem Rep.slice_sl {Pr γ w} {es:List (List V)} {cap size:Nat} {a:Option Addr} (hx:Rep Pr γ w (.sl es) (.slice a es.length cap)) (hs:∀ r∈es,r.length=size) {l h:Nat} (hl:l≤h) (hh:h≤es.length) (hc:es.length≤cap) :
  Rep Pr γ w (.sl ((es.take h).drop l)) (.slice (if cap=l then a else a.map (·.add (l*size))) (h - l) (cap - l)):=by
 by_cases hz:l=h
 · subst hz
   have:(es.take l).drop l=[]:=by simp
   rw [this,Nat.sub_self]; exact .sl0 _ _
 · have hlen:((es.take h).drop l).length=h - l:=by simp; omega
   rw [if_neg (by omega),← hlen]
   generalize hv:Value.slice a es.length cap=v at hx
   cases hx with
   | sl0=>simp at hh; omega
   | sl u hcl hn hc' hlf hm hr =>
     rename_i b off cap' c
     simp only [Value.slice.injEq] at hv
     obtain ⟨rfl,_,rfl⟩:=hv
     have e0:0 < es.length:=by omega
     have hcs:c=size:=by rw [← hc' es[0] (List.getElem_mem _),hs _ (List.getElem_mem _)]
     subst hcs
     simp only [Option.map_some,addr_add]
     have hget:∀ (i:Nat) e,((es.take h).drop l)[i]? = some e→es[l+i]? = some e:=by
      intro i e he
      rw [List.getElem?_drop,List.getElem?_take] at he
      split at he
      · exact he
      · cases he
     refine .sl (c:=c) (fun i j=>u (l+i) j) (V.cleanLL_take fun e he=>V.cleanLL_mem hcl e (List.mem_of_mem_take (List.mem_of_mem_drop he))) (by rw [hlen]; omega) (fun e he=>hc' e (List.mem_of_mem_take (List.mem_of_mem_drop he))) (fun e he=>hlf e (List.mem_of_mem_take (List.mem_of_mem_drop he))) (fun i e j x a b'=>?_) (fun i e j x a b'=>hr _ _ _ _ (hget i e a) b')
     have:=hm _ _ _ _ (hget i e a) b'
     have e1:off+l*c+(i*c+j)=off+((l+i)*c+j):=by rw [Nat.add_mul]; omega
     rw [e1]; exact this
omit [Lam] in
theorem share_elems {st:St} {x:V} {es:List (List V)} (h:elems st x=some es):share st x=.sl es:=by
 unfold elems at h
 split at h
 · cases h; rfl
 · cases h; rfl
 · simp [share,shareOwn,h]
 · cases h
theorem aSlice_sound {P:Program} {τ:Tau} (hτ:TauOk P τ) {t:TypeId} {x:V} {lo hi:Option V} {st:St} {K:V→St→Prop} {w0 mod γ0 Pr0 nt Pr γ fr a w} (A:AR w0 mod γ0 Pr0 nt Pr γ fr st a w)
  {cx:Value} {clo chi:Option Value} (h:aSlice τ t x lo hi st K) (hx:Rep Pr γ w x cx) (hlo:∀ x,lo=some x→∃ c,clo=some c∧Rep Pr γ w x c) (hlo':lo=none→clo=none) (hhi:∀ x,hi=some x→∃ c,chi=some c∧Rep Pr γ w x c) (hhi':hi=none→chi=none) :
  ∃ v cv st' Pr',K v st'∧Keep Pr Pr' γ γ w w∧AR w0 mod γ0 Pr0 nt Pr' γ fr st' a w∧Rep Pr' γ w v cv∧(Instr.sliceAt t cx clo chi none).run P w=.ok cv w:=by
 obtain ⟨Pr',K1,A',R⟩:=AR.lend (owns x) A
 have hx':=share_rep K1 x _ R hx
 unfold aSlice at h
 split at h
 · rename_i s hk
   have hu:=kind_str hτ hk
   cases hx
   obtain ⟨l,m,h1,h2,h3,h4⟩:=run_range (P:=P) (b:=false) (Nat.le_refl _) h hlo hlo' hhi hhi'
   refine ⟨_,_,st,Pr,h3,Keep.refl _ _ _,A,.str _,?_⟩
   simp [Instr.sliceAt,run_underlying hu,Instr.slice,ba_size,h4,ba_extract]
 · rename_i e b n c hk
   have hu:=kind_slice hτ hk
   cases hx
   split at h
   · rename_i size hsz
     obtain ⟨te,hte,rfl⟩:=sizeOfT_some hsz
     obtain ⟨ie,z,g1,g2,_⟩:=(hτ _ _ hte).info
     obtain ⟨hnc,h⟩:=h
     obtain ⟨l,m,v,h1,h2,h3,h4,h6⟩:=run_rangeD (P:=P) (n:=n) hnc h hlo hlo' hhi hhi'
     refine ⟨v,_,st,Pr,h3,Keep.refl _ _ _,A,?_,by simp [Instr.sliceAt,run_underlying hu,Instr.slice,h6,Go.sizeOf,typeInfo,g1,g2]; rfl⟩
     rcases h4 with ⟨e0,rfl⟩ | ⟨h4,h5⟩
     · subst e0
       simp only [Nat.sub_zero]
       by_cases e:c=0
       · rw [if_pos e]; exact .dref _ _ _
       · rw [if_neg e]; simp [addr_add]; exact .dref _ _ _
     by_cases e:l=c
     · rw [h4 e]
       have e1:m=c:=by omega
       subst e; subst e1
       simp only [subD,Nat.zero_mul,Nat.sub_self]
       simp
       exact .raw _
     · rw [h5 e]
       have e':¬ c=l:=fun x=>e x.symm
       simp only [subD,if_neg e']
       simp [addr_add]
       exact .raw _
   · exact h.elim
 · rename_i k j hk
   cases hx with
   | ptr hg =>
   rename_i g
   split at h
   · rename_i len hlen
     obtain ⟨e,ie,ik,hu,g1,g2,g3⟩:=arr_desc hτ hlen
     obtain ⟨l,m,h1,h2,h3,h4⟩:=run_range (P:=P) (b:=false) (Nat.le_refl _) h hlo hlo' hhi hhi'
     obtain ⟨h5,h3⟩:=Chk_iff.1 h3
     have h5:=of_decide_eq_true h5
     subst h5
     refine ⟨_,_,st,Pr,h3,Keep.refl _ _ _,A,.win hg,?_⟩
     simp [Instr.sliceAt,run_underlying hu,Instr.sureAddr,h4,Go.sizeOf,typeInfo,g1,g2,addr_add]
   · exact h.elim
 · rename_i _ e hk _
   have hu:=kind_slice hτ hk
   split at h
   · rename_i es size hes hsz
     obtain ⟨te,hte,rfl⟩:=sizeOfT_some hsz
     obtain ⟨ie,z,g1,g2,_⟩:=(hτ _ _ hte).info
     obtain ⟨hs,h⟩:=h
     obtain ⟨a',cap,rfl,hcap,_⟩:=elems_rows A.st hes hx
     obtain ⟨l,m,h1,h2,h3,h4⟩:=run_range (P:=P) (b:=true) hcap h hlo hlo' hhi hhi'
     rw [share_elems hes] at hx'
     refine ⟨_,_,_,Pr',h3,K1,A',hx'.slice_sl hs h1 h2 hcap,?_⟩
     simp [Instr.sliceAt,run_underlying hu,Instr.slice,h4,Go.sizeOf,typeInfo,g1,g2]
   · exact h.elim
 · exact h.elim
end Go.Cod
namespace Go.Cod
open Go
variable [Lam]
structure Grew (w w':World):Prop where
 os:w'.os=w.os
 tape:w'.tape=w.tape
 output:w'.output=w.output
 size:w'.heap.size=w.heap.size+1
 old:∀ b,b < w.heap.size→w'.heap[b]? = w.heap[b]?
omit [Lam] in
theorem grew_alloc (w:World) (o:Obj):Grew w (w.alloc o) :=
 ⟨rfl,rfl,rfl,by simp,fun b hb=>by simp [World.alloc,Array.getElem?_push,-World.alloc_eq]; omega⟩
omit [Lam] in
theorem grew_drew_alloc (w:World) (o:Obj):Grew w (w.drew.alloc o) :=
 ⟨rfl,rfl,rfl,by simp,fun b hb=>by simp [World.alloc,World.drew,Array.getElem?_push,-World.alloc_eq,-World.drew_eq]; omega⟩
omit [Lam] in
theorem cell_of_block {w w':World} {b:Nat} (h:w'.heap[b]? = w.heap[b]?) (n:Nat):w'.cell? ⟨b,n,none⟩=w.cell? ⟨b,n,none⟩:=by
 simp [World.cell?,h]
theorem AR.newObj {w0 mod γ0 Pr0 nt Pr γ fr st a w w'} (A:AR w0 mod γ0 Pr0 nt Pr γ fr st a w) (hw:Grew w w') (o:O) (cap sz:Nat) (ty:TypeId) (cur:Array Value) (f:Nat × Nat)
  (hcur:w'.heap[w.heap.size]? = some (.cells cur ty f)) (hf:∀ n,(n < cur.size∨1 < sz)→¬ (f.1≤n∧n < f.2)) (hcs:cur.size=cap*sz) (hle:o.es.length≤cap) (hmax:cap≤maxLen) (hwid:sz=o.wid) (hsz:∀ e∈o.es,e.length=sz)
  (hlf:∀ e∈o.es,∀ x∈e,x.leaf=true) (hcl:o.box=false→V.clean.cleanLL 0 o.es=true) (hkd:o.kind=.cell)
  (hrow:∀ (i:Nat) e (j:Nat) x,o.es[i]? = some e→e[j]? = some x→∃ u,cur[i*sz+j]? = some u∧Rep Pr γ w x u) :
  ∃ γ' g,γ'=γ++[g]∧g.blk=w.heap.size∧g.len=o.es.length∧g.cap=cap∧g.sz=sz∧Keep Pr Pr γ γ' w w'∧AR w0 mod γ0 Pr0 nt Pr γ' fr (st++[o]) a w'∧γ'[st.length]? = some g:=by
 let g:G:=⟨w.heap.size,o.es.length,cap,sz,ty⟩
 have hk:Keep Pr Pr γ (γ++[g]) w w':=⟨fun _ _ h=>h,fun b n h=>cell_of_block (hw.old b (A.st.low b n h)) n,fun k g' h=>by
  rw [List.getElem?_append_left (List.getElem?_eq_some_iff.1 h).1]; exact h⟩
 have hgl:(γ++[g])[st.length]? = some g:=by rw [← A.st.len]; simp
 refine ⟨γ++[g],g,rfl,rfl,rfl,rfl,rfl,hk,⟨fun k o' q h hq hlv=>?_,A.fr.keep hk,?_,?_⟩,hgl⟩
 · by_cases hlt:k < st.length
   · rw [List.getElem?_append_left hlt] at h
     rw [List.getElem?_append_left (by rw [A.st.len]; exact hlt)] at hq
     exact A.mine k o' q h hq hlv
   · have:k=st.length:=by
      have:=(List.getElem?_eq_some_iff.1 h).1
      simp at this; omega
     subst this
     rw [hgl] at hq; cases hq
     exact .inl A.base.size
 · refine A.st.push (g:=g) ⟨hk,fun k o' g' h1 h2 h3 _=>hw.old _ ((A.st.obj k o' g' h1 h2 h3).lt),fun _ _ _ _ _ _ _ _ h=>h⟩ (fun b n h=>by rw [hw.size]; exact Nat.lt_succ_of_lt (A.st.low b n h)) ?_ (Nat.le_refl _)
   refine ⟨rfl,hwid,hle,hmax,hsz,hlf,⟨cur,f,⟨hcur,hf⟩,hcs,fun i e j x h1 h2=>?_⟩,fun n _ h=>?_,fun _ n h=>?_,hcl,hkd⟩
   · obtain ⟨u,hu,hr⟩:=hrow i e j x h1 h2
     exact ⟨u,hu,hr.keep hk⟩
   · have:=A.st.low _ _ h; simp [g] at this
   · have:=A.st.low _ _ h; simp [g] at this
 · have B:=A.base
   refine ⟨hw.os.trans B.os,hw.tape.trans B.tape,hw.output.trans B.output,by rw [hw.size]; have:=B.size; omega,fun b hb hv=>?_,B.sub,B.new,fun k g' h=>?_⟩
   · rw [hw.old b (Nat.lt_of_lt_of_le hb B.size)]; exact B.old b hb hv
   · exact hk.names k g' (B.names k g' h)
omit [Lam] in
theorem Rep.cellsL {Pr γ w x cv} (h:Rep Pr γ w x cv) (hx:x.cells.all V.leaf=true):RepL Pr γ w x.cells cv.cells.toList∧∀ u∈cv.cells.toList,u.oneCell'=true:=by
 have key:∀ (cs:List V) (us:List Value),cs.all V.leaf=true→RepL Pr γ w cs us→∀ u∈us,u.oneCell'=true:=by
  intro cs us hall hr u hu
  obtain ⟨i,hi⟩:=List.getElem?_of_mem hu
  have hlt:i < cs.length:=by rw [hr.1]; exact (List.getElem?_eq_some_iff.1 hi).1
  have:=hr.2 i cs[i] u (by simp [hlt]) hi
  exact this.leaf (List.all_eq_true.1 hall _ (List.getElem_mem hlt))
 have one:∀ {x:V} {cv:Value},Rep Pr γ w x cv→x.cells=[x]→cv.cells=#[cv]→x.cells.all V.leaf=true→RepL Pr γ w x.cells cv.cells.toList∧∀ u∈cv.cells.toList,u.oneCell'=true:=by
  intro x cv h h1 h2 hl
  have:RepL Pr γ w x.cells cv.cells.toList:=by rw [h1,h2]; exact RepL.cons h RepL.nil
  exact ⟨this,key _ _ hl this⟩
 cases h with
 | agg hl hr=>exact ⟨⟨by simpa [V.cells,Value.cells] using hl,by simpa [V.cells,Value.cells] using hr⟩,key _ _ hx ⟨by simpa [V.cells,Value.cells] using hl,by simpa [V.cells,Value.cells] using hr⟩⟩
 | raw =>
   have hv:cv.oneCell'=true:=by simpa [V.cells,V.leaf] using hx
   have:cv.cells=#[cv]:=by cases cv <;> simp_all [Value.cells,Value.oneCell']
   exact one (.raw cv) rfl this hx
 | map a=>exact one (.map a) rfl rfl hx
 | yld a=>exact one (.yld a) rfl rfl hx
 | iface a=>exact one (.iface a) rfl rfl hx
 | meth a=>exact one (.meth a) rfl rfl hx
 | bnd a=>exact one (.bnd a) rfl rfl hx
 | any hv =>
   have:cv.cells=#[cv]:=by cases cv <;> simp_all [Value.cells,Value.oneCell']
   exact one (.any hv) rfl this hx
 | bool b=>exact one (.bool b) rfl rfl hx
 | int k n=>exact one (.int k n) rfl rfl hx
 | str s=>exact one (.str s) rfl rfl hx
 | tup _ _=>simp [V.cells,V.leaf] at hx
 | nils a=>exact one (.nils a) rfl rfl hx
 | sl0 a c=>exact one (.sl0 a c) rfl rfl hx
 | sl u a b c d e f=>exact one (.sl u a b c d e f) rfl rfl hx
 | own a=>exact one (.own a) rfl rfl hx
 | ptr a=>exact one (.ptr a) rfl rfl hx
 | win a=>exact one (.win a) rfl rfl hx
 | cptr a=>exact one (.cptr a) rfl rfl hx
 | rptr u a b c=>exact one (.rptr u a b c) rfl rfl hx
 | dref b n c=>exact one (.dref b n c) rfl rfl hx
 | dptr b n c d=>exact one (.dptr b n c d) rfl rfl hx
 | fn a b=>exact one (.fn a b) rfl rfl hx
theorem aBox_sound {P:Program} {t:TypeId} {x:V} {K:V→St→Prop} {w0 mod γ0 Pr0 nt Pr γ fr st a w} (A:AR w0 mod γ0 Pr0 nt Pr γ fr st a w) {cx:Value}
  (hl:x.cells.all V.leaf=true) (h:K (.ptr st.length 0 0) (st++[newO [x.cells] x.cells.length true])) (hx:Rep Pr γ w x cx) :
  ∃ v cv st' γ' w',K v st'∧Keep Pr Pr γ γ' w w'∧AR w0 mod γ0 Pr0 nt Pr γ' fr st' a w'∧Rep Pr γ' w' v cv∧(Instr.box t cx).run P w=.ok cv w':=by
 obtain ⟨⟨h1,h2⟩,h3⟩:=hx.cellsL hl
 have h1':x.cells.length=cx.cells.size:=by simpa using h1
 obtain ⟨γ',g,_,hb,_,_,_,hk,A',hg⟩:=A.newObj (grew_alloc w (.cells cx.cells t)) (newO [x.cells] x.cells.length true) 1 x.cells.length t cx.cells (0,0) (by simp [World.alloc,-World.alloc_eq]) (by simp) (by simp [h1']) (by simp [newO]) (by simp [maxLen]) rfl (by simp [newO])
  (by simpa [newO] using hl) (by simp [newO]) rfl (fun i e j y a b=>by
    match i,a with
    | 0,a =>
      simp [newO] at a; subst a
      have hj:j < cx.cells.toList.length:=by rw [← h1]; exact (List.getElem?_eq_some_iff.1 b).1
      refine ⟨cx.cells.toList[j],by simp at hj; simp [hj],h2 j y _ b (by simp)⟩
    | i+1,a=>simp [newO] at a)
 refine ⟨_,_,_,γ',_,h,hk,A',.ptr (i:=0) (j:=0) hg,?_⟩
 simp [Instr.box,newVar,newRow,hb]
theorem aAlloc_sound {P:Program} {τ:Tau} (hτ:TauOk P τ) {t:TypeId} {ti:TI} (hti:τ t=some ti) {K:V→St→Prop} {w0 mod γ0 Pr0 nt Pr γ fr st a w} (A:AR w0 mod γ0 Pr0 nt Pr γ fr st a w)
  (hl:ti.zero.cells.all V.leaf=true) (h:K (.ptr st.length 0 0) (st++[newO [ti.zero.cells] ti.zero.cells.length true])) :
  ∃ v cv st' γ' w',K v st'∧Keep Pr Pr γ γ' w w'∧AR w0 mod γ0 Pr0 nt Pr γ' fr st' a w'∧Rep Pr γ' w' v cv∧(Instr.alloc t true (.tuple #[])).run P w=.ok cv w':=by
 obtain ⟨i,z,g1,_,_,g4,g5⟩:=(hτ _ _ hti).info
 obtain ⟨v,cv,st',γ',w',h1,h2,h3,h4,h5⟩:=aBox_sound (P:=P) (t:=t) A hl h (Rep.zero _ z g5)
 refine ⟨v,cv,st',γ',w',h1,h2,h3,h4,?_⟩
 rw [← h5]
 simp [Instr.alloc,Instr.box,zeroValue,typeInfo,g1,g4]
end Go.Cod
namespace Go.Cod
open Go
variable [Lam]
structure OnlyB (g:Nat) (w w':World):Prop where
 os:w'.os=w.os
 tape:w'.tape=w.tape
 output:w'.output=w.output
 size:w'.heap.size=w.heap.size
 old:∀ b,b≠g→w'.heap[b]? = w.heap[b]?
omit [Lam] in
theorem OnlyB.refl (g w):OnlyB g w w:=⟨rfl,rfl,rfl,rfl,fun _ _=>rfl⟩
omit [Lam] in
theorem OnlyB.trans {g w w' w''} (A:OnlyB g w w') (B:OnlyB g w' w''):OnlyB g w w'' :=
 ⟨B.os.trans A.os,B.tape.trans A.tape,B.output.trans A.output,B.size.trans A.size,fun b h=>(B.old b h).trans (A.old b h)⟩
def Unfrozen (cur:Array Value) (f:Nat × Nat):Prop:=∀ n,n < cur.size→¬ (f.1≤n∧n < f.2)
omit [Lam] in
theorem run_storeRow (P:Program) (g o:Nat) (ty:TypeId) (f:Nat × Nat):∀ (vs:List Value) (i:Nat) (cur:Array Value) (w:World),w.heap[g]? = some (.cells cur ty f)→Unfrozen cur f→o+i+vs.length≤cur.size→(∀ v∈vs,v.oneCell'=true) →
  ∃ w' cur',(storeCells ⟨g,o,none⟩ vs i).run P w=.ok () w'∧OnlyB g w w'∧w'.heap[g]? = some (.cells cur' ty f)∧cur'.size=cur.size ∧
    ∀ n,cur'[n]? = if o+i≤n∧n < o+i+vs.length then vs[n - (o+i)]? else cur[n]?
 | [],i,cur,w,hg,_,_,_=>⟨w,cur,rfl,OnlyB.refl _ _,hg,rfl,fun n=>by rw [if_neg (by simp)]⟩
 | v::r,i,cur,w,hg,hf,hl,h1=>by
   simp only [List.length_cons] at hl
   have hcell:w.cell? ⟨g,o+i,none⟩=some cur[o+i]:=by simp [World.cell?,hg,show o+i < cur.size by omega]
   have hfr:w.frozen? ⟨g,o+i,none⟩=false:=by
    have:=hf (o+i) (by omega)
    simp only [World.frozen?,hg]
    simpa using this
   have hst:(store ((⟨g,o,none⟩:Addr).add i) v).run P w=.ok () (w.setCell ⟨g,o+i,none⟩ v):=by
    rw [addr_add,run_store P w _ v _ (h1 v (by simp)),hcell]
    simp [hfr]
   have hg':(w.setCell ⟨g,o+i,none⟩ v).heap[g]? = some (.cells (cur.setIfInBounds (o+i) v) ty f):=by
    simp [World.setCell,Array.getElem?_modify,hg]
   have hO1:OnlyB g w (w.setCell ⟨g,o+i,none⟩ v):=⟨rfl,rfl,rfl,by simp,fun b hb=>by simp [World.setCell,Array.getElem?_modify,Ne.symm hb]⟩
   obtain ⟨w',cur',a1,a2,a3,a4,a5⟩:=run_storeRow P g o ty f r (i+1) (cur.setIfInBounds (o+i) v) (w.setCell ⟨g,o+i,none⟩ v) hg' (fun n hn=>hf n (by simpa using hn)) (by simp; omega) (fun u hu=>h1 u (by simp [hu]))
   refine ⟨w',cur',?_,hO1.trans a2,a3,by simpa using a4,fun n=>?_⟩
   · simp only [storeCells,Sem.run_bind,hst,Result.andThen_ok,a1]
   · rw [a5 n]
     simp only [List.length_cons]
     by_cases e:o+(i+1)≤n∧n < o+(i+1)+r.length
     · rw [if_pos e,if_pos (by omega),show n - (o+i)=(n - (o+(i+1)))+1 by omega]; rfl
     · rw [if_neg e]
       by_cases e2:n=o+i
       · subst e2
         rw [if_pos (by omega)]
         simp [show o+i < cur.size by omega]
       · rw [if_neg (by omega)]
         simp [Ne.symm e2]
theorem Stepd.ofOnly {Pr γ st w w' k} {o:O} {g:G} (hst:StOk Pr γ w st) (hk:st[k]? = some o) (hg:γ[k]? = some g) (hl:o.live=true) (hO:OnlyB g.blk w w') (hp:∀ n,Pr g.blk n→w'.cell? ⟨g.blk,n,none⟩=w.cell? ⟨g.blk,n,none⟩) :
  Stepd Pr Pr γ γ st w w' (some k) where
 sub:=fun _ _ h=>h
 cell:=fun b n h=>by
  by_cases e:b=g.blk
  · subst e; exact hp n h
  · exact cell_of_block (hO.old b e) n
 names:=fun _ _ h=>h
 heap:=fun j o' g' hj hg' hl' hne=>hO.old _ (fun e=>hne (by rw [hst.one k j o o' g g' hk hj hg hg' hl hl' e.symm]))
 unp:=fun _ _ _ _ _ _ _ _ h=>h
omit [Lam] in
theorem Base.only {w0 mod γ0 Pr0 Pr γ w w' b} (B:Base w0 mod γ0 Pr0 Pr γ w) (hO:OnlyB b w w') (hb:w0.heap.size≤b∨mod b):Base w0 mod γ0 Pr0 Pr γ w' where
 os:=hO.os.trans B.os
 tape:=hO.tape.trans B.tape
 output:=hO.output.trans B.output
 size:=by rw [hO.size]; exact B.size
 old:=fun c hc hv=>by
  rw [hO.old c (fun e=>?_)]
  · exact B.old c hc hv
  · subst e
    rcases hb with hb | hb
    · omega
    · exact hv hb
 sub:=B.sub
 new:=B.new
 names:=B.names
omit [Lam] in
theorem splice_get (e cs:List V) (j n:Nat) (h:j+cs.length≤e.length):(splice e j cs)[n]? = if j≤n∧n < j+cs.length then cs[n - j]? else e[n]? := by
 unfold splice
 by_cases h1:n < j
 · rw [List.getElem?_append_left (by simp; omega),List.getElem?_take,if_pos h1,if_neg (by omega)]
 · rw [List.getElem?_append_right (by simp; omega)]
   have:(e.take j).length=j:=by simp; omega
   rw [this]
   by_cases h2:n < j+cs.length
   · rw [List.getElem?_append_left (by omega),if_pos (by omega)]
   · rw [List.getElem?_append_right (by omega),if_neg (by omega),List.getElem?_drop]
     congr 1; omega
omit [Lam] in
theorem splice_len (e cs:List V) (j:Nat) (h:j+cs.length≤e.length):(splice e j cs).length=e.length:=by
 simp [splice]; omega
omit [Lam] in
theorem idx_lt {i j n c:Nat} (hi:i < n) (hj:j < c):i*c+j < n*c:=by
 calc i*c+j < i*c+c:=by omega
  _=(i+1)*c:=by rw [Nat.add_mul]; omega
  _≤n*c:=Nat.mul_le_mul_right _ hi
theorem aStore_sound0 {P:Program} {τ:Tau} (hτ:TauOk P τ) {t:TypeId} {p v:V} {st:St} {K:St→Prop} {w0 mod γ0 Pr0 nt Pr γ fr a w} (A:AR w0 mod γ0 Pr0 nt Pr γ fr st a w)
  {cp cv:Value} (hnd:∀ b sz i j,p≠.dptr b sz i j) (hnc:∀ k j,p≠.cptr k j) (h:aStore τ t p v st K) (hp:Rep Pr γ w p cp) (hv:Rep Pr γ w v cv) :
  ∃ st' w',K st'∧Keep Pr Pr γ γ w w'∧AR w0 mod γ0 Pr0 nt Pr γ fr st' a w'∧(Instr.storeAt t cp cv).run P w=.ok () w':=by
 unfold aStore at h
 simp only [atRow_iff,Chk_iff,decide_eq_true_eq,Bool.or_eq_true] at h
 split at h
 · rename_i ti k i j hti
   have ht:=hτ _ _ hti
   split at h
   · exact h.elim
   rename_i o ho
   obtain ⟨hlive,hexcl,hbx,hleaf,hlen,e,he,hfit,h⟩:=h
   cases hp with
   | ptr hg =>
     rename_i g
     have H:=A.st.obj k o g ho hg hlive
     obtain ⟨⟨r1,r2⟩,r3⟩:=hv.cellsL hleaf
     have hsz:e.length=g.sz:=H.sz e (List.mem_of_getElem? he)
     have hi:i < o.es.length:=(List.getElem?_eq_some_iff.1 he).1
     obtain ⟨cur,f,⟨c1,c2⟩,c3,c4⟩:=H.row
     have hvl:cv.cells.toList.length=ti.size:=by rw [← r1,hlen]
     have hroom:i*g.sz+j+0+cv.cells.toList.length≤cur.size:=by
      rw [c3,hvl]
      have h1:(i+1)*g.sz≤g.cap*g.sz:=Nat.mul_le_mul_right _ (by have:=H.len; have:=H.le; omega)
      rw [Nat.add_mul] at h1
      omega
     obtain ⟨w',cur',s1,s2,s3,s4,s5⟩:=run_storeRow P g.blk (i*g.sz+j) g.ty f cv.cells.toList 0 cur w c1 (fun n hn=>c2 n (.inl hn)) hroom r3
     have hu:∀ n,¬ Pr g.blk n:=H.excl hexcl
     have S:=Stepd.ofOnly A.st ho hg hlive s2 (fun n hn=>absurd hn (hu n))
     have hlen':v.cells.length=ti.size:=hlen
     have hO:ObjOk Pr γ w' { o with es:=o.es.set i (splice e j v.cells) } g:=by
      refine ⟨by simp [H.len],H.wid,H.le,H.max,fun e' he'=>?_,fun e' he' x hx=>?_,⟨cur',f,⟨s3,fun n hn=>c2 n (by rw [← s4]; exact hn)⟩,by rw [s4,c3],fun i' e' j' x a b=>?_⟩,fun n _=>hu n,fun _=>hu,fun hb=>?_,H.kd⟩
      · rcases List.mem_or_eq_of_mem_set he' with h' | rfl
        · exact H.sz _ h'
        · rw [splice_len _ _ _ (by omega),hsz]
      · rcases List.mem_or_eq_of_mem_set he' with h' | rfl
        · exact H.lf _ h' x hx
        · have hx':x∈e∨x∈v.cells:=by
           simp only [splice,List.mem_append] at hx
           rcases hx with h' | h' | h'
           · exact .inl (List.mem_of_mem_take h')
           · exact .inr h'
           · exact .inl (List.mem_of_mem_drop h')
          rcases hx' with h' | h'
          · exact H.lf e (List.mem_of_getElem? he) x h'
          · exact List.all_eq_true.1 hleaf x h'
      · simp only at a
        rw [List.getElem?_set] at a
        have hj':j' < g.sz:=by
         have hm:e'∈o.es∨e'=splice e j v.cells:=by
          by_cases ei:i=i'
          · subst ei
            simp [hi] at a
            exact .inr a.symm
          · simp [ei] at a
            exact .inl (List.mem_of_getElem? a)
         rcases hm with h' | rfl
         · rw [← H.sz e' h']; exact (List.getElem?_eq_some_iff.1 b).1
         · rw [← hsz,← splice_len e v.cells j (by omega)]; exact (List.getElem?_eq_some_iff.1 b).1
        by_cases ei:i=i'
        · subst ei
          simp [hi] at a
          subst a
          rw [splice_get _ _ _ _ (by omega)] at b
          by_cases hin:j≤j'∧j' < j+v.cells.length
          · rw [if_pos hin] at b
            have hlt:j' - j < cv.cells.toList.length:=by omega
            refine ⟨cv.cells.toList[j' - j],?_,(r2 _ x _ b (by simp)).keep S.toKeep⟩
            rw [s5,if_pos (by omega),show i*g.sz+j' - (i*g.sz+j+0)=j' - j by omega]
            simp
          · rw [if_neg hin] at b
            obtain ⟨u,hu',hr⟩:=c4 i e j' x he b
            exact ⟨u,by rw [s5,if_neg (by omega)]; exact hu',hr.keep S.toKeep⟩
        · simp [ei] at a
          obtain ⟨u,hu',hr⟩:=c4 i' e' j' x a b
          refine ⟨u,?_,hr.keep S.toKeep⟩
          rw [s5,if_neg ?_]
          · exact hu'
          · have hi':i' < o.es.length:=(List.getElem?_eq_some_iff.1 a).1
            rcases Nat.lt_or_ge i i' with hlt | hge
            · have:(i+1)*g.sz≤i'*g.sz:=Nat.mul_le_mul_right _ hlt
              rw [Nat.add_mul] at this; omega
            · have:(i'+1)*g.sz≤i*g.sz:=Nat.mul_le_mul_right _ (by omega)
              rw [Nat.add_mul] at this; omega
      · rcases hbx with h' | h'
        · simp only at hb; rw [h'] at hb; cases hb
        · have key:∀ (es:List (List V)),V.clean.cleanLL 0 es=true↔∀ e∈es,V.clean.cleanL 0 e=true:=by
           intro es
           induction es with
           | nil=>simp [V.clean.cleanLL]
           | cons e es ih=>simp [V.clean.cleanLL,ih]
          have keyL:∀ (es:List V),V.clean.cleanL 0 es=true↔∀ e∈es,e.clean 0=true:=by
           intro es
           induction es with
           | nil=>simp [V.clean.cleanL]
           | cons e es ih=>simp [V.clean.cleanL,ih]
          rw [key]
          intro e' he'
          have hold:=(key _).1 (H.cl hb)
          rcases List.mem_or_eq_of_mem_set he' with h'' | rfl
          · exact hold _ h''
          · rw [keyL]
            intro x hx
            simp only [splice,List.mem_append] at hx
            rcases hx with h1 | h1 | h1
            · exact (keyL _).1 (hold e (List.mem_of_getElem? he)) x (List.mem_of_mem_take h1)
            · exact (keyL _).1 h' x h1
            · exact (keyL _).1 (hold e (List.mem_of_getElem? he)) x (List.mem_of_mem_drop h1)
     refine ⟨_,w',h,S.toKeep,⟨fun k' o' q hk' hq hlv=>?_,A.fr.keep S.toKeep,A.st.set ho hg hlive S (fun b n hp=>by rw [s2.size]; exact A.st.low b n hp) (fun _=>hO),A.base.only s2 (A.mine k o g ho hg hlive)⟩,?_⟩
     · rw [List.getElem?_set] at hk'
       by_cases ek:k=k'
       · subst ek
         rw [hg] at hq; cases hq
         exact A.mine k o g ho hg hlive
       · simp [ek] at hk'
         exact A.mine k' o' q hk' hq hlv
     · have hcs:cv.cells.size=ti.size:=by simpa using hvl
       simp only [Instr.storeAt,Instr.sureAddr,storeVar,Sem.run_bind,Sem.run_pure,Result.andThen_ok,ht.sizeOf,hcs,ne_eq,not_true_eq_false,if_false,s1]
 · exact absurd rfl (hnc _ _)
 · exact absurd rfl (hnd _ _ _ _)
 · exact h.elim
omit [Lam] in
theorem splice_one {e:List V} {j:Nat} {v:V} (hj:j+1≤e.length):splice e j [v]=e.set j v:=by
 rw [List.set_eq_take_append_cons_drop,if_pos (by omega)]
 rfl
omit [Lam] in
theorem cells_leaf {v:V} (h:v.leaf=true):v.cells=[v]:=by
 cases v <;> first | rfl | simp [V.leaf] at h
omit [Lam] in
theorem aStore_cptr {τ:Tau} {t:TypeId} {k j:Nat} {v:V} {st:St} {K:St→Prop} (h:aStore τ t (.cptr k j) v st K):aStore τ t (.ptr k 0 j) v st K:=by
 unfold aStore at h ⊢
 cases hti:τ t with
 | none=>rw [hti] at h; exact h
 | some ti =>
   rw [hti] at h
   simp only [Chk_iff,decide_eq_true_eq] at h
   obtain ⟨o,e,e',ho,he,hj,rfl,hs,hl,hx,hb,hc,hlf,h⟩:=h
   simp only [ho,atRow_iff,Chk_iff,decide_eq_true_eq]
   have hv:=cells_leaf hlf
   refine ⟨hl,hx,by rw [hb]; rfl,by rw [hv]; simp [hlf],by rw [hv,hs]; rfl,e,he,by omega,?_⟩
   rw [hv,splice_one hj]
   exact h
omit [Lam] in
theorem Rep.cptr_ptr {Pr:Nat→Nat→Prop} {γ:List G} {w:World} {k j:Nat} {c:Value} (h:Rep Pr γ w (.cptr k j) c):Rep Pr γ w (.ptr k 0 j) c:=by
 cases h with
 | cptr hg =>
   have:=Rep.ptr (Pr:=Pr) (w:=w) (i:=0) (j:=j) hg
   rw [Nat.zero_mul,Nat.zero_add] at this
   exact this
theorem aStore_sound {P:Program} {τ:Tau} (hτ:TauOk P τ) {t:TypeId} {p v:V} {st:St} {K:St→Prop} {w0 mod γ0 Pr0 nt Pr γ fr a w} (A:AR w0 mod γ0 Pr0 nt Pr γ fr st a w)
  {cp cv:Value} (hnd:∀ b sz i j,p≠.dptr b sz i j) (h:aStore τ t p v st K) (hp:Rep Pr γ w p cp) (hv:Rep Pr γ w v cv) :
  ∃ st' w',K st'∧Keep Pr Pr γ γ w w'∧AR w0 mod γ0 Pr0 nt Pr γ fr st' a w'∧(Instr.storeAt t cp cv).run P w=.ok () w':=by
 by_cases hc:∃ k j,p=.cptr k j
 · obtain ⟨k,j,rfl⟩:=hc
   exact aStore_sound0 hτ A (by simp) (by simp) (aStore_cptr h) hp.cptr_ptr hv
 · exact aStore_sound0 hτ A hnd (fun k j e=>hc ⟨k,j,e⟩) h hp hv
end Go.Cod
namespace Go.Cod
open Go
variable [Lam]
theorem StOk.move {Pr γ w w' st} (h:StOk Pr γ w st) {k:Nat} {o o':O} {g g':G} (hk:st[k]? = some o) (hg:γ[k]? = some g) (hl:o.live=true)
  (S:Stepd Pr Pr γ (γ++[g']) st w w' (some k)) (hs:w.heap.size≤w'.heap.size) (hb:g'.blk=g.blk) (ho:ObjOk Pr (γ++[g']) w' o' g'):StOk Pr (γ++[g']) w' (st.set k { o with live:=false }++[o']):=by
 have key:∀ (j:Nat) p q,(st.set k { o with live:=false }++[o'])[j]? = some p→(γ++[g'])[j]? = some q→p.live=true→(j < st.length∧j≠k∧st[j]? = some p∧γ[j]? = some q)∨(j=st.length∧p=o'∧q=g'):=by
  intro j p q hj hq hp
  by_cases hlt:j < st.length
  · rw [List.getElem?_append_left (by simpa using hlt),List.getElem?_set] at hj
    rw [List.getElem?_append_left (by rw [h.len]; exact hlt)] at hq
    by_cases e:k=j
    · subst e
      simp [hlt] at hj
      subst hj
      simp at hp
    · simp [e] at hj
      exact .inl ⟨hlt,Ne.symm e,hj,hq⟩
  · have:j=st.length:=by
     have:=(List.getElem?_eq_some_iff.1 hj).1
     simp at this; omega
    subst this
    rw [List.getElem?_append_right (by simp)] at hj
    rw [← h.len,List.getElem?_append_right (Nat.le_refl _)] at hq
    simp at hj hq
    exact .inr ⟨rfl,hj.symm,hq.symm⟩
 refine ⟨by simp [h.len],fun j p q hj hq hp=>?_,fun i j p p' q q' hi hj hq hq' hp hp' he=>?_,fun b n hp=>Nat.lt_of_lt_of_le (h.low b n hp) hs,h.laid.keep S.toKeep⟩
 · rcases key j p q hj hq hp with ⟨_,hne,h1,h2⟩ | ⟨_,rfl,rfl⟩
   · exact (h.obj j p q h1 h2 hp).stepd S h1 h2 hp (by simpa using Ne.symm hne)
   · exact ho
 · rcases key i p q hi hq hp with ⟨a1,a2,a3,a4⟩ | ⟨a1,rfl,rfl⟩ <;> rcases key j p' q' hj hq' hp' with ⟨b1,b2,b3,b4⟩ | ⟨b1,rfl,rfl⟩
   · exact h.one i j p p' q q' a3 b3 a4 b4 hp hp' he
   · exact absurd (h.one i k p o q g a3 hk a4 hg hp hl (he.trans hb)) a2
   · exact absurd (h.one j k p' o q' g b3 hk b4 hg hp' hl (he.symm.trans hb)) b2
   · omega
theorem AR.kill {w0 mod γ0 Pr0 nt Pr γ fr st a w} (A:AR w0 mod γ0 Pr0 nt Pr γ fr st a w) {k:Nat} {o:O} (hk:st[k]? = some o) (_:o.box=false) (hl:o.live=true):AR w0 mod γ0 Pr0 nt Pr γ fr (st.set k { o with live:=false }) a w:=by
 obtain ⟨g,hg⟩:=A.st.at hk
 refine ⟨fun j p q hj hq hlv=>?_,A.fr,A.st.set hk hg hl ⟨Keep.refl _ _ _,fun _ _ _ _ _ _ _=>rfl,fun _ _ _ _ _ _ _ _ h=>h⟩ A.st.low (fun h=>by simp at h),A.base⟩
 rw [List.getElem?_set] at hj
 by_cases e:k=j
 · subst e
   have:k < st.length:=(List.getElem?_eq_some_iff.1 hk).1
   simp [this] at hj
   subst hj; simp at hlv
 · simp [e] at hj; exact A.mine j p q hj hq hlv
omit [Lam] in
theorem Base.push {w0 mod γ0 Pr0 Pr γ w} (B:Base w0 mod γ0 Pr0 Pr γ w) (g:G):Base w0 mod γ0 Pr0 Pr (γ++[g]) w where
 os:=B.os
 tape:=B.tape
 output:=B.output
 size:=B.size
 old:=B.old
 sub:=B.sub
 new:=B.new
 names:=fun k g' h=>by
  have:=B.names k g' h
  rw [List.getElem?_append_left (List.getElem?_eq_some_iff.1 this).1]; exact this
def flat (c:Nat) (es:List (List V)) (us:List Value) (Pr:Nat→Nat→Prop) (γ:List G) (w:World):Prop :=
 us.length=es.length*c∧∀ (i:Nat) e (j:Nat) x,es[i]? = some e→e[j]? = some x→∃ u,us[i*c+j]? = some u∧Rep Pr γ w x u
omit [Lam] in
theorem SRows.flat {Pr γ w es b off c} (R:SRows Pr γ w es b off c):∃ us,flat c es us Pr γ w∧(∀ u∈us,u.oneCell'=true)∧∀ (j:Nat) u,us[j]? = some u→w.cell? ⟨b,off+j,none⟩=some u:=by
 have hex:∀ n,∃ u:Value,n < es.length*c→(w.cell? ⟨b,off+n,none⟩=some u∧∀ i j e x,n=i*c+j→es[i]? = some e→e[j]? = some x→Rep Pr γ w x u):=by
  intro n
  by_cases hn:n < es.length*c
  · have hc:0 < c:=by
     rcases Nat.eq_zero_or_pos c with h | h
     · subst h; simp at hn
     · exact h
    have hi:n / c < es.length:=Nat.div_lt_of_lt_mul (by rw [Nat.mul_comm]; exact hn)
    have hel:es[n / c].length=c:=R.wid _ (List.getElem_mem hi)
    have hj:n % c < es[n / c].length:=by rw [hel]; exact Nat.mod_lt _ hc
    obtain ⟨u,h1,h2⟩:=R.lies (n / c) es[n / c] (by simp [hi]) (n % c) es[n / c][n % c] (by simp [hj])
    refine ⟨u,fun _=>⟨by rw [← h1]; congr 2; have:=Nat.div_add_mod n c; rw [Nat.mul_comm] at this; omega,fun i j e x hn' he hx=>?_⟩⟩
    have hj':j < c:=by rw [← R.wid e (List.mem_of_getElem? he)]; exact (List.getElem?_eq_some_iff.1 hx).1
    have e1:n / c=i:=by rw [hn',Nat.mul_comm,Nat.mul_add_div hc]; rw [Nat.div_eq_of_lt hj']; omega
    have e2:n % c=j:=by rw [hn',Nat.mul_comm,Nat.mul_add_mod]; exact Nat.mod_eq_of_lt hj'
    subst e1; subst e2
    simp [hi] at he
    subst he
    simp [hj] at hx
    subst hx
    exact h2
  · exact ⟨.nilFunc,fun h=>absurd h hn⟩
 obtain ⟨f,hf⟩:=Classical.axiomOfChoice hex
 have hget:∀ n u,((List.range (es.length*c)).map f)[n]? = some u→n < es.length*c∧u=f n:=by
  intro n u h
  have hlt:n < es.length*c:=by have:=(List.getElem?_eq_some_iff.1 h).1; simpa using this
  simp [hlt] at h
  exact ⟨hlt,h.symm⟩
 refine ⟨(List.range (es.length*c)).map f,⟨by simp,fun i e j x a b=>?_⟩,fun u hu=>?_,fun j u h=>?_⟩
 · have hi:i < es.length:=(List.getElem?_eq_some_iff.1 a).1
   have hj:j < c:=by rw [← R.wid e (List.mem_of_getElem? a)]; exact (List.getElem?_eq_some_iff.1 b).1
   have hlt:=idx_lt hi hj
   exact ⟨f (i*c+j),by simp [hlt],(hf _ hlt).2 i j e x rfl a b⟩
 · obtain ⟨n,hn⟩:=List.getElem?_of_mem hu
   obtain ⟨hlt,rfl⟩:=hget n u hn
   have hc:0 < c:=by
    rcases Nat.eq_zero_or_pos c with h | h
    · subst h; simp at hlt
    · exact h
   have hi:n / c < es.length:=Nat.div_lt_of_lt_mul (by rw [Nat.mul_comm]; exact hlt)
   have hel:es[n / c].length=c:=R.wid _ (List.getElem_mem hi)
   have hj:n % c < es[n / c].length:=by rw [hel]; exact Nat.mod_lt _ hc
   have:=(hf n hlt).2 (n / c) (n % c) es[n / c] es[n / c][n % c] (by have:=Nat.div_add_mod n c; rw [Nat.mul_comm] at this; omega) (by simp [hi]) (by simp [hj])
   exact this.leaf (R.lf _ (List.getElem_mem hi) _ (List.getElem_mem hj))
 · obtain ⟨hlt,rfl⟩:=hget j u h
   exact (hf j hlt).1
end Go.Cod
namespace Go.Cod
open Go
variable [Lam]
omit [Lam] in
theorem run_append_place {P:Program} {t u e:TypeId} {ie:TypeInfo} {d:TypeDesc} {w w':World} (ht:P.underlying t=some (.slice e)) (he:P.info? e=some ie) (hu:P.underlying u=some d) (hd:∀ k,d≠.int k) {ty:TypeId}
  {base:Option Addr} {sLen sCap m:Nat} {cx:Value} {news:List Value} (hlen:(Builtin.lenOf cx).run P w=.ok m w) (hnew:(Builtin.firstCells ie.size m cx).run P w=.ok news.toArray w) (hroom:sLen+m≤sCap)
  (hst:∀ a,base=some a→(storeCells (a.add (sLen*ie.size)) news).run P w=.ok () w') (hno:base=none→w'=w) :
  (Builtin.append_ #[t,u] ty #[.slice base sLen sCap,cx]).run P w=.ok (.slice base (sLen+m) sCap) w':=by
 cases base with
 | none =>
   rw [hno rfl]
   simp [Builtin.append_,run_underlying ht,run_underlying hu,Go.sizeOf,typeInfo,he,hlen,hroom,hnew]
 | some a =>
   have:=hst a rfl
   simp [Builtin.append_,run_underlying ht,run_underlying hu,Go.sizeOf,typeInfo,he,hlen,hroom,hnew,this]
omit [Lam] in
theorem run_append_grows {P:Program} {t u e:TypeId} {ie:TypeInfo} {z:Value} {d:TypeDesc} {w:World} (ht:P.underlying t=some (.slice e)) (he:P.info? e=some ie) (hzero:ie.zero=some z) (hu:P.underlying u=some d) (hd:∀ k,d≠.int k) {ty:TypeId}
  {base:Option Addr} {sLen sCap m:Nat} {cx:Value} {news olds:List Value} (hlen:(Builtin.lenOf cx).run P w=.ok m w) (hnew:∀ w1:World,(∀ a,w1.cell? a=w.cell? a)→(Builtin.firstCells ie.size m cx).run P w1=.ok news.toArray w1)
  (hold:∀ w1:World,(∀ a,w1.cell? a=w.cell? a)→(Builtin.firstCells ie.size sLen (.slice base sLen sCap)).run P w1=.ok olds.toArray w1) (hroom:sCap < sLen+m) (hby:0 < ie.bytes) (hfit:(sLen+m)*ie.bytes≤140737488355328) :
  (Builtin.append_ #[t,u] ty #[.slice base sLen sCap,cx]).run P w=.ok (.slice (some ⟨w.heap.size,0,none⟩) (sLen+m) (grownCap w (sLen+m) sCap e))
    (w.drew.alloc (.cells (olds.toArray++news.toArray++Builtin.zeroCells z.cells (grownCap w (sLen+m) sCap e - (sLen+m))) e)):=by
 have hn:¬ (sLen+m≤sCap):=by omega
 have h0:ie.bytes≠0:=by omega
 have h48':¬ (281474976710656 < Builtin.nextslicecap (sLen+m) sCap*ie.bytes):=by
  have:=growslice_fits hroom hfit; omega
 have h1:=hnew w.drew (fun _=>rfl)
 have h2:=hold w.drew (fun _=>rfl)
 simp [Builtin.append_,run_underlying ht,run_underlying hu,Go.sizeOf,typeInfo,zeroValue,he,hzero,hlen,hn,h0,h48',Question.forced,h1,h2,newRow,grownCap]
 congr 2
 apply Array.ext'
 simp [List.append_assoc]
theorem more_run {P:Program} {st:St} {Pr γ w} (hst:StOk Pr γ w st) {k:TK} {x:V} {cx:Value} {ms:List (List V)} {size:Nat} (h:moreOf st k x=some ms) (hs:∀ m∈ms,m.length=size) (h1:k=.int .u8→size=1) (hx:Rep Pr γ w x cx) :
  ∃ news,flat size ms news Pr γ w∧(∀ u∈news,u.oneCell'=true)∧(∀ w1:World,(Builtin.lenOf cx).run P w1=.ok ms.length w1) ∧
    (∀ w1:World,(∀ a,w1.cell? a=w.cell? a)→(Builtin.firstCells size ms.length cx).run P w1=.ok news.toArray w1)∧(∀ e∈ms,∀ y∈e,y.leaf=true):=by
 have viaElems:elems st x=some ms→∃ news,flat size ms news Pr γ w∧(∀ u∈news,u.oneCell'=true)∧(∀ w1:World,(Builtin.lenOf cx).run P w1=.ok ms.length w1) ∧
   (∀ w1:World,(∀ a,w1.cell? a=w.cell? a)→(Builtin.firstCells size ms.length cx).run P w1=.ok news.toArray w1)∧(∀ e∈ms,∀ y∈e,y.leaf=true):=by
  intro h
  obtain ⟨a,cap,rfl,_,hR⟩:=elems_rows hst h hx
  by_cases hz:ms=[]
  · subst hz
    refine ⟨[],⟨by simp,fun i e j x a=>by simp at a⟩,by simp,fun w1=>by simp [Builtin.lenOf],fun w1 _=>?_,by simp⟩
    cases a <;> simp [Builtin.firstCells,loadCells,loadCellsFrom]
  · obtain ⟨b,off,c,rfl,R⟩:=hR hz
    obtain ⟨us,f1,f2,f3⟩:=R.flat
    have hc:c=size:=by
     obtain ⟨e,he⟩:=List.exists_mem_of_ne_nil _ hz
     rw [← R.wid e he,hs e he]
    subst hc
    refine ⟨us,f1,f2,fun w1=>by simp [Builtin.lenOf],fun w1 hw1=>?_,R.lf⟩
    exact run_firstCells_some w1 c ms.length ⟨b,off,none⟩ _ _ us f1.1 (fun j v hv=>by rw [addr_add,hw1]; exact f3 j v hv)
 unfold moreOf at h
 split at h
 · rename_i s
   split at h
   · rename_i hk
     have:=h1 hk
     subst this
     cases h
     cases hx
     refine ⟨s.map fun b=>.int .u8 b.toNat,⟨by simp,fun i e j x a b=>?_⟩,by simp [Value.oneCell'],fun w1=>by simp [Builtin.lenOf,ba_size],fun w1 _=>?_,by simp [cellB,V.leaf]⟩
     · simp only [List.getElem?_map,Option.map_eq_some_iff] at a
       obtain ⟨c,hc,rfl⟩:=a
       cases j with
       | zero =>
         simp at b; subst b
         exact ⟨.int .u8 c.toNat,by simp [hc],.int _ _⟩
       | succ j=>simp at b
     · simp [Builtin.firstCells,ByteArray.data_extract,List.extract_toArray]
   · cases h
 · exact viaElems h
omit [Lam] in
theorem notInt_desc {P:Program} {τ:Tau} (hτ:TauOk P τ) {u:TypeId} (h:notInt (kindOf τ u)=true):∃ d,P.underlying u=some d∧∀ k,d≠.int k:=by
 unfold notInt at h
 split at h
 · rename_i hk; exact ⟨_,kind_str hτ hk,by simp⟩
 · rename_i e hk; exact ⟨_,kind_slice hτ hk,by simp⟩
 · cases h
omit [Lam] in
theorem zeroCells_size (z:Array Value) (n:Nat):(Builtin.zeroCells z n).size=n*z.size:=by simp [Builtin.zeroCells]
omit [Lam] in
theorem flat.append {c:Nat} {es fs:List (List V)} {us vs:List Value} {Pr γ w} (h:flat c es us Pr γ w) (k:flat c fs vs Pr γ w):flat c (es++fs) (us++vs) Pr γ w:=by
 refine ⟨by rw [List.length_append,List.length_append,h.1,k.1,Nat.add_mul],fun i e j x a b=>?_⟩
 by_cases hi:i < es.length
 · rw [List.getElem?_append_left hi] at a
   obtain ⟨u,h1,h2⟩:=h.2 i e j x a b
   exact ⟨u,by rw [List.getElem?_append_left (List.getElem?_eq_some_iff.1 h1).1]; exact h1,h2⟩
 · rw [List.getElem?_append_right (by omega)] at a
   obtain ⟨u,h1,h2⟩:=k.2 (i - es.length) e j x a b
   refine ⟨u,?_,h2⟩
   have e1:i*c+j=us.length+((i - es.length)*c+j):=by
    rw [h.1,Nat.sub_mul]
    have:es.length*c≤i*c:=Nat.mul_le_mul_right _ (by omega)
    omega
   rw [e1,List.getElem?_append_right (by omega)]
   simpa using h1
end Go.Cod
namespace Go.Cod
open Go
variable [Lam]
omit [Lam] in
theorem zrep_size {x:V} {z:Value} (h:zrep x z=true):z.cells.size=x.cells.length:=by
 cases x with
 | bool b=>rw [isBool_eq h]; rfl
 | int k n=>rw [isInt_eq h]; rfl
 | str s =>
   simp only [zrep,Bool.and_eq_true] at h
   rw [isEmptyS_eq h.2]; rfl
 | nils=>rw [isNils_eq h]; rfl
 | agg cs =>
   have:=Rep.zero (Pr:=fun _ _=>False) (γ:=[]) (w:=default) _ z h
   cases this with
   | agg hl _=>simpa [V.cells,Value.cells] using hl.symm
 | raw v =>
   have:=isRaw_eq h
   subst this
   simp only [zrep] at h
   unfold isRaw at h
   split at h <;> first | rfl | cases h
 | _=>simp [zrep] at h
omit [Lam] in
theorem clean_bytes (b:List UInt8):V.clean.cleanLL 0 (b.map fun c=>[cellB c])=true:=by
 induction b with
 | nil=>rfl
 | cons c b ih=>simpa [V.clean.cleanLL,V.clean.cleanL,V.clean,cellB] using ih
theorem elems_clean {Pr γ w st x cx es} (S:StOk Pr γ w st) (h:elems st x=some es) (hx:Rep Pr γ w x cx):V.clean.cleanLL 0 es=true:=by
 unfold elems at h
 split at h
 · cases h; rfl
 · cases h
   cases hx with
   | sl0=>rfl
   | sl u hcl=>exact hcl
 · obtain ⟨o,ho,hl,rfl,hb⟩:=liveEs_some h
   obtain ⟨g,hg⟩:=S.at ho
   exact (S.obj _ _ _ ho hg hl).cl hb
 · cases h
theorem moreOf_clean {Pr γ w st k x cx ms} (S:StOk Pr γ w st) (h:moreOf st k x=some ms) (hx:Rep Pr γ w x cx):V.clean.cleanLL 0 ms=true:=by
 unfold moreOf at h
 split at h
 · split at h
   · cases h; exact clean_bytes _
   · cases h
 · exact elems_clean S h hx
omit [Lam] in
theorem RepL_of_flat {c:Nat} {es:List (List V)} {us:List Value} {Pr γ w} (h:flat c es us Pr γ w) (rest:List Value):∀ (i:Nat) e (j:Nat) x,es[i]? = some e→e[j]? = some x→∃ u,(us++rest)[i*c+j]? = some u∧Rep Pr γ w x u:=by
 intro i e j x a b
 obtain ⟨u,h1,h2⟩:=h.2 i e j x a b
 exact ⟨u,by rw [List.getElem?_append_left (List.getElem?_eq_some_iff.1 h1).1]; exact h1,h2⟩
theorem aAppend_sound {P:Program} {τ:Tau} (hτ:TauOk P τ) (h8:∀ t ti,τ t=some ti→ti.kind=.int .u8→ti.size=1) {t u ty:TypeId} {s x:V} {st:St} {K:V→St→Prop} {w0 mod γ0 Pr0 nt Pr γ fr a w} (A:AR w0 mod γ0 Pr0 nt Pr γ fr st a w)
  {cs cx:Value} (h:aAppend τ t u s x st K) (hs:Rep Pr γ w s cs) (hx:Rep Pr γ w x cx) :
  ∃ v cv st' γ' w',K v st'∧Keep Pr Pr γ γ' w w'∧AR w0 mod γ0 Pr0 nt Pr γ' fr st' a w'∧Rep Pr γ' w' v cv∧(Builtin.append_ #[t,u] ty #[cs,cx]).run P w=.ok cv w':=by
 unfold aAppend at h
 simp only [lenK0] at h
 simp only [Chk_iff,decide_eq_true_eq,Bool.not_eq_true'] at h
 split at h
 · rename_i e hk
   have ht:=kind_slice hτ hk
   split at h
   · rename_i ti hti
     obtain ⟨ie,z,g1,g2,g3,g4,g5⟩:=(hτ _ _ hti).info
     obtain ⟨hnot,h⟩:=h
     obtain ⟨d,hu,hd⟩:=notInt_desc hτ hnot
     split at h
     · exact h.elim
     rename_i ms hms
     obtain ⟨hpos,hby,hz,hms1,h⟩:=h
     have hcl:V.clean.cleanLL 0 ms=true:=moreOf_clean A.st hms hx
     obtain ⟨news,n1,n2,n3,n4,n5⟩:=more_run (P:=P) A.st hms hms1 (h8 _ _ hti) hx
     have hzs:z.cells.size=ti.size:=by rw [zrep_size g5,hz]
     split at h
     ·
      obtain ⟨hb1,h⟩:=h
      cases hs with
      | nils base =>
      rcases h with ⟨hmz,h⟩ | ⟨hmz,h⟩
      · subst hmz
        have hn0:news=[]:=by simpa using n1.1
        subst hn0
        refine ⟨_,_,st,γ,w,h,Keep.refl _ _ _,A,.nils base,?_⟩
        exact run_append_place ht g1 hu hd (n3 w) (by have:=n4 w (fun _=>rfl); rw [g2]; simpa using this) (Nat.le_refl _) (fun a _=>rfl) (fun _=>rfl)
      · have hm0:0 < ms.length:=List.length_pos_iff.2 hmz
        have hmax:ms.length≤maxLen:=by
         simp only [maxLen]
         have:ms.length≤ms.length*ti.bytes:=Nat.le_mul_of_pos_right _ hby
         omega
        have run:=run_append_grows (P:=P) (ty:=ty) (w:=w) ht g1 g4 hu hd (base:=base) (sLen:=0) (sCap:=0) (olds:=[]) (n3 w) (fun w1 hw1=>by rw [g2]; exact n4 w1 hw1) (fun w1 _=>by cases base <;> simp [Builtin.firstCells,loadCells,loadCellsFrom]) (by omega) (by rw [g3]; exact hby) (by rw [g3,Nat.zero_add]; exact hb1)
        have hgc:=grownCap_ge w (0+ms.length) 0 e
        generalize hc0:([]:List Value).toArray++news.toArray++Builtin.zeroCells z.cells (grownCap w (0+ms.length) 0 e - (0+ms.length))=cur0 at run
        obtain ⟨γ',g,_,e1,e2,e3,_,hk',A',hg⟩:=A.newObj (grew_drew_alloc w (.cells cur0 e)) (newO ms ti.size false) (grownCap w (0+ms.length) 0 e) ti.size e cur0 (0,0) (by simp [World.alloc,World.drew,-World.alloc_eq,-World.drew_eq]) (by simp)
         (by
           rw [← hc0]
           simp only [Array.size_append,List.size_toArray,zeroCells_size,hzs,n1.1,List.length_nil,Nat.zero_add,← Nat.add_mul] at hgc ⊢
           congr 1; omega) (by simp only [newO]; omega) (grownCap_le_maxLen w _ 0 e (by omega)) rfl hms1 n5 (fun _=>hcl) rfl
         (fun i e' j y a b=>by
           obtain ⟨u',h1,h2⟩:=RepL_of_flat n1 (Builtin.zeroCells z.cells (grownCap w (0+ms.length) 0 e - (0+ms.length))).toList i e' j y a b
           exact ⟨u',by rw [← hc0,← Array.getElem?_toList]; simpa using h1,h2⟩)
        refine ⟨_,_,_,γ',_,h,hk',A',?_,run⟩
        have:=Rep.own (Pr:=Pr) (w:=w.drew.alloc (.cells cur0 e)) hg
        rw [e1,e2,e3] at this
        simpa [newO] using this
     ·
      rename_i k
      split at h
      · exact h.elim
      rename_i o ho
      obtain ⟨hlive,hbox,hw,hb1,h⟩:=h
      cases hs with
      | own hg =>
      rename_i g
      have H:=A.st.obj k o g ho hg hlive
      have hgs:g.sz=ti.size:=by rw [H.wid,hw]
      have hmine:=A.mine k o g ho hg hlive
      obtain ⟨cur,f,⟨c1,c2⟩,c3,c4⟩:=H.row
      by_cases hroom:g.len+ms.length≤g.cap
      ·
       have hle:(g.len+ms.length)*ti.size≤g.cap*ti.size:=Nat.mul_le_mul_right _ hroom
       rw [Nat.add_mul] at hle
       obtain ⟨w',cur',s1,s2,s3,s4,s5⟩:=run_storeRow P g.blk (g.len*ti.size) g.ty f news 0 cur w c1 (fun n hn=>c2 n (.inl hn)) (by rw [c3,hgs,n1.1]; omega) n2
       have run:=run_append_place (P:=P) (ty:=ty) (w:=w) (w':=w') ht g1 hu hd (base:=some ⟨g.blk,0,none⟩) (sLen:=g.len) (sCap:=g.cap) (n3 w) (by rw [g2]; exact n4 w (fun _=>rfl)) hroom
        (fun a ha=>by cases ha; rw [addr_add,g2,Nat.zero_add]; exact s1) (fun h=>by cases h)
       let g':G:=⟨g.blk,g.len+ms.length,g.cap,g.sz,g.ty⟩
       have hcell:∀ n,Pr g.blk n→w'.cell? ⟨g.blk,n,none⟩=w.cell? ⟨g.blk,n,none⟩:=by
        intro n hn
        have:n < g.len*g.sz:=by
         rcases Nat.lt_or_ge n (g.len*g.sz) with h | h
         · exact h
         · exact absurd hn (H.spare n h)
        simp only [World.cell?,s3,c1,Option.isSome_none,Bool.false_eq_true,if_false]
        rw [s5,if_neg (by rw [← hgs]; omega)]
       have S0:=Stepd.ofOnly A.st ho hg hlive s2 hcell
       have hkp:Keep Pr Pr γ (γ++[g']) w w':=⟨S0.sub,S0.cell,fun k' q hq=>by
        rw [List.getElem?_append_left (List.getElem?_eq_some_iff.1 hq).1]; exact hq⟩
       have S:Stepd Pr Pr γ (γ++[g']) st w w' (some k):=⟨hkp,S0.heap,S0.unp⟩
       have hO:ObjOk Pr (γ++[g']) w' ⟨o.es++ms,o.wid,true,o.excl,false,.cell⟩ g':=by
        refine ⟨by simp [g',H.len],H.wid,hroom,H.max,fun e' he'=>?_,fun e' he'=>?_,⟨cur',f,⟨s3,fun n hn=>c2 n (by rw [← s4]; exact hn)⟩,by rw [s4]; exact c3,fun i e' j y a b=>?_⟩,fun n hn=>?_,fun he n=>H.excl he n,fun _=>?_,rfl⟩
        · rcases List.mem_append.1 he' with h' | h'
          · exact H.sz e' h'
          · show e'.length=g.sz; rw [hgs]; exact hms1 e' h'
        · rcases List.mem_append.1 he' with h' | h'
          · exact H.lf e' h'
          · exact n5 e' h'
        · simp only at a
          have hlen:g.len=o.es.length:=H.len
          by_cases hi:i < o.es.length
          · rw [List.getElem?_append_left hi] at a
            obtain ⟨u',h1,h2⟩:=c4 i e' j y a b
            have hj:j < g.sz:=by rw [← H.sz e' (List.mem_of_getElem? a)]; exact (List.getElem?_eq_some_iff.1 b).1
            have hlt:=idx_lt hi hj
            rw [← hlen] at hlt
            rw [hgs] at hlt
            have hlt2:i*g.sz+j < g.len*ti.size:=by rw [hgs]; exact hlt
            exact ⟨u',by show cur'[i*g.sz+j]? = some u'; rw [s5,if_neg (by omega)]; exact h1,h2.keep hkp⟩
          · rw [List.getElem?_append_right (by omega)] at a
            obtain ⟨u',h1,h2⟩:=n1.2 (i - o.es.length) e' j y a b
            have hj:j < ti.size:=by rw [← hms1 e' (List.mem_of_getElem? a)]; exact (List.getElem?_eq_some_iff.1 b).1
            have hi':i - o.es.length < ms.length:=(List.getElem?_eq_some_iff.1 a).1
            have hlt:=idx_lt hi' hj
            have e1:i*g.sz+j=g.len*ti.size+((i - o.es.length)*ti.size+j):=by
             rw [hgs,hlen,Nat.sub_mul]
             have:o.es.length*ti.size≤i*ti.size:=Nat.mul_le_mul_right _ (by omega)
             omega
            refine ⟨u',?_,h2.keep hkp⟩
            show cur'[i*g.sz+j]? = some u'
            rw [e1,s5,if_pos (by rw [n1.1]; omega)]
            rw [show g.len*ti.size+((i - o.es.length)*ti.size+j) - (g.len*ti.size+0)=(i - o.es.length)*ti.size+j by omega]
            exact h1
        · refine H.spare n (Nat.le_trans (Nat.mul_le_mul_right _ (Nat.le_add_right _ _)) hn)
        · have:=H.cl hbox
          have app:∀ (xs ys:List (List V)),V.clean.cleanLL 0 xs=true→V.clean.cleanLL 0 ys=true→V.clean.cleanLL 0 (xs++ys)=true:=by
           intro xs ys h1 h2
           induction xs with
           | nil=>exact h2
           | cons x xs ih=>simp [V.clean.cleanLL] at h1 ⊢; exact ⟨h1.1,ih h1.2⟩
          exact app _ _ this hcl
       have hlast:(γ++[g'])[st.length]? = some g':=by rw [← A.st.len]; simp
       refine ⟨_,_,_,γ++[g'],w',h,hkp,⟨fun j p q hj hq hlv=>?_,A.fr.keep hkp,A.st.move ho hg hlive S (by rw [s2.size]; exact Nat.le_refl _) rfl hO,(A.base.only s2 hmine).push g'⟩,?_,run⟩
       · by_cases hjs:j < st.length
         · rw [List.getElem?_append_left (by simpa using hjs),List.getElem?_set] at hj
           rw [List.getElem?_append_left (by rw [A.st.len]; exact hjs)] at hq
           by_cases e:k=j
           · subst e
             rw [hg] at hq; cases hq; exact hmine
           · rw [if_neg e] at hj
             exact A.mine j p q hj hq hlv
         · have:j=st.length:=by
            have:=(List.getElem?_eq_some_iff.1 hj).1
            simp at this; omega
           subst this
           rw [hlast] at hq; cases hq; exact hmine
       · exact Rep.own hlast
      ·
       have A1:=A.kill ho hbox hlive
       have R:SRows Pr γ w o.es g.blk 0 g.sz:=⟨H.sz,H.lf,fun i e hi=>by rw [Nat.zero_add]; exact H.cells hi⟩
       obtain ⟨olds,q1,q2,q3⟩:=R.flat
       have hmax:g.len+ms.length≤maxLen:=by
        rw [H.len]
        simp only [maxLen]
        have:o.es.length+ms.length≤(o.es.length+ms.length)*ti.bytes:=Nat.le_mul_of_pos_right _ hby
        omega
       have run:=run_append_grows (P:=P) (ty:=ty) (w:=w) ht g1 g4 hu hd (base:=some ⟨g.blk,0,none⟩) (sLen:=g.len) (sCap:=g.cap) (olds:=olds) (n3 w) (fun w1 hw1=>by rw [g2]; exact n4 w1 hw1)
        (fun w1 hw1=>run_firstCells_some w1 ie.size g.len ⟨g.blk,0,none⟩ _ _ olds (by rw [q1.1,H.len,g2,hgs]) (fun j v hv=>by rw [addr_add,hw1]; exact q3 j v hv)) (by omega) (by rw [g3]; exact hby) (by rw [g3,H.len]; exact hb1)
       have hgc:=grownCap_ge w (g.len+ms.length) g.cap e
       generalize hc0:olds.toArray++news.toArray++Builtin.zeroCells z.cells (grownCap w (g.len+ms.length) g.cap e - (g.len+ms.length))=cur0 at run
       have hqs:olds.length=g.len*ti.size:=by rw [q1.1,H.len,hgs]
       have hF:flat ti.size (o.es++ms) (olds++news) Pr γ w:=by
        have q1':=q1; rw [hgs] at q1'; exact q1'.append n1
       have hL:(st.set k { o with live:=false }).length=st.length:=by simp
       obtain ⟨γ',g',_,e1,e2,e3,_,hk',A',hg'⟩:=A1.newObj (grew_drew_alloc w (.cells cur0 e)) ⟨o.es++ms,o.wid,true,o.excl,false,.cell⟩ (grownCap w (g.len+ms.length) g.cap e) ti.size e cur0 (0,0) (by simp [World.alloc,World.drew,-World.alloc_eq,-World.drew_eq]) (by simp)
        (by
          rw [← hc0]
          simp only [Array.size_append,List.size_toArray,zeroCells_size,hzs,n1.1,hqs,← Nat.add_mul]; congr 1; omega)
        (by simp only [List.length_append,← H.len]; exact hgc) (grownCap_le_maxLen w _ _ e hmax) hw.symm
        (fun e' he'=>by
          rcases List.mem_append.1 he' with h' | h'
          · rw [H.sz e' h',hgs]
          · exact hms1 e' h')
        (fun e' he'=>by
          rcases List.mem_append.1 he' with h' | h'
          · exact H.lf e' h'
          · exact n5 e' h')
        (fun _=>by
          have app:∀ (xs ys:List (List V)),V.clean.cleanLL 0 xs=true→V.clean.cleanLL 0 ys=true→V.clean.cleanLL 0 (xs++ys)=true:=by
           intro xs ys h1 h2
           induction xs with
           | nil=>exact h2
           | cons x xs ih=>simp [V.clean.cleanLL] at h1 ⊢; exact ⟨h1.1,ih h1.2⟩
          exact app _ _ (H.cl hbox) hcl) rfl
        (fun i e' j y a b=>by
          obtain ⟨u',h1,h2⟩:=RepL_of_flat hF (Builtin.zeroCells z.cells (grownCap w (g.len+ms.length) g.cap e - (g.len+ms.length))).toList i e' j y a b
          exact ⟨u',by rw [← hc0,← Array.getElem?_toList]; simpa using h1,h2⟩)
       rw [hL] at hg'
       refine ⟨_,_,_,γ',_,h,hk',A',?_,run⟩
       have:=Rep.own (Pr:=Pr) (w:=w.drew.alloc (.cells cur0 e)) hg'
       rw [e1,e2,e3] at this
       simpa [H.len] using this
     · exact h.elim
   · exact h.elim
 · exact h.elim
end Go.Cod
