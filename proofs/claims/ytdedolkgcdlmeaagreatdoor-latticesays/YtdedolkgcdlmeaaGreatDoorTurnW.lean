import Derived.Test.YtdedolkgcdlmeaaGreatDoorTurnL
set_option maxRecDepth 100000
set_option maxHeartbeats 4000000
set_option linter.unusedSimpArgs false
namespace Go.Proofs.YtdedolkgcdlmeaaGreatDoor
open Go.RowKit Limbs
variable{w W W' W0:World}{n m N O B k i base:Nat}{v r:List Int}
def wideL (n:Nat)(hs ks:List (List Int)):List (List Int):=hs.map (fun r=>r++r)++ks.map (fun r=>r++List.replicate n 0)
theorem zaW (u v:List Int)(j:Nat)(hj:j<u.length):(u++v).getD j 0=u.getD j 0:=by
 rw [zG,zG,List.getElem?_append_left hj]
theorem zaX (u v:List Int)(j:Nat):(u++v).getD (u.length+j) 0=v.getD j 0:=by
 rw [zG,zG,List.getElem?_append_right (by omega),Nat.add_sub_cancel_left]
theorem zan (n j:Nat):(List.replicate n (0:Int)).getD j 0=0:=by
 rw [zG,List.getElem?_replicate];split <;> rfl
theorem zbo (x y:Int)(a b c d:List Int)(h:a.length=c.length):List.zipWith (fun u v=>x*u+y*v) (a++b) (c++d)=List.zipWith (fun u v=>x*u+y*v) a c++List.zipWith (fun u v=>x*u+y*v) b d:=List.zipWith_append h
theorem zdt (x y:Int)(n:Nat):List.zipWith (fun u v=>x*u+y*v) (List.replicate n (0:Int)) (List.replicate n 0)=List.replicate n 0:=by
 apply zR (by simp);intro k hk;have hk':k<n:=by simpa using hk
 rw [zi _ _ _ (by simp) k (by simpa using hk'),zan];simp
theorem zln{hs ks:List (List Int)}(h:Gens n (InL hs) v):Gens (n+n) (InL (wideL n hs ks)) (v++v):=by
 induction h with
 | base hv hl=>exact .base (List.mem_append.2 (.inl (List.mem_map.2 ⟨_,hv,rfl⟩))) (by rw [List.length_append,hl])
 | zero=>
  rw [List.replicate_append_replicate];exact .zero
 | comb x y hu hv h1 h2=>
  rw [← zbo x y _ _ _ _ (hu.len.trans hv.len.symm)];exact .comb x y h1 h2
theorem zll{hs ks:List (List Int)}(h:Gens n (InL ks) v):Gens (n+n) (InL (wideL n hs ks)) (v++List.replicate n 0):=by
 induction h with
 | base hv hl=>exact .base (List.mem_append.2 (.inr (List.mem_map.2 ⟨_,hv,rfl⟩))) (by rw [List.length_append,hl,List.length_replicate])
 | zero=>
  rw [List.replicate_append_replicate];exact .zero
 | comb x y hu hv h1 h2=>
  have:=Gens.comb x y h1 h2;rw [zbo x y _ _ _ _ (hu.len.trans hv.len.symm),zdt] at this;exact this
theorem zlm{hs ks:List (List Int)}(hl:∀ r∈hs,r.length=n)(kl:∀ r∈ks,r.length=n){z:List Int}(h:Gens (n+n) (InL (wideL n hs ks)) z):∃ u v,z=u++v∧u.length=n∧v.length=n∧Gens n (InL hs) v∧Gens n (InL ks) (List.zipWith (fun a b=>1*a+-1*b) u v):=by
 induction h with
 | base hv _=>
  rcases List.mem_append.1 hv with h | h
  ·obtain⟨r,hr,rfl⟩:=List.mem_map.1 h;have hrl:=hl r hr;refine⟨r,r,rfl,hrl,hrl,.base hr hrl,?_⟩;have e:List.zipWith (fun a b=>1*a+-1*b) r r=List.replicate n 0:=by
    apply zR (by rw [zg _ _ _ rfl];simp [hrl]);intro k hk;rw [zg _ _ _ rfl] at hk;rw [zi _ _ _ rfl k hk,zan];omega
   rw [e];exact .zero
  ·obtain⟨r,hr,rfl⟩:=List.mem_map.1 h;have hrl:=kl r hr;refine⟨r,List.replicate n 0,rfl,hrl,by simp,.zero,?_⟩;have e:List.zipWith (fun a b=>1*a+-1*b) r (List.replicate n 0)=r:=by
    apply zR (by rw [zg _ _ _ (by simp [hrl])]);intro k hk;rw [zg _ _ _ (by simp [hrl])] at hk;rw [zi _ _ _ (by simp [hrl]) k hk,zan];omega
   rw [e];exact .base hr hrl
 | zero=>exact⟨List.replicate n 0,List.replicate n 0,List.replicate_append_replicate.symm,by simp,by simp,.zero,by rw [zdt];exact .zero⟩
 | comb x y _ _ h1 h2=>
  obtain⟨u,v,rfl,hu,hv,g1,g2⟩:=h1;obtain⟨u',v',rfl,hu',hv',g1',g2'⟩:=h2;refine⟨_,_,zbo x y u v u' v' (hu.trans hu'.symm),by rw [zg _ _ _ (hu.trans hu'.symm),hu],by rw [zg _ _ _ (hv.trans hv'.symm),hv],.comb x y g1 g1',?_⟩;have e:List.zipWith (fun a b=>1*a+-1*b) (List.zipWith (fun a b=>x*a+y*b) u u') (List.zipWith (fun a b=>x*a+y*b) v v')=List.zipWith (fun a b=>x*a+y*b) (List.zipWith (fun a b=>1*a+-1*b) u v) (List.zipWith (fun a b=>1*a+-1*b) u' v'):=by
   have l1:=zg (fun a b=>x*a+y*b) u u' (hu.trans hu'.symm);have l2:=zg (fun a b=>x*a+y*b) v v' (hv.trans hv'.symm);have l3:=zg (fun a b=>1*a+-1*b) u v (hu.trans hv.symm);have l4:=zg (fun a b=>1*a+-1*b) u' v' (hu'.trans hv'.symm);have m1:(List.zipWith (fun a b=>x*a+y*b) u u').length=(List.zipWith (fun a b=>x*a+y*b) v v').length:=by rw [l1,l2,hu,hv]
   have m2:(List.zipWith (fun a b=>1*a+-1*b) u v).length=(List.zipWith (fun a b=>1*a+-1*b) u' v').length:=by rw [l3,l4,hu,hu']
   have n1:=zg (fun a b=>1*a+-1*b) _ _ m1;have n2:=zg (fun a b=>x*a+y*b) _ _ m2;apply zR (by rw [n1,n2,l1,l3]);intro k hk;rw [n1,l1,hu] at hk;have z1:=zi (fun a b=>1*a+-1*b) _ _ m1 k (by rw [l1,hu];exact hk);have z2:=zi (fun a b=>x*a+y*b) _ _ m2 k (by rw [l3,hu];exact hk);have z3:=zi (fun a b=>x*a+y*b) u u' (hu.trans hu'.symm) k (by omega);have z4:=zi (fun a b=>x*a+y*b) v v' (hv.trans hv'.symm) k (by omega);have z5:=zi (fun a b=>1*a+-1*b) u v (hu.trans hv.symm) k (by omega);have z6:=zi (fun a b=>1*a+-1*b) u' v' (hu'.trans hv'.symm) k (by omega);rw [z1,z2,z3,z4,z5,z6];simp only [Int.one_mul,Int.mul_add,Int.neg_mul,Int.mul_neg];omega
  rw [e];exact .comb x y g2 g2'
theorem zjn{hs ks:List (List Int)}(hl:∀ r∈hs,r.length=n)(kl:∀ r∈ks,r.length=n)(hv:v.length=n):Gens (n+n) (InL (wideL n hs ks)) (List.replicate n 0++v)↔Gens n (InL hs) v∧Gens n (InL ks) v:=by
 constructor
 ·intro h;obtain⟨a,b,e,ha,hb,g1,g2⟩:=zlm hl kl h;obtain⟨rfl,rfl⟩:=List.append_inj e (by simp [ha]);refine⟨g1,?_⟩;have g:=g2.scale (-1);have e:(List.zipWith (fun a b=>1*a+-1*b) (List.replicate n 0) v).map (-1*·)=v:=by
   apply zR (by rw [zM,zg _ _ _ (by simp [hv])];simp [hv]);intro k hk;rw [zM,zg _ _ _ (by simp [hv])] at hk;rw [zdS _ _ _ (by rw [zg _ _ _ (by simp [hv])];exact hk),zi _ _ _ (by simp [hv]) k hk,zan];omega
  rwa [e] at g
 ·rintro ⟨g1,g2⟩;have g:=Gens.comb 1 (-1) (zln (ks:=ks) g1) (zll (hs:=hs) g2);rw [zbo 1 (-1) _ _ _ _ rfl] at g;have e1:List.zipWith (fun u v=>1*u+-1*v) v v=List.replicate n 0:=by
   apply zR (by rw [zg _ _ _ rfl];simp [hv]);intro k hk;rw [zg _ _ _ rfl] at hk;rw [zi _ _ _ rfl k hk,zan];omega
  have e2:List.zipWith (fun u v=>1*u+-1*v) v (List.replicate n 0)=v:=by
   apply zR (by rw [zg _ _ _ (by simp [hv])]);intro k hk;rw [zg _ _ _ (by simp [hv])] at hk;rw [zi _ _ _ (by simp [hv]) k hk,zan];omega
  rwa [e1,e2] at g
structure RowsI (w W:World)(B:Nat)(m:Nat)(rows:List (List Int))(k N:Nat):Prop where
 low:Below w.heap.size w W
 high:w.heap.size≤B
 lt:B<W.heap.size
 blk:∃ cs t,W.heap[B]?=some (.cells cs t)
 nil:∀ i,k≤i→i<m→W.cell? ⟨B,i,none⟩=some (.slice none 0 0)
 row:∀ i,i<k→∃ Q,W.cell? ⟨B,i,none⟩=some (.slice (some ⟨Q,0,none⟩) (rows.getD i []).length (rows.getD i []).length)∧VecN W (.slice (some ⟨Q,0,none⟩) (rows.getD i []).length (rows.getD i []).length) (rows.getD i []) N∧Q<W.heap.size∧Q≠B
theorem zdX (m i:Nat)(hi:i<m):(madeCells #[.slice none 0 0] m)[i]?=some (.slice none 0 0):=by
 simp [madeCells,hi,Nat.mod_one]
theorem RowsI.start(hb:Below w.heap.size w W0)(m:Nat)(rows:List (List Int))(N:Nat):RowsI w (W0.alloc (.cells (madeCells #[.slice none 0 0] m) 72)) W0.heap.size m rows 0 N:=by
 refine⟨hb.alloc hb.size _,hb.size,by simp,⟨_,_,heap_alloc_new W0 _⟩,fun i _ hi=>?_,fun i hi=>absurd hi (by omega)⟩;rw [World.cell?_alloc_new];exact zdX m i hi
theorem RowsI.later{rows:List (List Int)}(h:RowsI w W B m rows k N)(hb:Below W.heap.size W W'):RowsI w W' B m rows k N where
 low:=h.low.trans (hb.mono h.low.size)
 high:=h.high
 lt:=zT h.lt hb.size
 blk:=by obtain⟨cs,t,e⟩:=h.blk;exact⟨cs,t,(hb.block _ (zj e)).trans e⟩
 nil:=fun i h1 h2=>(hb.cell (p:=⟨B,i,none⟩) h.lt).trans (h.nil i h1 h2)
 row:=fun i hi=>by
  obtain⟨Q,e,hv,hq,hne⟩:=h.row i hi;exact⟨Q,(hb.cell (p:=⟨B,i,none⟩) h.lt).trans e,hv.below hb zL,zT hq hb.size,hne⟩
theorem RowsI.thaw{rows:List (List Int)}(h:RowsI w W B m rows k N)(i:Nat):W.frozen? ⟨B,i,none⟩=false:=by
 obtain⟨cs,t,e⟩:=h.blk;simp [World.frozen?,e]
theorem RowsI.step{rows:List (List Int)}(h:RowsI w W B m rows k N)(hk:k<m)(hb:Below W.heap.size (W.setCell ⟨B,k,none⟩ (.slice (some ⟨W.heap.size,0,none⟩) (rows.getD k []).length (rows.getD k []).length)) W')
  (hlt:W.heap.size<W'.heap.size) (hv:VecN W' (.slice (some ⟨W.heap.size,0,none⟩) (rows.getD k []).length (rows.getD k []).length) (rows.getD k []) N):RowsI w W' B m rows (k+1) N:=by
 have hnil:=h.nil k zL hk;have hu:∀ z,(Value.slice none 0 0)≠.int .u32 z:=fun z e=>by cases e
 have hlb:=h.lt;refine⟨(h.low.setCell (p:=⟨B,k,none⟩) h.high _).trans (hb.mono h.low.size),h.high,by omega,?_,fun i h1 h2=>?_,fun i hi=>?_⟩
 ·obtain⟨cs,t,e⟩:=h.blk;exact⟨_,t,(hb.block B hlb).trans (heap_setCell_same W B k _ _ _ e)⟩
 ·exact(hb.cell (p:=⟨B,i,none⟩) hlb).trans ((World.cell?_setCell_other (h:=fun e=>by simp at e <;> omega) ..).trans (h.nil i (by omega) h2))
 ·by_cases e:i=k
  ·subst e;exact⟨_,(hb.cell (p:=⟨B,i,none⟩) hlb).trans (World.cell?_setCell_same (h:=hnil) ..),hv,hlt,by omega⟩
  ·obtain⟨Q',e',hv',hq',hne'⟩:=h.row i (by omega);have hv2:=hv'.other (x:=.slice (some ⟨W.heap.size,0,none⟩) (rows.getD k []).length (rows.getD k []).length) hne' hnil hu;exact⟨Q',(hb.cell (p:=⟨B,i,none⟩) hlb).trans ((World.cell?_setCell_other (h:=fun e=>by simp at e <;> omega) ..).trans e'),hv2.below hb (by simp),by omega,hne'⟩
theorem RowsI.step_at{rows:List (List Int)}{L:Nat}(h:RowsI w W B m rows k N)(hk:k<m)(hr:rows.getD k []=r)(hL:r.length=L)(hb:Below W.heap.size (W.setCell ⟨B,k,none⟩ (.slice (some ⟨W.heap.size,0,none⟩) L L)) W')
  (hlt:W.heap.size<W'.heap.size) (hv:VecN W' (.slice (some ⟨W.heap.size,0,none⟩) r.length r.length) r N):RowsI w W' B m rows (k+1) N:=by
 subst hL hr;exact h.step hk hb hlt hv
theorem RowsI.mat{rows:List (List Int)}(h:RowsI w W B m rows m N)(hm:rows.length=m):MatN W (.slice (some ⟨B,0,none⟩) m m) rows N:=by
 subst hm;refine⟨_,_,rfl,Nat.le_refl _,fun h0=>⟨_,_,rfl,h.lt,fun i zs hi=>?_⟩⟩;obtain⟨hi',e⟩:=List.getElem?_eq_some_iff.1 hi;obtain⟨Q,e1,hv,-,-⟩:=h.row i hi';rw [zn hi',e] at e1 hv;exact⟨_,by rw [Nat.zero_add];exact e1,hv⟩
theorem zjf (W:World)(ob:Obj)(B k:Nat)(hB:B<W.heap.size)(x:Value):Below W.heap.size (W.setCell ⟨B,k,none⟩ x) ((W.alloc ob).setCell ⟨B,k,none⟩ x):=by
 have hb:=(zB W.heap.size W).alloc zL ob;refine⟨rfl,rfl,rfl,by simp,fun j hj=>?_⟩;have e:=hb.block j hj;by_cases hjB:j=B
 ·subst hjB;unfold World.setCell;simp only [Array.getElem?_modify];simp [e]
 ·rw [heap_setCell_other _ ⟨B,k,none⟩ j x (fun h=>hjB h),heap_setCell_other _ ⟨B,k,none⟩ j x (fun h=>hjB h)];exact e
theorem zjg (W:World)(m N:Nat):MatN (W.alloc (.cells (madeCells #[.slice none 0 0] m) 72)) (.slice (some ⟨W.heap.size,0,none⟩) m m) (List.replicate m []) N:=by
 refine⟨_,m,by rw [List.length_replicate],by rw [List.length_replicate];exact Nat.le_refl _,fun _=>⟨_,_,rfl,by simp,fun i zs hi=>?_⟩⟩;have hi':=(List.getElem?_eq_some_iff.1 hi).1;rw [List.length_replicate] at hi';have:zs=[]:=by rw [List.getElem?_replicate,if_pos hi'] at hi;exact(zI hi).symm
 subst this;refine⟨.slice none 0 0,?_,⟨none,0,rfl,Nat.le_refl _,fun h=>absurd h (by simp)⟩⟩;rw [Nat.zero_add,World.cell?_alloc_new];exact zdX m i hi'
def besL (n:Nat)(hs os:List (List Int)):List (List Int):=List.zipWith (fun r o=>r ++(o++List.replicate (n-o.length) 0)) hs os
theorem zdn (n:Nat)(hs os:List (List Int))(h:os.length=hs.length):(besL n hs os).length=hs.length:=by
 unfold besL;rw [List.length_zipWith];omega
theorem zg8 (n:Nat)(hs os:List (List Int))(k:Nat)(h1:k<hs.length)(h2:k<os.length):(besL n hs os).getD k []=hs[k] ++(os[k]++List.replicate (n-os[k].length) 0):=by
 unfold besL;rw [zG,List.getElem?_zipWith,List.getElem?_eq_getElem h1,List.getElem?_eq_getElem h2];rfl
theorem zeH{hs os:List (List Int)}(hl:∀ r∈hs,r.length=n)(ho:∀ r∈os,r.length≤n):∀ r∈besL n hs os,r.length=n+n:=fun r hr=>by
 obtain⟨k,hk,rfl⟩:=List.getElem_of_mem hr;unfold besL at hk ⊢;rw [List.length_zipWith] at hk;rw [List.getElem_zipWith];have e1:=hl hs[k] (List.getElem_mem (by omega));have e2:=ho os[k] (List.getElem_mem (by omega));rw [List.length_append,List.length_append,List.length_replicate];omega
theorem zha{hs:List (List Int)}(hl:∀ r∈hs,r.length=n):besL n hs hs=hs.map fun r=>r++r:=by
 induction hs with
 | nil=>rfl
 | cons r hs ih=>
  have e:=hl r (by simp);have:=ih (fun x hx=>hl x (by simp [hx]));unfold besL at this ⊢;rw [List.zipWith_cons_cons,this,List.map_cons,e,Nat.sub_self];simp
theorem zg9 (n:Nat)(ks:List (List Int)):besL n ks (List.replicate ks.length [])=ks.map fun r=>r++List.replicate n 0:=by
 induction ks with
 | nil=>rfl
 | cons r ks ih=>
  unfold besL at ih ⊢;rw [List.length_cons,List.replicate_succ,List.zipWith_cons_cons,ih,List.map_cons];simp
theorem zhb{hs ks:List (List Int)}(hl:∀ r∈hs,r.length=n):besL n hs hs++besL n ks (List.replicate ks.length [])=wideL n hs ks:=by
 rw [zha hl,zg9];rfl
theorem zkz(hr:r.length=n):splice (List.replicate (2*n) 0) 0 r=r++List.replicate n 0:=by
 unfold splice;rw [List.take_zero,List.nil_append,List.drop_replicate,hr];congr 2;omega
theorem zkA{o:List Int}(hr:r.length=n)(ho:o.length≤n):splice (r++List.replicate n 0) n o=r ++(o++List.replicate (n-o.length) 0):=by
 unfold splice;rw [List.take_left' hr];have e:(r++List.replicate n (0:Int)).drop (n+o.length)=List.replicate (n-o.length) 0:=by
  rw [List.drop_append,hr,List.drop_of_length_le (by omega),List.nil_append,List.drop_replicate];congr 1;omega
 rw [e]
def updN {α:Type}(f:Nat→α)(k:Nat)(x:α):Nat→α:=fun i=>if i=k then x else f i
theorem zaC {α:Type}(f:Nat→α)(k:Nat)(x:α):updN f k x k=x:=if_pos rfl
theorem zal {α:Type}(f:Nat→α)(k:Nat)(x:α)(h:i≠k):updN f k x i=f i:=if_neg h
structure OutG (w W:World)(O m:Nat)(vs:Nat→Value)(ps:Nat→List (Nm × Int))(N:Nat):Prop where
 low:Below w.heap.size w W
 high:w.heap.size≤O
 blk:∃ cs,W.heap[O]?=some (.cells cs 72)
 cell:∀ i,i<m→W.cell? ⟨O,i,none⟩=some (vs i)
 grow:∀ i,i<m→Grow W w.heap.size (vs i) (ps i) N
 two:∀ i k,i<m→k<m→i≠k→∀ g,(vs i).ownBlock=some g→(vs k).ownBlock≠some g
 lim:∀ i k,i<m→k<m→∀ p∈ps i,apart (vs k).ownBlock p.1.sl
theorem OutG.start(hb:Below w.heap.size w W0)(m N:Nat):OutG w (W0.alloc (.cells (madeCells #[.slice none 0 0] m) 72)) W0.heap.size m (fun _=>.slice none 0 0) (fun _=>[]) N where
 low:=hb.alloc hb.size _
 high:=hb.size
 blk:=⟨_,heap_alloc_new W0 _⟩
 cell:=fun i hi=>by
  rw [World.cell?_alloc_new];exact zdX m i hi
 grow:=fun _ _=>Grow.nil _ _ _
 two:=fun _ _ _ _ _ g h=>by cases h
 lim:=fun _ _ _ _ p hp=>by cases hp
theorem OutG.lt{vs:Nat→Value}{ps:Nat→List (Nm × Int)}(h:OutG w W O m vs ps N):O<W.heap.size:=by
 obtain⟨cs,e⟩:=h.blk;exact zj e
theorem OutG.thaw{vs:Nat→Value}{ps:Nat→List (Nm × Int)}(h:OutG w W O m vs ps N)(k:Nat):W.frozen? ⟨O,k,none⟩=false:=by
 obtain⟨cs,e⟩:=h.blk;simp [World.frozen?,e]
theorem OutG.later{vs:Nat→Value}{ps:Nat→List (Nm × Int)}(h:OutG w W O m vs ps N)(hb:Below W.heap.size W W'):OutG w W' O m vs ps N where
 low:=h.low.trans (hb.mono h.low.size)
 high:=h.high
 blk:=by obtain⟨cs,e⟩:=h.blk;exact⟨cs,(hb.block _ (zj e)).trans e⟩
 cell:=fun i hi=>(hb.cell (p:=⟨O,i,none⟩) h.lt).trans (h.cell i hi)
 grow:=fun i hi=>(h.grow i hi).later hb
 two:=h.two
 lim:=h.lim
theorem OutG.own_ne{vs:Nat→Value}{ps:Nat→List (Nm × Int)}(h:OutG w W O m vs ps N)(hi:i<m):some O≠(vs i).ownBlock:=fun e=>by
 obtain⟨cs,hO⟩:=h.blk;rcases(h.grow i hi).1.2 with⟨e1,-⟩ |⟨g,cap,cur,e1,-,hh,-⟩
 ·rw [e1] at e;cases e
 ·rw [e1] at e;simp only [Value.ownBlock,Option.some.injEq] at e;rw [← e,hO] at hh;simp only [Option.some.injEq,Obj.cells.injEq] at hh;exact absurd hh.2.1 (by decide)
theorem zfY{e:TypeId}{size:Nat}{v:Value}{xs:List Value}(h:W.ownsRow base e size v n xs)(hk:∀ g,v.ownBlock=some g→W'.heap[g]?=W.heap[g]?):W'.ownsRow base e size v n xs:=by
 refine⟨h.1,?_⟩;rcases h.2 with hn |⟨g,cap,cur,ev,hbg,hg,rest⟩
 ·exact .inl hn
 ·exact .inr ⟨g,cap,cur,ev,hbg,(hk g (by rw [ev];rfl)).trans hg,rest⟩
theorem zcS{v:Value}{ps:List (Nm × Int)}(h:Grow W base v ps n){g:Nat}(hg:v.ownBlock=some g):g<W.heap.size:=(h.1.lt g hg).2
theorem OutG.push{W3:World}{vs:Nat→Value}{ps:Nat→List (Nm × Int)}(h:OutG w W O m vs ps N)(hk:k<m)(qs:List (Nm × Int))(hq:∀ p∈qs,NumL W p.1.val p.2 N)(hqa:∀ i,i<m→∀ p∈qs,apart (vs i).ownBlock p.1.sl)
  {g L cap:Nat} (hL:L=(ps k).length+qs.length) (hown:W3.ownsRow w.heap.size 29 2 (.slice (some ⟨g,0,none⟩) L cap) L ((ps k).flatMap ncells++qs.flatMap ncells)) (hg:W.grownBy W3 (vs k).ownBlock) (hat:(vs k).ownBlock=some g∨W.heap.size≤g):
  OutG w (W3.setCell ⟨O,k,none⟩ (.slice (some ⟨g,0,none⟩) L cap)) O m (updN vs k (.slice (some ⟨g,0,none⟩) L cap)) (updN ps k (ps k++qs)) N:=by
 obtain⟨cs,hO⟩:=h.blk;have hOlt:=h.lt;have hO3:W3.heap[O]?=some (.cells cs 72):=(hg.block O hOlt (h.own_ne hk)).trans hO;have hc3:∀ i,i<m→W3.cell? ⟨O,i,none⟩=some (vs i):=fun i hi=>hg.cell (h.cell i hi) (h.own_ne hk);have hgO:g≠O:=by
  intro e;rcases hown.2 with⟨e1,-⟩ |⟨g',cap',cur,e1,-,hh,-⟩
  ·cases e1
  ·simp only [zV,Option.some.injEq,Addr.mk.injEq,and_true] at e1;rw [← e1.1,e,hO3] at hh;simp only [Option.some.injEq,Obj.cells.injEq] at hh;exact absurd hh.2.1 (by decide)
 have hslice:∃ o l c,vs k=.slice o l c:=by
  rcases(h.grow k hk).1.2 with⟨e1,-⟩ |⟨g',cap',cur,e1,-⟩
  ·exact⟨_,_,_,e1⟩
  ·exact⟨_,_,_,e1⟩
 have hu:∀ z,vs k≠.int .u32 z:=fun z e=>by
  obtain⟨o,l,c,e1⟩:=hslice;rw [e1] at e;cases e
 have hnum:∀ p:Nm × Int,NumL W p.1.val p.2 N→apart (vs k).ownBlock p.1.sl→NumL (W3.setCell ⟨O,k,none⟩ (.slice (some ⟨g,0,none⟩) L cap)) p.1.val p.2 N:=fun p h1 h2=>(h1.grown hg h2).setCell (hc3 k hk) hu;have hnew:∀ p:Nm × Int,NumL W p.1.val p.2 N→apart (vs k).ownBlock p.1.sl→apart (some g) p.1.sl:=fun p h1 h2 a l c e h0 hb=>by
  rcases hat with hat | hat
  ·exact h2 a l c e h0 (hb.trans hat.symm)
  ·have:=h1.inside a l c e h0;simp only [Option.some.injEq] at hb;omega
 have hall:∀ i,i<m→∀ p∈updN ps k (ps k++qs) i,NumL W p.1.val p.2 N∧∀ j,j<m→apart (vs j).ownBlock p.1.sl:=fun i hi p hp=>by
  by_cases e:i=k
  ·rw [e,zaC] at hp;rcases List.mem_append.1 hp with hp | hp
   ·exact⟨((h.grow k hk).2 p hp).1,fun j hj=>h.lim k j hk hj p hp⟩
   ·exact⟨hq p hp,fun j hj=>hqa j hj p hp⟩
  ·rw [zal _ _ _ e] at hp;exact⟨((h.grow i hi).2 p hp).1,fun j hj=>h.lim i j hi hj p hp⟩
 have hlim:∀ i j,i<m→j<m→∀ p∈updN ps k (ps k++qs) i,apart (updN vs k (.slice (some ⟨g,0,none⟩) L cap) j).ownBlock p.1.sl:=fun i j hi hj p hp=>by
  obtain⟨h1,h2⟩:=hall i hi p hp;by_cases e:j=k
  ·rw [e,zaC];exact hnew p h1 (h2 k hk)
  ·rw [zal _ _ _ e];exact h2 j hj
 have hheap:∀ b,b≠O→(W3.setCell ⟨O,k,none⟩ (.slice (some ⟨g,0,none⟩) L cap)).heap[b]?=W3.heap[b]?:=fun b hb=>heap_setCell_other _ _ b _ (fun e=>hb e);have hb3:Below w.heap.size w W3:=h.low.grown hg h.low.size (fun b hb=>((h.grow k hk).1.lt b hb).1);refine⟨hb3.setCell (p:=⟨O,k,none⟩) h.high _,h.high,⟨_,heap_setCell_same W3 O k _ _ _ hO3⟩,fun i hi=>?_,fun i hi=>⟨?_,fun p hp=>⟨?_,hlim i i hi hi p hp⟩⟩,fun i j hi hj hij b h1 h2=>?_,hlim⟩
 ·by_cases e:i=k
  ·rw [e,zaC];exact World.cell?_setCell_same (h:=hc3 k hk) ..
  ·rw [zal _ _ _ e];exact(World.cell?_setCell_other (h:=fun e'=>by simp at e' <;> omega) ..).trans (hc3 i hi)
 ·by_cases e:i=k
  ·rw [e,zaC,zaC,List.length_append,← hL,List.flatMap_append];exact zfY hown fun b hb=>hheap b (by
    simp only [Value.ownBlock,Option.some.injEq] at hb;omega)
  ·rw [zal _ _ _ e,zal _ _ _ e];refine zfY (h.grow i hi).1 fun b hb=>(hheap b fun e'=>h.own_ne hi (by rw [hb,e'])).trans ?_;exact hg.block b (zcS (h.grow i hi) hb) fun e'=>h.two i k hi hk e b hb e'.symm
 ·obtain⟨h1,h2⟩:=hall i hi p hp;exact hnum p h1 (h2 k hk)
 ·by_cases e:i=k
  ·rw [e,zaC] at h1;have ej:j≠k:=by omega
   rw [zal _ _ _ ej] at h2;simp only [Value.ownBlock,Option.some.injEq] at h1;rcases hat with hat | hat
   ·exact h.two k j hk hj (by omega) b (by rw [hat,h1]) h2
   ·have:=zcS (h.grow j hj) h2;omega
  ·rw [zal _ _ _ e] at h1;by_cases ej:j=k
   ·rw [ej,zaC] at h2;simp only [Value.ownBlock,Option.some.injEq] at h2;rcases hat with hat | hat
    ·exact h.two k i hk hi (by omega) b (by rw [hat,h2]) h1
    ·have:=zcS (h.grow i hi) h1;omega
   ·rw [zal _ _ _ ej] at h2;exact h.two i j hi hj hij b h1 h2
theorem OutG.mat{vs:Nat→Value}{ps:Nat→List (Nm × Int)}(h:OutG w W O m vs ps N)(zss:List (List Int))(hl:zss.length=m)(hz:∀ i,i<m→(ps i).map (·.2)=zss.getD i []):MatN W (.slice (some ⟨O,0,none⟩) m m) zss N:=by
 subst hl;refine⟨_,_,rfl,Nat.le_refl _,fun h0=>⟨_,_,rfl,h.lt,fun i zs hi=>?_⟩⟩;obtain⟨hi',e⟩:=List.getElem?_eq_some_iff.1 hi;refine⟨vs i,by rw [Nat.zero_add];exact h.cell i hi',?_⟩;have:=(h.grow i hi').vec;rw [hz i hi',zn hi',e] at this;exact this
theorem OutG.old{vs:Nat→Value}{ps:Nat→List (Nm × Int)}(h:OutG w W O m vs ps N){r:Nm}{z:Int}(hr:NumL w r.val z n)(hi:i<m):apart (vs i).ownBlock r.sl:=fun a l c e h0 hb=>by
 have h1:=hr.inside a l c e h0;have h2:=((h.grow i hi).1.lt a.block hb.symm).1;omega
theorem zkf (m:Nat)(hm:m≤1000)(W:World):(Instr.makeSlice 23 (.int .i64 (m:Int)) (.int .i64 (m:Int))).run Tryz.prog W=.ok (.slice (some ⟨W.heap.size,0,none⟩) m m) (W.alloc (.cells (madeCells #[.slice none 0 0] m) 72)):=by
 obtain⟨i0,hi,hz0,hz1,hz2⟩:=info_parts Tryz.infoVec;have h:=run_make (P:=Tryz.prog) W 23 72 i0 (.slice none 0 0) (by kernel_rfl) hi hz0 .i64 .i64 m m (by omega) (by omega) (by rw [hz2];omega) (by omega);rw [hz1,Int.toNat_natCast,Nat.mul_one] at h;exact h
def colL (hs:List (List Int))(k:Nat):List Int:=hs.map fun r=>r.getD k 0
theorem zk5 (w:World)(va:Value)(n nv:Nat)(hs:List (List Int))(ha:MatN w va hs nv)(hl:∀ r∈hs,r.length=n)(hn:n≤100)(hm:hs.length≤100):
  Calls Tryz.prog 65 #[va,.int .i64 (n:Int)] w fun e w'=>∃ O vs ps,e=.returned (.slice (some ⟨O,0,none⟩) n n)∧OutG w w' O n vs ps nv∧∀ i,i<n→(ps i).map (·.2)=colL hs i:=by
 obtain⟨i0,hi,hz0,hz1,hz2⟩:=info_parts Tryz.infoNum;have HA:=hide ha;have HL:=hide hl;obtain⟨ao,acap,rfl,-,-⟩:=ha;clear hl;have hmk:=zkf n (by omega);have HO0:=hide (OutG.start (zB w.heap.size w) n nv);go_enter Tryz.func65,Tryz.ntmps65;go_wp2;clear hmk;go_loopw [11] (fun x wr=>∃(k:Nat) (vs:Nat→Value) (ps:Nat→List (Nm × Int)),k≤n∧x=.int .i64 k∧Hid (OutG w wr w.heap.size n vs ps nv)∧Hid (∀ i,i<k→(ps i).map (·.2)=colL hs i)∧Hid (∀ i,k≤i→ps i=[])) (fun x _=>n-(intOf x).toNat)
 case atStart=>exact⟨0,_,_,Nat.zero_le _,rfl,HO0,hide (fun i hi=>absurd hi (Nat.not_lt_zero i)),hide (fun _ _=>rfl)⟩
 case round=>
  clear HO0;obtain⟨k,vs,ps,hk,rfl,HO,HD,HE⟩:=hrel;by_cases hkl:k<n
  ·go_wp2;go_loopw [16] (fun y wr=>∃(q:Nat) (vs:Nat→Value) (ps:Nat→List (Nm × Int)),q≤hs.length∧y=.int .i64 q∧Hid (OutG w wr w.heap.size n vs ps nv)∧Hid (∀ i,i<k→(ps i).map (·.2)=colL hs i)∧Hid ((ps k).map (·.2)=colL (hs.take q) k)∧Hid (∀ i,k<i→ps i=[])) (fun y _=>hs.length-(intOf y).toNat)
   case atStart=>exact⟨0,_,_,Nat.zero_le _,rfl,HO,HD,hide (by rw [HE.out k zL];rfl),hide (fun i hi=>HE.out i (Nat.le_of_lt hi))⟩
   case round=>
    clear HO HD HE vs ps;obtain⟨q,vs,ps,hq,rfl,HO,HD,HM,HE⟩:=hrel;by_cases hql:q<hs.length
    ·obtain⟨rb,roff,_,e,lr,ru,cu,hru⟩:=HA.out.at q hql;simp only [zV,true_and] at e;obtain⟨rfl,rfl⟩:=e;have hul:hs[q].length=n:=HL.out _ (List.getElem_mem hql);have HTK:Hid (colL (hs.take (q+1)) k=colL (hs.take q) k++[hs[q].getD k 0]):=by
      show _=_;unfold colL;rw [List.take_succ_eq_append_getElem hql,List.map_append];rfl
     obtain⟨vb,voff,vcap,rfl⟩:=hru.form (by omega);obtain⟨lv,neg,lo,ll,lc,z0,z1,nz⟩:=hru.at k (by omega);have c9:=(HO.out.low.cell (p:=⟨rb,roff+q,none⟩) lr).trans cu;have c12:=(HO.out.low.cell (p:=⟨vb,voff+k*2,none⟩) lv).trans z0;have c13:=(HO.out.low.cell (p:=⟨vb,voff+k*2+1,none⟩) lv).trans z1;have HNZ:Hid (NumL w (Nm.val ⟨neg,lo,ll,lc⟩) (hs[q].getD k 0) nv):=nz;have HPL:Hid ((ps k).length=q):=by
      have h1:=congrArg List.length HM.out;unfold colL at h1;rw [zM,zM,List.length_take] at h1;show _=_;omega
     rw [hul] at c9;clear hru cu z0 z1 nz hul;generalize hs[q].getD k 0=z at *;have c5:=HO.out.cell k hkl;have HC5:=hide c5;obtain⟨vo,vl,vc,hvk⟩:∃ vo vl vc,vs k=.slice vo vl vc:=by
      rcases(HO.out.grow k hkl).1.2 with⟨e1,-⟩ |⟨g',cap',cur,e1,-⟩
      ·exact⟨_,_,_,e1⟩
      ·exact⟨_,_,_,e1⟩
     rw [hvk] at c5;have hOlt:=HO.out.lt;have hfO:=HO.out.thaw k;have HVK:=hide hvk;clear hvk;have HOA:=hide (HO.out.later (W':=wr.drew.alloc (.cells #[.bool neg,.slice lo ll lc] 29)) ((zB _ _).drew.alloc zL _));have hrb:rb<wr.heap.size:=zT lr HO.out.low.size;have hvb:vb<wr.heap.size:=zT lv HO.out.low.size;have HRB:Hid (some rb≠(vs k).ownBlock):=fun e=>by have:=((HO.out.grow k hkl).1.lt rb e.symm).1;omega
     have HVB:Hid (some vb≠(vs k).ownBlock):=fun e=>by have:=((HO.out.grow k hkl).1.lt vb e.symm).1;omega
     have HON:=hide (HO.out.own_ne hkl);have hws:=HO.out.low.size;go_wp2_with fail;refine zq (S:=(fun w'=>w'.cell? ⟨w.heap.size,k,none⟩=some (.slice vo vl vc)∧w'.cell? ⟨rb,roff+q,none⟩=some (.slice (some ⟨vb,voff,none⟩) n vcap)∧w'.cell? ⟨vb,voff+k*2,none⟩=some (.bool neg)∧w'.cell? ⟨vb,voff+k*2+1,none⟩=some (.slice lo ll lc))) (k:=16) (by kernel_rfl) (by exact⟨c5,c9,c12,c13⟩) (fun hHeld=>?_);refine zd 0 19 [16] ?_;try simp only [zA]
     refine zd 1 20 [16] ?_;try simp only [zA]
     refine zd 2 21 [16] ?_;try simp only [zA]
     refine zd 3 22 [16] ?_;try simp only [zA]
     refine zd 4 23 [16] ?_;try simp only [zA]
     refine zd 5 24 [16] ?_;try simp only [zA]
     refine zd 6 25 [16] ?_;try simp only [zA]
     refine zd 7 26 [16] ?_;try simp only [zA]
     refine zd 8 27 [16] ?_;try simp only [zA]
     refine zd 9 28 [16] ?_;try simp only [zA]
     refine zd 10 29 [16] ?_;try simp only [zA]
     refine zd 11 30 [16] ?_;try simp only [zA]
     refine zd 12 31 [16] ?_;try simp only [zA]
     refine ze 13 (by kernel_rfl) rfl (fun K hK=>?_);go_simp;have hbA:Below wr.heap.size wr (wr.drew.alloc (.cells #[.bool neg,.slice lo ll lc] 29)):=(zB _ _).drew.alloc zL _;have d5:=(hbA.cell (p:=⟨w.heap.size,k,none⟩) hOlt).trans c5;have d9:=(hbA.cell (p:=⟨rb,roff+q,none⟩) hrb).trans c9;have d12:=(hbA.cell (p:=⟨vb,voff+k*2,none⟩) hvb).trans c12;have d13:=(hbA.cell (p:=⟨vb,voff+k*2+1,none⟩) hvb).trans c13;refine hK.out _ _ (fun _=>⟨d5,d9,d12,d13⟩) ?_;clear hK K;try simp only [zA]
     refine ze 14 (by kernel_rfl) rfl (fun K hK=>?_);refine step_append_lies _ rfl (.tmp 24) (.tmp 32) 72 rfl w.heap.size 29 i0 (.agg #[.bool false,.slice none 0 0]) 2 32 (by kernel_rfl) hi hz0 hz1 hz2 rfl (by decide) (.slice vo vl vc) (ps k).length ((ps k).flatMap ncells) rfl (by have:=(HOA.out.grow k hkl).1;rw [HVK.out] at this;exact this) ⟨wr.heap.size,0,none⟩ 1 1 [.bool neg,.slice lo ll lc] rfl rfl (World.news_of_block (heap_alloc_new wr.drew _)) (fun u hu=>by simp only [List.mem_cons,List.mem_nil_iff,or_false] at hu;rcases hu with rfl | rfl <;> rfl) (by decide) (by unfold maxLen;have:=HPL.out;omega) (by have:=HPL.out;omega) (by simp;omega) (wr.heap.size+1) (by simp) ?_;intro g5 cap5 w5 hown5 hgrow5 hat5 hlt5;have HO5:=hide hown5;have HG5:=hide hgrow5;have HA5:=hide hat5;clear hown5 hgrow5 hat5 hlt5;have e5:=HG5.out.cell d5 (by rw [← HVK.out];exact HON.out);have e9:=HG5.out.cell d9 (by rw [← HVK.out];exact HRB.out);have e12:=HG5.out.cell d12 (by rw [← HVK.out];exact HVB.out);have e13:=HG5.out.cell d13 (by rw [← HVK.out];exact HVB.out);refine hK.out _ _ (fun _=>⟨e5,e9,e12,e13⟩) ?_;clear hK K;try simp only [zA]
     have hHeld5:(fun w'=>w'.cell? ⟨w.heap.size,k,none⟩=some (.slice vo vl vc)∧w'.cell? ⟨rb,roff+q,none⟩=some (.slice (some ⟨vb,voff,none⟩) n vcap)∧w'.cell? ⟨vb,voff+k*2,none⟩=some (.bool neg)∧w'.cell? ⟨vb,voff+k*2+1,none⟩=some (.slice lo ll lc)) w5:=⟨e5,e9,e12,e13⟩;clear hHeld;refine zd 15 34 [16] ?_;try simp only [zA]
     have HP:=hide (HOA.out.push hkl [(⟨neg,lo,ll,lc⟩,z)] (fun p hp=>by rw [List.mem_singleton] at hp;subst hp;exact HNZ.out.below HOA.out.low zL) (fun i hi p hp=>by rw [List.mem_singleton] at hp;subst hp;exact HOA.out.old HNZ.out hi) (L:=(ps k).length+1) rfl (by have:=HO5.out;simpa [ncells] using this) (by rw [HVK.out];exact HG5.out) (by rw [HVK.out];exact HA5.out.imp id fun h=>by rw [h];simp));have ef:w5.frozen? ⟨w.heap.size,k,none⟩=false:=by
      have h1:=HOA.out.thaw k;rw [World.frozen?_of_block (a:=⟨w.heap.size,k,none⟩) (HG5.out.block w.heap.size HOA.out.lt (by rw [← HVK.out];exact HON.out))];exact h1
     refine ze 16 (by kernel_rfl) rfl (fun K hK=>?_);go_simp;refine hK.out _ _ (fun h=>absurd h (by decide)) ?_;clear hK K;try simp only [zA]
     refine zk (by kernel_rfl) ?_;have HD':Hid (∀ i,i<k→(updN ps k (ps k++[(⟨neg,lo,ll,lc⟩,z)]) i).map (·.2)=colL hs i):=fun i hi=>by rw [zal _ _ _ (by omega)];exact HD.out i hi
     have HM':Hid ((updN ps k (ps k++[(⟨neg,lo,ll,lc⟩,z)]) k).map (·.2)=colL (hs.take (q+1)) k):=by
      show _=_;rw [zaC,List.map_append,HM.out,HTK.out];rfl
     have HE':Hid (∀ i,k<i→updN ps k (ps k++[(⟨neg,lo,ll,lc⟩,z)]) i=[]):=fun i hi=>by rw [zal _ _ _ (by omega)];exact HE.out i hi
     clear c5 c9 c12 c13 d5 d9 d12 d13 e5 e9 e12 e13 ef HO5 HG5 HA5 HOA HO HD HM HE hHeld5;go_wp2;go_roundw
     case rel=>exact⟨q+1,_,_,by omega,by go_num,HP,HD',HM',HE'⟩
     case measure=>simp [intOf];omega
    ·obtain rfl:q=hs.length:=by omega
     rw [List.take_length] at HM;have HD':Hid (∀ i,i<k+1→(ps i).map (·.2)=colL hs i):=fun i hi=>by
      by_cases e:i=k
      ·rw [e];exact HM.out
      ·exact HD.out i (by omega)
     clear HD HM;go_wp2;go_roundw
     case rel=>exact⟨k+1,_,_,by omega,by go_num,HO,HD',hide (fun i hi=>HE.out i (by omega))⟩
     case measure=>simp [intOf];omega
  ·obtain rfl:k=n:=by omega
   go_wp2;go_ret;exact⟨_,_,_,rfl,HO.out,HD.out⟩
end Go.Proofs.YtdedolkgcdlmeaaGreatDoor
