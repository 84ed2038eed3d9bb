import Derived.Test.YtdedolkgcdlmeaaGreatDoorTurnL
namespace Go.Proofs.YtdedolkgcdlmeaaGreatDoor
open Go.RowKit Limbs
variable{w W W' W0:World}{n m N O B k i base:Nat}{v r:List Int}
def wideL (n:Nat)(hs ks:List (List Int)):List (List Int):=hs.map (fun r=>r++r)++ks.map (fun r=>r++List.replicate n 0)
theorem zaS (u v:List Int)(j:Nat)(hj:j<u.length):(u++v).getD j 0=u.getD j 0:=by
 rw [zG,zG,List.getElem?_append_left hj]
theorem zaT (u v:List Int)(j:Nat):(u++v).getD (u.length+j) 0=v.getD j 0:=by
 rw [zG,zG,List.getElem?_append_right (by omega),Nat.add_sub_cancel_left]
theorem zal (n j:Nat):(List.replicate n (0:Int)).getD j 0=0:=by
 rw [zG,List.getElem?_replicate];split <;> rfl
theorem zbh (x y:Int)(a b c d:List Int)(h:a.length=c.length):List.zipWith (fun u v=>x*u+y*v) (a++b) (c++d)=List.zipWith (fun u v=>x*u+y*v) a c++List.zipWith (fun u v=>x*u+y*v) b d:=List.zipWith_append h
theorem zda (x y:Int)(n:Nat):List.zipWith (fun u v=>x*u+y*v) (List.replicate n (0:Int)) (List.replicate n 0)=List.replicate n 0:=by
 apply zK (by simp);intro k hk;have hk':k<n:=by simpa using hk
 rw [zi _ _ _ (by simp) k (by simpa using hk'),zal];simp
theorem zlk{hs ks:List (List Int)}(h:Gens n (InL hs) v):Gens (n+n) (InL (wideL n hs ks)) (v++v):=by
 induction h with
 | base hv hl=>exact .base (List.mem_append.2 (.inl (List.mem_map.2 ⟨_,hv,rfl⟩))) (by rw [List.length_append,hl])
 | zero=>
  rw [List.replicate_append_replicate];exact .zero
 | comb x y hu hv h1 h2=>
  rw [← zbh x y _ _ _ _ (hu.len.trans hv.len.symm)];exact .comb x y h1 h2
theorem zli{hs ks:List (List Int)}(h:Gens n (InL ks) v):Gens (n+n) (InL (wideL n hs ks)) (v++List.replicate n 0):=by
 induction h with
 | base hv hl=>exact .base (List.mem_append.2 (.inr (List.mem_map.2 ⟨_,hv,rfl⟩))) (by rw [List.length_append,hl,List.length_replicate])
 | zero=>
  rw [List.replicate_append_replicate];exact .zero
 | comb x y hu hv h1 h2=>
  have:=Gens.comb x y h1 h2;rw [zbh x y _ _ _ _ (hu.len.trans hv.len.symm),zda] at this;exact this
theorem zlj{hs ks:List (List Int)}(hl:∀ r∈hs,r.length=n)(kl:∀ r∈ks,r.length=n){z:List Int}(h:Gens (n+n) (InL (wideL n hs ks)) z):∃ u v,z=u++v∧u.length=n∧v.length=n∧Gens n (InL hs) v∧Gens n (InL ks) (List.zipWith (fun a b=>1*a+-1*b) u v):=by
 induction h with
 | base hv _=>
  rcases List.mem_append.1 hv with h | h
  ·obtain⟨r,hr,rfl⟩:=List.mem_map.1 h;have hrl:=hl r hr;refine⟨r,r,rfl,hrl,hrl,.base hr hrl,?_⟩;have e:List.zipWith (fun a b=>1*a+-1*b) r r=List.replicate n 0:=by
    apply zK (by rw [zg _ _ _ rfl];simp [hrl]);intro k hk;rw [zg _ _ _ rfl] at hk;rw [zi _ _ _ rfl k hk,zal];omega
   rw [e];exact .zero
  ·obtain⟨r,hr,rfl⟩:=List.mem_map.1 h;have hrl:=kl r hr;refine⟨r,List.replicate n 0,rfl,hrl,by simp,.zero,?_⟩;have e:List.zipWith (fun a b=>1*a+-1*b) r (List.replicate n 0)=r:=by
    apply zK (by rw [zg _ _ _ (by simp [hrl])]);intro k hk;rw [zg _ _ _ (by simp [hrl])] at hk;rw [zi _ _ _ (by simp [hrl]) k hk,zal];omega
   rw [e];exact .base hr hrl
 | zero=>exact⟨List.replicate n 0,List.replicate n 0,List.replicate_append_replicate.symm,by simp,by simp,.zero,by rw [zda];exact .zero⟩
 | comb x y _ _ h1 h2=>
  obtain⟨u,v,rfl,hu,hv,g1,g2⟩:=h1;obtain⟨u',v',rfl,hu',hv',g1',g2'⟩:=h2;refine⟨_,_,zbh x y u v u' v' (hu.trans hu'.symm),by rw [zg _ _ _ (hu.trans hu'.symm),hu],by rw [zg _ _ _ (hv.trans hv'.symm),hv],.comb x y g1 g1',?_⟩;have e:List.zipWith (fun a b=>1*a+-1*b) (List.zipWith (fun a b=>x*a+y*b) u u') (List.zipWith (fun a b=>x*a+y*b) v v')=List.zipWith (fun a b=>x*a+y*b) (List.zipWith (fun a b=>1*a+-1*b) u v) (List.zipWith (fun a b=>1*a+-1*b) u' v'):=by
   have l1:=zg (fun a b=>x*a+y*b) u u' (hu.trans hu'.symm);have l2:=zg (fun a b=>x*a+y*b) v v' (hv.trans hv'.symm);have l3:=zg (fun a b=>1*a+-1*b) u v (hu.trans hv.symm);have l4:=zg (fun a b=>1*a+-1*b) u' v' (hu'.trans hv'.symm);have m1:(List.zipWith (fun a b=>x*a+y*b) u u').length=(List.zipWith (fun a b=>x*a+y*b) v v').length:=by rw [l1,l2,hu,hv]
   have m2:(List.zipWith (fun a b=>1*a+-1*b) u v).length=(List.zipWith (fun a b=>1*a+-1*b) u' v').length:=by rw [l3,l4,hu,hu']
   have n1:=zg (fun a b=>1*a+-1*b) _ _ m1;have n2:=zg (fun a b=>x*a+y*b) _ _ m2;apply zK (by rw [n1,n2,l1,l3]);intro k hk;rw [n1,l1,hu] at hk;have z1:=zi (fun a b=>1*a+-1*b) _ _ m1 k (by rw [l1,hu];exact hk);have z2:=zi (fun a b=>x*a+y*b) _ _ m2 k (by rw [l3,hu];exact hk);have z3:=zi (fun a b=>x*a+y*b) u u' (hu.trans hu'.symm) k (by omega);have z4:=zi (fun a b=>x*a+y*b) v v' (hv.trans hv'.symm) k (by omega);have z5:=zi (fun a b=>1*a+-1*b) u v (hu.trans hv.symm) k (by omega);have z6:=zi (fun a b=>1*a+-1*b) u' v' (hu'.trans hv'.symm) k (by omega);rw [z1,z2,z3,z4,z5,z6];simp only [Int.one_mul,Int.mul_add,Int.neg_mul,Int.mul_neg];omega
  rw [e];exact .comb x y g2 g2'
theorem zjf{hs ks:List (List Int)}(hl:∀ r∈hs,r.length=n)(kl:∀ r∈ks,r.length=n)(hv:v.length=n):Gens (n+n) (InL (wideL n hs ks)) (List.replicate n 0++v)↔Gens n (InL hs) v∧Gens n (InL ks) v:=by
 constructor
 ·intro h;obtain⟨a,b,e,ha,hb,g1,g2⟩:=zlj hl kl h;obtain⟨rfl,rfl⟩:=List.append_inj e (by simp [ha]);refine⟨g1,?_⟩;have g:=g2.scale (-1);have e:(List.zipWith (fun a b=>1*a+-1*b) (List.replicate n 0) v).map (-1*·)=v:=by
   apply zK (by rw [zM,zg _ _ _ (by simp [hv])];simp [hv]);intro k hk;rw [zM,zg _ _ _ (by simp [hv])] at hk;rw [zdA _ _ _ (by rw [zg _ _ _ (by simp [hv])];exact hk),zi _ _ _ (by simp [hv]) k hk,zal];omega
  rwa [e] at g
 ·rintro ⟨g1,g2⟩;have g:=Gens.comb 1 (-1) (zlk (ks:=ks) g1) (zli (hs:=hs) g2);rw [zbh 1 (-1) _ _ _ _ rfl] at g;have e1:List.zipWith (fun u v=>1*u+-1*v) v v=List.replicate n 0:=by
   apply zK (by rw [zg _ _ _ rfl];simp [hv]);intro k hk;rw [zg _ _ _ rfl] at hk;rw [zi _ _ _ rfl k hk,zal];omega
  have e2:List.zipWith (fun u v=>1*u+-1*v) v (List.replicate n 0)=v:=by
   apply zK (by rw [zg _ _ _ (by simp [hv])]);intro k hk;rw [zg _ _ _ (by simp [hv])] at hk;rw [zi _ _ _ (by simp [hv]) k hk,zal];omega
  rwa [e1,e2] at g
structure RowsI (w W:World)(B:Nat)(m:Nat)(rows:List (List Int))(k N:Nat):Prop where
 low:Below w.heap.size w W
 high:w.heap.size≤B
 lt:B<W.heap.size
 blk:∃ cs t,W.heap[B]?=some (.cells cs t)
 nil:∀ i,k≤i→i<m→W.cell? ⟨B,i,none⟩=some (.slice none 0 0)
 row:∀ i,i<k→∃ Q,W.cell? ⟨B,i,none⟩=some (.slice (some ⟨Q,0,none⟩) (rows.getD i []).length (rows.getD i []).length)∧VecN W (.slice (some ⟨Q,0,none⟩) (rows.getD i []).length (rows.getD i []).length) (rows.getD i []) N∧Q<W.heap.size∧Q≠B
theorem zdF (m i:Nat)(hi:i<m):(madeCells #[.slice none 0 0] m)[i]?=some (.slice none 0 0):=by
 simp [madeCells,hi,Nat.mod_one]
theorem RowsI.start(hb:Below w.heap.size w W0)(m:Nat)(rows:List (List Int))(N:Nat):RowsI w (W0.alloc (.cells (madeCells #[.slice none 0 0] m) 72)) W0.heap.size m rows 0 N:=by
 refine⟨hb.alloc hb.size _,hb.size,by simp,⟨_,_,heap_alloc_new W0 _⟩,fun i _ hi=>?_,fun i hi=>absurd hi (by omega)⟩;rw [World.cell?_alloc_new];exact zdF m i hi
theorem RowsI.later{rows:List (List Int)}(h:RowsI w W B m rows k N)(hb:Below W.heap.size W W'):RowsI w W' B m rows k N where
 low:=h.low.trans (hb.mono h.low.size)
 high:=h.high
 lt:=zT h.lt hb.size
 blk:=by obtain⟨cs,t,e⟩:=h.blk;exact⟨cs,t,(hb.block _ (zj e)).trans e⟩
 nil:=fun i h1 h2=>(hb.cell (p:=⟨B,i,none⟩) h.lt).trans (h.nil i h1 h2)
 row:=fun i hi=>by
  obtain⟨Q,e,hv,hq,hne⟩:=h.row i hi;exact⟨Q,(hb.cell (p:=⟨B,i,none⟩) h.lt).trans e,hv.below hb zL,zT hq hb.size,hne⟩
theorem RowsI.thaw{rows:List (List Int)}(h:RowsI w W B m rows k N)(i:Nat):W.frozen? ⟨B,i,none⟩=false:=by
 obtain⟨cs,t,e⟩:=h.blk;simp [World.frozen?,e]
theorem RowsI.step{rows:List (List Int)}(h:RowsI w W B m rows k N)(hk:k<m)(hb:Below W.heap.size (W.setCell ⟨B,k,none⟩ (.slice (some ⟨W.heap.size,0,none⟩) (rows.getD k []).length (rows.getD k []).length)) W')
  (hlt:W.heap.size<W'.heap.size) (hv:VecN W' (.slice (some ⟨W.heap.size,0,none⟩) (rows.getD k []).length (rows.getD k []).length) (rows.getD k []) N):RowsI w W' B m rows (k+1) N:=by
 have hnil:=h.nil k zL hk;have hu:∀ z,(Value.slice none 0 0)≠.int .u32 z:=fun z e=>by cases e
 have hlb:=h.lt;refine⟨(h.low.setCell (p:=⟨B,k,none⟩) h.high _).trans (hb.mono h.low.size),h.high,by omega,?_,fun i h1 h2=>?_,fun i hi=>?_⟩
 ·obtain⟨cs,t,e⟩:=h.blk;exact⟨_,t,(hb.block B hlb).trans (heap_setCell_same W B k _ _ _ e)⟩
 ·exact(hb.cell (p:=⟨B,i,none⟩) hlb).trans ((World.cell?_setCell_other (h:=fun e=>by simp at e <;> omega) ..).trans (h.nil i (by omega) h2))
 ·by_cases e:i=k
  ·subst e;exact⟨_,(hb.cell (p:=⟨B,i,none⟩) hlb).trans (World.cell?_setCell_same (h:=hnil) ..),hv,hlt,by omega⟩
  ·obtain⟨Q',e',hv',hq',hne'⟩:=h.row i (by omega);have hv2:=hv'.other (x:=.slice (some ⟨W.heap.size,0,none⟩) (rows.getD k []).length (rows.getD k []).length) hne' hnil hu;exact⟨Q',(hb.cell (p:=⟨B,i,none⟩) hlb).trans ((World.cell?_setCell_other (h:=fun e=>by simp at e <;> omega) ..).trans e'),hv2.below hb (by simp),by omega,hne'⟩
theorem RowsI.step_at{rows:List (List Int)}{L:Nat}(h:RowsI w W B m rows k N)(hk:k<m)(hr:rows.getD k []=r)(hL:r.length=L)(hb:Below W.heap.size (W.setCell ⟨B,k,none⟩ (.slice (some ⟨W.heap.size,0,none⟩) L L)) W')
  (hlt:W.heap.size<W'.heap.size) (hv:VecN W' (.slice (some ⟨W.heap.size,0,none⟩) r.length r.length) r N):RowsI w W' B m rows (k+1) N:=by
 subst hL hr;exact h.step hk hb hlt hv
theorem RowsI.mat{rows:List (List Int)}(h:RowsI w W B m rows m N)(hm:rows.length=m):MatN W (.slice (some ⟨B,0,none⟩) m m) rows N:=by
 subst hm;refine⟨_,_,rfl,Nat.le_refl _,fun h0=>⟨_,_,rfl,h.lt,fun i zs hi=>?_⟩⟩;obtain⟨hi',e⟩:=List.getElem?_eq_some_iff.1 hi;obtain⟨Q,e1,hv,-,-⟩:=h.row i hi';rw [zl hi',e] at e1 hv;exact⟨_,by rw [Nat.zero_add];exact e1,hv⟩
theorem zi8 (W:World)(ob:Obj)(B k:Nat)(hB:B<W.heap.size)(x:Value):Below W.heap.size (W.setCell ⟨B,k,none⟩ x) ((W.alloc ob).setCell ⟨B,k,none⟩ x):=by
 have hb:=(zB W.heap.size W).alloc zL ob;refine⟨rfl,rfl,rfl,by simp,fun j hj=>?_⟩;have e:=hb.block j hj;by_cases hjB:j=B
 ·subst hjB;unfold World.setCell;simp only [Array.getElem?_modify];simp [e]
 ·rw [heap_setCell_other _ ⟨B,k,none⟩ j x (fun h=>hjB h),heap_setCell_other _ ⟨B,k,none⟩ j x (fun h=>hjB h)];exact e
theorem zi9 (W:World)(m N:Nat):MatN (W.alloc (.cells (madeCells #[.slice none 0 0] m) 72)) (.slice (some ⟨W.heap.size,0,none⟩) m m) (List.replicate m []) N:=by
 refine⟨_,m,by rw [List.length_replicate],by rw [List.length_replicate];exact Nat.le_refl _,fun _=>⟨_,_,rfl,by simp,fun i zs hi=>?_⟩⟩;have hi':=(List.getElem?_eq_some_iff.1 hi).1;rw [List.length_replicate] at hi';have:zs=[]:=by rw [List.getElem?_replicate,if_pos hi'] at hi;exact(zI hi).symm
 subst this;refine⟨.slice none 0 0,?_,⟨none,0,rfl,Nat.le_refl _,fun h=>absurd h (by simp)⟩⟩;rw [Nat.zero_add,World.cell?_alloc_new];exact zdF m i hi'
def besL (n:Nat)(hs os:List (List Int)):List (List Int):=List.zipWith (fun r o=>r ++(o++List.replicate (n-o.length) 0)) hs os
theorem zcU (n:Nat)(hs os:List (List Int))(h:os.length=hs.length):(besL n hs os).length=hs.length:=by
 unfold besL;rw [List.length_zipWith];omega
theorem zgX (n:Nat)(hs os:List (List Int))(k:Nat)(h1:k<hs.length)(h2:k<os.length):(besL n hs os).getD k []=hs[k] ++(os[k]++List.replicate (n-os[k].length) 0):=by
 unfold besL;rw [zG,List.getElem?_zipWith,List.getElem?_eq_getElem h1,List.getElem?_eq_getElem h2];rfl
theorem zev{hs os:List (List Int)}(hl:∀ r∈hs,r.length=n)(ho:∀ r∈os,r.length≤n):∀ r∈besL n hs os,r.length=n+n:=fun r hr=>by
 obtain⟨k,hk,rfl⟩:=List.getElem_of_mem hr;unfold besL at hk ⊢;rw [List.length_zipWith] at hk;rw [List.getElem_zipWith];have e1:=hl hs[k] (List.getElem_mem (by omega));have e2:=ho os[k] (List.getElem_mem (by omega));rw [List.length_append,List.length_append,List.length_replicate];omega
theorem zgZ{hs:List (List Int)}(hl:∀ r∈hs,r.length=n):besL n hs hs=hs.map fun r=>r++r:=by
 induction hs with
 | nil=>rfl
 | cons r hs ih=>
  have e:=hl r (by simp);have:=ih (fun x hx=>hl x (by simp [hx]));unfold besL at this ⊢;rw [List.zipWith_cons_cons,this,List.map_cons,e,Nat.sub_self];simp
theorem zgY (n:Nat)(ks:List (List Int)):besL n ks (List.replicate ks.length [])=ks.map fun r=>r++List.replicate n 0:=by
 induction ks with
 | nil=>rfl
 | cons r ks ih=>
  unfold besL at ih ⊢;rw [List.length_cons,List.replicate_succ,List.zipWith_cons_cons,ih,List.map_cons];simp
theorem zg0{hs ks:List (List Int)}(hl:∀ r∈hs,r.length=n):besL n hs hs++besL n ks (List.replicate ks.length [])=wideL n hs ks:=by
 rw [zgZ hl,zgY];rfl
theorem zku(hr:r.length=n):splice (List.replicate (2*n) 0) 0 r=r++List.replicate n 0:=by
 unfold splice;rw [List.take_zero,List.nil_append,List.drop_replicate,hr];congr 2;omega
theorem zkv{o:List Int}(hr:r.length=n)(ho:o.length≤n):splice (r++List.replicate n 0) n o=r ++(o++List.replicate (n-o.length) 0):=by
 unfold splice;rw [List.take_left' hr];have e:(r++List.replicate n (0:Int)).drop (n+o.length)=List.replicate (n-o.length) 0:=by
  rw [List.drop_append,hr,List.drop_of_length_le (by omega),List.nil_append,List.drop_replicate];congr 1;omega
 rw [e]
def updN {α:Type}(f:Nat→α)(k:Nat)(x:α):Nat→α:=fun i=>if i=k then x else f i
theorem zay {α:Type}(f:Nat→α)(k:Nat)(x:α):updN f k x k=x:=if_pos rfl
theorem zaj {α:Type}(f:Nat→α)(k:Nat)(x:α)(h:i≠k):updN f k x i=f i:=if_neg h
structure OutG (w W:World)(O m:Nat)(vs:Nat→Value)(ps:Nat→List (Nm × Int))(N:Nat):Prop where
 low:Below w.heap.size w W
 high:w.heap.size≤O
 blk:∃ cs,W.heap[O]?=some (.cells cs 72)
 cell:∀ i,i<m→W.cell? ⟨O,i,none⟩=some (vs i)
 grow:∀ i,i<m→Grow W w.heap.size (vs i) (ps i) N
 two:∀ i k,i<m→k<m→i≠k→∀ g,(vs i).ownBlock=some g→(vs k).ownBlock≠some g
 lim:∀ i k,i<m→k<m→∀ p∈ps i,apart (vs k).ownBlock p.1.sl
theorem OutG.start(hb:Below w.heap.size w W0)(m N:Nat):OutG w (W0.alloc (.cells (madeCells #[.slice none 0 0] m) 72)) W0.heap.size m (fun _=>.slice none 0 0) (fun _=>[]) N where
 low:=hb.alloc hb.size _
 high:=hb.size
 blk:=⟨_,heap_alloc_new W0 _⟩
 cell:=fun i hi=>by
  rw [World.cell?_alloc_new];exact zdF m i hi
 grow:=fun _ _=>Grow.nil _ _ _
 two:=fun _ _ _ _ _ g h=>by cases h
 lim:=fun _ _ _ _ p hp=>by cases hp
theorem OutG.lt{vs:Nat→Value}{ps:Nat→List (Nm × Int)}(h:OutG w W O m vs ps N):O<W.heap.size:=by
 obtain⟨cs,e⟩:=h.blk;exact zj e
theorem OutG.thaw{vs:Nat→Value}{ps:Nat→List (Nm × Int)}(h:OutG w W O m vs ps N)(k:Nat):W.frozen? ⟨O,k,none⟩=false:=by
 obtain⟨cs,e⟩:=h.blk;simp [World.frozen?,e]
theorem OutG.later{vs:Nat→Value}{ps:Nat→List (Nm × Int)}(h:OutG w W O m vs ps N)(hb:Below W.heap.size W W'):OutG w W' O m vs ps N where
 low:=h.low.trans (hb.mono h.low.size)
 high:=h.high
 blk:=by obtain⟨cs,e⟩:=h.blk;exact⟨cs,(hb.block _ (zj e)).trans e⟩
 cell:=fun i hi=>(hb.cell (p:=⟨O,i,none⟩) h.lt).trans (h.cell i hi)
 grow:=fun i hi=>(h.grow i hi).later hb
 two:=h.two
 lim:=h.lim
theorem OutG.own_ne{vs:Nat→Value}{ps:Nat→List (Nm × Int)}(h:OutG w W O m vs ps N)(hi:i<m):some O≠(vs i).ownBlock:=fun e=>by
 obtain⟨cs,hO⟩:=h.blk;rcases(h.grow i hi).1.2 with⟨e1,-⟩ |⟨g,cap,cur,e1,-,hh,-⟩
 ·rw [e1] at e;cases e
 ·rw [e1] at e;simp only [Value.ownBlock,Option.some.injEq] at e;rw [← e,hO] at hh;simp only [Option.some.injEq,Obj.cells.injEq] at hh;exact absurd hh.2.1 (by decide)
theorem zfJ{e:TypeId}{size:Nat}{v:Value}{xs:List Value}(h:W.ownsRow base e size v n xs)(hk:∀ g,v.ownBlock=some g→W'.heap[g]?=W.heap[g]?):W'.ownsRow base e size v n xs:=by
 refine⟨h.1,?_⟩;rcases h.2 with hn |⟨g,cap,cur,ev,hbg,hg,rest⟩
 ·exact .inl hn
 ·exact .inr ⟨g,cap,cur,ev,hbg,(hk g (by rw [ev];rfl)).trans hg,rest⟩
theorem zcH{v:Value}{ps:List (Nm × Int)}(h:Grow W base v ps n){g:Nat}(hg:v.ownBlock=some g):g<W.heap.size:=(h.1.lt g hg).2
theorem OutG.push{W3:World}{vs:Nat→Value}{ps:Nat→List (Nm × Int)}(h:OutG w W O m vs ps N)(hk:k<m)(qs:List (Nm × Int))(hq:∀ p∈qs,NumL W p.1.val p.2 N)(hqa:∀ i,i<m→∀ p∈qs,apart (vs i).ownBlock p.1.sl)
  {g L cap:Nat} (hL:L=(ps k).length+qs.length) (hown:W3.ownsRow w.heap.size 29 2 (.slice (some ⟨g,0,none⟩) L cap) L ((ps k).flatMap ncells++qs.flatMap ncells)) (hg:W.grownBy W3 (vs k).ownBlock) (hat:(vs k).ownBlock=some g∨W.heap.size≤g):
  OutG w (W3.setCell ⟨O,k,none⟩ (.slice (some ⟨g,0,none⟩) L cap)) O m (updN vs k (.slice (some ⟨g,0,none⟩) L cap)) (updN ps k (ps k++qs)) N:=by
 obtain⟨cs,hO⟩:=h.blk;have hOlt:=h.lt;have hO3:W3.heap[O]?=some (.cells cs 72):=(hg.block O hOlt (h.own_ne hk)).trans hO;have hc3:∀ i,i<m→W3.cell? ⟨O,i,none⟩=some (vs i):=fun i hi=>hg.cell (h.cell i hi) (h.own_ne hk);have hgO:g≠O:=by
  intro e;rcases hown.2 with⟨e1,-⟩ |⟨g',cap',cur,e1,-,hh,-⟩
  ·cases e1
  ·simp only [zV,Option.some.injEq,Addr.mk.injEq,and_true] at e1;rw [← e1.1,e,hO3] at hh;simp only [Option.some.injEq,Obj.cells.injEq] at hh;exact absurd hh.2.1 (by decide)
 have hslice:∃ o l c,vs k=.slice o l c:=by
  rcases(h.grow k hk).1.2 with⟨e1,-⟩ |⟨g',cap',cur,e1,-⟩
  ·exact⟨_,_,_,e1⟩
  ·exact⟨_,_,_,e1⟩
 have hu:∀ z,vs k≠.int .u32 z:=fun z e=>by
  obtain⟨o,l,c,e1⟩:=hslice;rw [e1] at e;cases e
 have hnum:∀ p:Nm × Int,NumL W p.1.val p.2 N→apart (vs k).ownBlock p.1.sl→NumL (W3.setCell ⟨O,k,none⟩ (.slice (some ⟨g,0,none⟩) L cap)) p.1.val p.2 N:=fun p h1 h2=>(h1.grown hg h2).setCell (hc3 k hk) hu;have hnew:∀ p:Nm × Int,NumL W p.1.val p.2 N→apart (vs k).ownBlock p.1.sl→apart (some g) p.1.sl:=fun p h1 h2 a l c e h0 hb=>by
  rcases hat with hat | hat
  ·exact h2 a l c e h0 (hb.trans hat.symm)
  ·have:=h1.inside a l c e h0;simp only [Option.some.injEq] at hb;omega
 have hall:∀ i,i<m→∀ p∈updN ps k (ps k++qs) i,NumL W p.1.val p.2 N∧∀ j,j<m→apart (vs j).ownBlock p.1.sl:=fun i hi p hp=>by
  by_cases e:i=k
  ·rw [e,zay] at hp;rcases List.mem_append.1 hp with hp | hp
   ·exact⟨((h.grow k hk).2 p hp).1,fun j hj=>h.lim k j hk hj p hp⟩
   ·exact⟨hq p hp,fun j hj=>hqa j hj p hp⟩
  ·rw [zaj _ _ _ e] at hp;exact⟨((h.grow i hi).2 p hp).1,fun j hj=>h.lim i j hi hj p hp⟩
 have hlim:∀ i j,i<m→j<m→∀ p∈updN ps k (ps k++qs) i,apart (updN vs k (.slice (some ⟨g,0,none⟩) L cap) j).ownBlock p.1.sl:=fun i j hi hj p hp=>by
  obtain⟨h1,h2⟩:=hall i hi p hp;by_cases e:j=k
  ·rw [e,zay];exact hnew p h1 (h2 k hk)
  ·rw [zaj _ _ _ e];exact h2 j hj
 have hheap:∀ b,b≠O→(W3.setCell ⟨O,k,none⟩ (.slice (some ⟨g,0,none⟩) L cap)).heap[b]?=W3.heap[b]?:=fun b hb=>heap_setCell_other _ _ b _ (fun e=>hb e);have hb3:Below w.heap.size w W3:=h.low.grown hg h.low.size (fun b hb=>((h.grow k hk).1.lt b hb).1);refine⟨hb3.setCell (p:=⟨O,k,none⟩) h.high _,h.high,⟨_,heap_setCell_same W3 O k _ _ _ hO3⟩,fun i hi=>?_,fun i hi=>⟨?_,fun p hp=>⟨?_,hlim i i hi hi p hp⟩⟩,fun i j hi hj hij b h1 h2=>?_,hlim⟩
 ·by_cases e:i=k
  ·rw [e,zay];exact World.cell?_setCell_same (h:=hc3 k hk) ..
  ·rw [zaj _ _ _ e];exact(World.cell?_setCell_other (h:=fun e'=>by simp at e' <;> omega) ..).trans (hc3 i hi)
 ·by_cases e:i=k
  ·rw [e,zay,zay,List.length_append,← hL,List.flatMap_append];exact zfJ hown fun b hb=>hheap b (by
    simp only [Value.ownBlock,Option.some.injEq] at hb;omega)
  ·rw [zaj _ _ _ e,zaj _ _ _ e];refine zfJ (h.grow i hi).1 fun b hb=>(hheap b fun e'=>h.own_ne hi (by rw [hb,e'])).trans ?_;exact hg.block b (zcH (h.grow i hi) hb) fun e'=>h.two i k hi hk e b hb e'.symm
 ·obtain⟨h1,h2⟩:=hall i hi p hp;exact hnum p h1 (h2 k hk)
 ·by_cases e:i=k
  ·rw [e,zay] at h1;have ej:j≠k:=by omega
   rw [zaj _ _ _ ej] at h2;simp only [Value.ownBlock,Option.some.injEq] at h1;rcases hat with hat | hat
   ·exact h.two k j hk hj (by omega) b (by rw [hat,h1]) h2
   ·have:=zcH (h.grow j hj) h2;omega
  ·rw [zaj _ _ _ e] at h1;by_cases ej:j=k
   ·rw [ej,zay] at h2;simp only [Value.ownBlock,Option.some.injEq] at h2;rcases hat with hat | hat
    ·exact h.two k i hk hi (by omega) b (by rw [hat,h2]) h1
    ·have:=zcH (h.grow i hi) h1;omega
   ·rw [zaj _ _ _ ej] at h2;exact h.two i j hi hj hij b h1 h2
theorem OutG.mat{vs:Nat→Value}{ps:Nat→List (Nm × Int)}(h:OutG w W O m vs ps N)(zss:List (List Int))(hl:zss.length=m)(hz:∀ i,i<m→(ps i).map (·.2)=zss.getD i []):MatN W (.slice (some ⟨O,0,none⟩) m m) zss N:=by
 subst hl;refine⟨_,_,rfl,Nat.le_refl _,fun h0=>⟨_,_,rfl,h.lt,fun i zs hi=>?_⟩⟩;obtain⟨hi',e⟩:=List.getElem?_eq_some_iff.1 hi;refine⟨vs i,by rw [Nat.zero_add];exact h.cell i hi',?_⟩;have:=(h.grow i hi').vec;rw [hz i hi',zl hi',e] at this;exact this
theorem OutG.old{vs:Nat→Value}{ps:Nat→List (Nm × Int)}(h:OutG w W O m vs ps N){r:Nm}{z:Int}(hr:NumL w r.val z n)(hi:i<m):apart (vs i).ownBlock r.sl:=fun a l c e h0 hb=>by
 have h1:=hr.inside a l c e h0;have h2:=((h.grow i hi).1.lt a.block hb.symm).1;omega
end Go.Proofs.YtdedolkgcdlmeaaGreatDoor
