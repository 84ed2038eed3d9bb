import Derived.Test.YtdedolkgcdlmeaaGreatDoorTurnL
namespace Go.Proofs.YtdedolkgcdlmeaaGreatDoor
open Go.RowKit Limbs
variable {n B m N k:Nat}{w W W':World}{v r:List Int}
def wideL (n:Nat)(hs ks:List (List Int)):List (List Int):=hs.map (fun r=>r++r)++ks.map (fun r=>r++List.replicate n 0)
theorem zbZ (u v:List Int)(j:Nat)(hj:j<u.length):(u++v).getD j 0=u.getD j 0:=by
 rw [zG,zG,List.getElem?_append_left hj]
theorem zb8 (u v:List Int)(j:Nat):(u++v).getD (u.length+j) 0=v.getD j 0:=by
 rw [zG,zG,List.getElem?_append_right (by omega),Nat.add_sub_cancel_left]
theorem zaG (n j:Nat):(List.replicate n (0:Int)).getD j 0=0:=by
 rw [zG,List.getElem?_replicate];split <;> rfl
theorem zbt (x y:Int)(a b c d:List Int)(h:a.length=c.length):List.zipWith (fun u v=>x*u+y*v) (a++b) (c++d)=List.zipWith (fun u v=>x*u+y*v) a c++List.zipWith (fun u v=>x*u+y*v) b d:=List.zipWith_append h
theorem zdv (x y:Int)(n:Nat):List.zipWith (fun u v=>x*u+y*v) (List.replicate n (0:Int)) (List.replicate n 0)=List.replicate n 0:=by
 apply zK (by simp);intro k hk;have hk':k<n:=by simpa using hk
 rw [zl _ _ _ (by simp) k (by simpa using hk'),zaG];simp
theorem zmD{hs ks:List (List Int)}(h:Gens n (InL hs) v):Gens (n+n) (InL (wideL n hs ks)) (v++v):=by
 induction h with
 | base hv hl=>exact .base (List.mem_append.2 (.inl (List.mem_map.2 ⟨_,hv,rfl⟩))) (by rw [List.length_append,hl])
 | zero=>
  rw [List.replicate_append_replicate];exact .zero
 | comb x y hu hv h1 h2=>
  rw [← zbt x y _ _ _ _ (hu.len.trans hv.len.symm)];exact .comb x y h1 h2
theorem zmB{hs ks:List (List Int)}(h:Gens n (InL ks) v):Gens (n+n) (InL (wideL n hs ks)) (v++List.replicate n 0):=by
 induction h with
 | base hv hl=>exact .base (List.mem_append.2 (.inr (List.mem_map.2 ⟨_,hv,rfl⟩))) (by rw [List.length_append,hl,List.length_replicate])
 | zero=>
  rw [List.replicate_append_replicate];exact .zero
 | comb x y hu hv h1 h2=>
  have:=Gens.comb x y h1 h2;rw [zbt x y _ _ _ _ (hu.len.trans hv.len.symm),zdv] at this;exact this
theorem zmC{hs ks:List (List Int)}(hl:∀ r∈hs,r.length=n)(kl:∀ r∈ks,r.length=n){z:List Int}(h:Gens (n+n) (InL (wideL n hs ks)) z):∃ u v,z=u++v∧u.length=n∧v.length=n∧Gens n (InL hs) v∧Gens n (InL ks) (List.zipWith (fun a b=>1*a+-1*b) u v):=by
 induction h with
 | base hv _=>
  rcases List.mem_append.1 hv with h | h
  ·obtain⟨r,hr,rfl⟩:=List.mem_map.1 h;have hrl:=hl r hr;refine⟨r,r,rfl,hrl,hrl,.base hr hrl,?_⟩;have e:List.zipWith (fun a b=>1*a+-1*b) r r=List.replicate n 0:=by
    apply zK (by rw [zj _ _ _ rfl];simp [hrl]);intro k hk;rw [zj _ _ _ rfl] at hk;rw [zl _ _ _ rfl k hk,zaG];omega
   rw [e];exact .zero
  ·obtain⟨r,hr,rfl⟩:=List.mem_map.1 h;have hrl:=kl r hr;refine⟨r,List.replicate n 0,rfl,hrl,by simp,.zero,?_⟩;have e:List.zipWith (fun a b=>1*a+-1*b) r (List.replicate n 0)=r:=by
    apply zK (by rw [zj _ _ _ (by simp [hrl])]);intro k hk;rw [zj _ _ _ (by simp [hrl])] at hk;rw [zl _ _ _ (by simp [hrl]) k hk,zaG];omega
   rw [e];exact .base hr hrl
 | zero=>exact⟨List.replicate n 0,List.replicate n 0,List.replicate_append_replicate.symm,by simp,by simp,.zero,by rw [zdv];exact .zero⟩
 | comb x y _ _ h1 h2=>
  obtain⟨u,v,rfl,hu,hv,g1,g2⟩:=h1;obtain⟨u',v',rfl,hu',hv',g1',g2'⟩:=h2;refine⟨_,_,zbt x y u v u' v' (hu.trans hu'.symm),by rw [zj _ _ _ (hu.trans hu'.symm),hu],by rw [zj _ _ _ (hv.trans hv'.symm),hv],.comb x y g1 g1',?_⟩;have e:List.zipWith (fun a b=>1*a+-1*b) (List.zipWith (fun a b=>x*a+y*b) u u') (List.zipWith (fun a b=>x*a+y*b) v v')=List.zipWith (fun a b=>x*a+y*b) (List.zipWith (fun a b=>1*a+-1*b) u v) (List.zipWith (fun a b=>1*a+-1*b) u' v'):=by
   have l1:=zj (fun a b=>x*a+y*b) u u' (hu.trans hu'.symm);have l2:=zj (fun a b=>x*a+y*b) v v' (hv.trans hv'.symm);have l3:=zj (fun a b=>1*a+-1*b) u v (hu.trans hv.symm);have l4:=zj (fun a b=>1*a+-1*b) u' v' (hu'.trans hv'.symm);have m1:(List.zipWith (fun a b=>x*a+y*b) u u').length=(List.zipWith (fun a b=>x*a+y*b) v v').length:=by rw [l1,l2,hu,hv]
   have m2:(List.zipWith (fun a b=>1*a+-1*b) u v).length=(List.zipWith (fun a b=>1*a+-1*b) u' v').length:=by rw [l3,l4,hu,hu']
   have n1:=zj (fun a b=>1*a+-1*b) _ _ m1;have n2:=zj (fun a b=>x*a+y*b) _ _ m2;apply zK (by rw [n1,n2,l1,l3]);intro k hk;rw [n1,l1,hu] at hk;have z1:=zl (fun a b=>1*a+-1*b) _ _ m1 k (by rw [l1,hu];exact hk);have z2:=zl (fun a b=>x*a+y*b) _ _ m2 k (by rw [l3,hu];exact hk);have z3:=zl (fun a b=>x*a+y*b) u u' (hu.trans hu'.symm) k (by omega);have z4:=zl (fun a b=>x*a+y*b) v v' (hv.trans hv'.symm) k (by omega);have z5:=zl (fun a b=>1*a+-1*b) u v (hu.trans hv.symm) k (by omega);have z6:=zl (fun a b=>1*a+-1*b) u' v' (hu'.trans hv'.symm) k (by omega);rw [z1,z2,z3,z4,z5,z6];simp only [Int.one_mul,Int.mul_add,Int.neg_mul,Int.mul_neg];omega
  rw [e];exact .comb x y g2 g2'
theorem zkx{hs ks:List (List Int)}(hl:∀ r∈hs,r.length=n)(kl:∀ r∈ks,r.length=n)(hv:v.length=n):Gens (n+n) (InL (wideL n hs ks)) (List.replicate n 0++v)↔Gens n (InL hs) v∧Gens n (InL ks) v:=by
 constructor
 ·intro h;obtain⟨a,b,e,ha,hb,g1,g2⟩:=zmC hl kl h;obtain⟨rfl,rfl⟩:=List.append_inj e (by simp [ha]);refine⟨g1,?_⟩;have g:=g2.scale (-1);have e:(List.zipWith (fun a b=>1*a+-1*b) (List.replicate n 0) v).map (-1*·)=v:=by
   apply zK (by rw [zM,zj _ _ _ (by simp [hv])];simp [hv]);intro k hk;rw [zM,zj _ _ _ (by simp [hv])] at hk;rw [zdY _ _ _ (by rw [zj _ _ _ (by simp [hv])];exact hk),zl _ _ _ (by simp [hv]) k hk,zaG];omega
  rwa [e] at g
 ·rintro ⟨g1,g2⟩;have g:=Gens.comb 1 (-1) (zmD (ks:=ks) g1) (zmB (hs:=hs) g2);rw [zbt 1 (-1) _ _ _ _ rfl] at g;have e1:List.zipWith (fun u v=>1*u+-1*v) v v=List.replicate n 0:=by
   apply zK (by rw [zj _ _ _ rfl];simp [hv]);intro k hk;rw [zj _ _ _ rfl] at hk;rw [zl _ _ _ rfl k hk,zaG];omega
  have e2:List.zipWith (fun u v=>1*u+-1*v) v (List.replicate n 0)=v:=by
   apply zK (by rw [zj _ _ _ (by simp [hv])]);intro k hk;rw [zj _ _ _ (by simp [hv])] at hk;rw [zl _ _ _ (by simp [hv]) k hk,zaG];omega
  rwa [e1,e2] at g
structure RowsI (w W:World)(B:Nat)(m:Nat)(rows:List (List Int))(k N:Nat):Prop where
 low:Below w.heap.size w W
 high:w.heap.size≤B
 lt:B<W.heap.size
 blk:∃ cs t,W.heap[B]?=some (.cells cs t)
 nil:∀ i,k≤i→i<m→W.cell? ⟨B,i,none⟩=some (.slice none 0 0)
 row:∀ i,i<k→∃ Q,W.cell? ⟨B,i,none⟩=some (.slice (some ⟨Q,0,none⟩) (rows.getD i []).length (rows.getD i []).length)∧VecN W (.slice (some ⟨Q,0,none⟩) (rows.getD i []).length (rows.getD i []).length) (rows.getD i []) N∧Q<W.heap.size∧Q≠B
theorem zd6 (m i:Nat)(hi:i<m):(madeCells #[.slice none 0 0] m)[i]?=some (.slice none 0 0):=by
 simp [madeCells,hi,Nat.mod_one]
theorem RowsI.start{W0:World}(hb:Below w.heap.size w W0)(m:Nat)(rows:List (List Int))(N:Nat):RowsI w (W0.alloc (.cells (madeCells #[.slice none 0 0] m) 72)) W0.heap.size m rows 0 N:=by
 refine⟨hb.alloc hb.size _,hb.size,by simp,⟨_,_,heap_alloc_new W0 _⟩,fun i _ hi=>?_,fun i hi=>absurd hi (by omega)⟩;rw [World.cell?_alloc_new];exact zd6 m i hi
theorem RowsI.later{rows:List (List Int)}(h:RowsI w W B m rows k N)(hb:Below W.heap.size W W'):RowsI w W' B m rows k N where
 low:=h.low.trans (hb.mono h.low.size)
 high:=h.high
 lt:=zT h.lt hb.size
 blk:=by obtain⟨cs,t,e⟩:=h.blk;exact⟨cs,t,(hb.block _ (zt e)).trans e⟩
 nil:=fun i h1 h2=>(hb.cell (p:=⟨B,i,none⟩) h.lt).trans (h.nil i h1 h2)
 row:=fun i hi=>by
  obtain⟨Q,e,hv,hq,hne⟩:=h.row i hi;exact⟨Q,(hb.cell (p:=⟨B,i,none⟩) h.lt).trans e,hv.below hb zL,zT hq hb.size,hne⟩
theorem RowsI.thaw{rows:List (List Int)}(h:RowsI w W B m rows k N)(i:Nat):W.frozen? ⟨B,i,none⟩=false:=by
 obtain⟨cs,t,e⟩:=h.blk;simp [World.frozen?,e]
theorem RowsI.step{rows:List (List Int)}(h:RowsI w W B m rows k N)(hk:k<m)(hb:Below W.heap.size (W.setCell ⟨B,k,none⟩ (.slice (some ⟨W.heap.size,0,none⟩) (rows.getD k []).length (rows.getD k []).length)) W')
  (hlt:W.heap.size<W'.heap.size) (hv:VecN W' (.slice (some ⟨W.heap.size,0,none⟩) (rows.getD k []).length (rows.getD k []).length) (rows.getD k []) N):RowsI w W' B m rows (k+1) N:=by
 have hnil:=h.nil k zL hk;have hu:∀ z,(Value.slice none 0 0)≠.int .u32 z:=fun z e=>by cases e
 have hlb:=h.lt;refine⟨(h.low.setCell (p:=⟨B,k,none⟩) h.high _).trans (hb.mono h.low.size),h.high,by omega,?_,fun i h1 h2=>?_,fun i hi=>?_⟩
 ·obtain⟨cs,t,e⟩:=h.blk;exact⟨_,t,(hb.block B hlb).trans (heap_setCell_same W B k _ _ _ e)⟩
 ·exact(hb.cell (p:=⟨B,i,none⟩) hlb).trans ((World.cell?_setCell_other (h:=fun e=>by simp at e <;> omega) ..).trans (h.nil i (by omega) h2))
 ·by_cases e:i=k
  ·subst e;exact⟨_,(hb.cell (p:=⟨B,i,none⟩) hlb).trans (World.cell?_setCell_same (h:=hnil) ..),hv,hlt,by omega⟩
  ·obtain⟨Q',e',hv',hq',hne'⟩:=h.row i (by omega);have hv2:=hv'.other (x:=.slice (some ⟨W.heap.size,0,none⟩) (rows.getD k []).length (rows.getD k []).length) hne' hnil hu;exact⟨Q',(hb.cell (p:=⟨B,i,none⟩) hlb).trans ((World.cell?_setCell_other (h:=fun e=>by simp at e <;> omega) ..).trans e'),hv2.below hb (by simp),by omega,hne'⟩
theorem RowsI.step_at{rows:List (List Int)}{L:Nat}(h:RowsI w W B m rows k N)(hk:k<m)(hr:rows.getD k []=r)(hL:r.length=L)(hb:Below W.heap.size (W.setCell ⟨B,k,none⟩ (.slice (some ⟨W.heap.size,0,none⟩) L L)) W')
  (hlt:W.heap.size<W'.heap.size) (hv:VecN W' (.slice (some ⟨W.heap.size,0,none⟩) r.length r.length) r N):RowsI w W' B m rows (k+1) N:=by
 subst hL hr;exact h.step hk hb hlt hv
theorem RowsI.mat{rows:List (List Int)}(h:RowsI w W B m rows m N)(hm:rows.length=m):MatN W (.slice (some ⟨B,0,none⟩) m m) rows N:=by
 subst hm;refine⟨_,_,rfl,Nat.le_refl _,fun h0=>⟨_,_,rfl,h.lt,fun i zs hi=>?_⟩⟩;obtain⟨hi',e⟩:=List.getElem?_eq_some_iff.1 hi;obtain⟨Q,e1,hv,-,-⟩:=h.row i hi';rw [zm hi',e] at e1 hv;exact⟨_,by rw [Nat.zero_add];exact e1,hv⟩
theorem zkr (W:World)(ob:Obj)(B k:Nat)(hB:B<W.heap.size)(x:Value):Below W.heap.size (W.setCell ⟨B,k,none⟩ x) ((W.alloc ob).setCell ⟨B,k,none⟩ x):=by
 have hb:=(zB W.heap.size W).alloc zL ob;refine⟨rfl,rfl,rfl,by simp,fun j hj=>?_⟩;have e:=hb.block j hj;by_cases hjB:j=B
 ·subst hjB;unfold World.setCell;simp only [Array.getElem?_modify];simp [e]
 ·rw [heap_setCell_other _ ⟨B,k,none⟩ j x (fun h=>hjB h),heap_setCell_other _ ⟨B,k,none⟩ j x (fun h=>hjB h)];exact e
theorem zks (W:World)(m N:Nat):MatN (W.alloc (.cells (madeCells #[.slice none 0 0] m) 72)) (.slice (some ⟨W.heap.size,0,none⟩) m m) (List.replicate m []) N:=by
 refine⟨_,m,by rw [List.length_replicate],by rw [List.length_replicate];exact Nat.le_refl _,fun _=>⟨_,_,rfl,by simp,fun i zs hi=>?_⟩⟩;have hi':=(List.getElem?_eq_some_iff.1 hi).1;rw [List.length_replicate] at hi';have:zs=[]:=by rw [List.getElem?_replicate,if_pos hi'] at hi;exact(zI hi).symm
 subst this;refine⟨.slice none 0 0,?_,⟨none,0,rfl,Nat.le_refl _,fun h=>absurd h (by simp)⟩⟩;rw [Nat.zero_add,World.cell?_alloc_new];exact zd6 m i hi'
def besL (n:Nat)(hs os:List (List Int)):List (List Int):=List.zipWith (fun r o=>r ++(o++List.replicate (n-o.length) 0)) hs os
theorem zdn (n:Nat)(hs os:List (List Int))(h:os.length=hs.length):(besL n hs os).length=hs.length:=by
 unfold besL;rw [List.length_zipWith];omega
theorem zh1 (n:Nat)(hs os:List (List Int))(k:Nat)(h1:k<hs.length)(h2:k<os.length):(besL n hs os).getD k []=hs[k] ++(os[k]++List.replicate (n-os[k].length) 0):=by
 unfold besL;rw [zG,List.getElem?_zipWith,List.getElem?_eq_getElem h1,List.getElem?_eq_getElem h2];rfl
theorem zeZ{hs os:List (List Int)}(hl:∀ r∈hs,r.length=n)(ho:∀ r∈os,r.length≤n):∀ r∈besL n hs os,r.length=n+n:=fun r hr=>by
 obtain⟨k,hk,rfl⟩:=List.getElem_of_mem hr;unfold besL at hk ⊢;rw [List.length_zipWith] at hk;rw [List.getElem_zipWith];have e1:=hl hs[k] (List.getElem_mem (by omega));have e2:=ho os[k] (List.getElem_mem (by omega));rw [List.length_append,List.length_append,List.length_replicate];omega
theorem zh3{hs:List (List Int)}(hl:∀ r∈hs,r.length=n):besL n hs hs=hs.map fun r=>r++r:=by
 induction hs with
 | nil=>rfl
 | cons r hs ih=>
  have e:=hl r (by simp);have:=ih (fun x hx=>hl x (by simp [hx]));unfold besL at this ⊢;rw [List.zipWith_cons_cons,this,List.map_cons,e,Nat.sub_self];simp
theorem zh2 (n:Nat)(ks:List (List Int)):besL n ks (List.replicate ks.length [])=ks.map fun r=>r++List.replicate n 0:=by
 induction ks with
 | nil=>rfl
 | cons r ks ih=>
  unfold besL at ih ⊢;rw [List.length_cons,List.replicate_succ,List.zipWith_cons_cons,ih,List.map_cons];simp
theorem zh4{hs ks:List (List Int)}(hl:∀ r∈hs,r.length=n):besL n hs hs++besL n ks (List.replicate ks.length [])=wideL n hs ks:=by
 rw [zh3 hl,zh2];rfl
theorem zlP(hr:r.length=n):splice (List.replicate (2*n) 0) 0 r=r++List.replicate n 0:=by
 unfold splice;rw [List.take_zero,List.nil_append,List.drop_replicate,hr];congr 2;omega
theorem zlQ{o:List Int}(hr:r.length=n)(ho:o.length≤n):splice (r++List.replicate n 0) n o=r ++(o++List.replicate (n-o.length) 0):=by
 unfold splice;rw [List.take_left' hr];have e:(r++List.replicate n (0:Int)).drop (n+o.length)=List.replicate (n-o.length) 0:=by
  rw [List.drop_append,hr,List.drop_of_length_le (by omega),List.nil_append,List.drop_replicate];congr 1;omega
 rw [e]
end Go.Proofs.YtdedolkgcdlmeaaGreatDoor
