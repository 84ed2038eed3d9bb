import Derived.Test.YtdedolkgcdlmeaaGreatDoorGcdB
namespace Go.Proofs.YtdedolkgcdlmeaaGreatDoor
open Go.RowKit Limbs
variable{i t n C B:Nat}{W W':World}{G G':Nat→Nat}{v:Value}
def upd (c:Nat→Value)(i:Nat)(v:Value):Nat→Value:=fun j=>if j=i then v else c j
theorem zc (c:Nat→Value)(i:Nat)(v:Value):upd c i v i=v:=if_pos rfl
theorem zb (c:Nat→Value){j:Nat}(v:Value)(h:j≠i):upd c i v j=c j:=if_neg h
inductive Moved (t:Nat) (W:World) (G:Nat→Nat):World→(Nat→Nat)→Prop
 | made {W':World} {G':Nat→Nat} (hb:Below W.heap.size W W') (hg:∀ B,B<W.heap.size→G' B=G B):Moved t W G W' G'
 | wrote {B:Nat} {r:Nm} (s:Nm) (ht:G B=t) (hB:Box W B (.bool r.neg) (.slice r.o r.l r.c)):Moved t W G ((W.setCell ⟨B,0,none⟩ (.bool s.neg)).setCell ⟨B,1,none⟩ (.slice s.o s.l s.c)) G
theorem Moved.size(h:Moved t W G W' G'):W.heap.size≤W'.heap.size:=by
 cases h with
 | made hb _=>exact hb.size
 | wrote=>simp
theorem Moved.tag(h:Moved t W G W' G')(hB:B<W.heap.size):G' B=G B:=by
 cases h with
 | made _ hg=>exact hg B hB
 | wrote=>rfl
theorem Moved.num(h:Moved t W G W' G'){z:Int}(hn:NumL W v z n):NumL W' v z n:=by
 cases h with
 | made hb _=>exact hn.below hb zL
 | wrote s ht hB=>exact hn.wrote hB (by simp) (by simp)
theorem Moved.box(h:Moved t W G W' G'){u0 u1:Value}(hb:Box W B u0 u1)(hB:B<W.heap.size)(hne:G B≠t):Box W' B u0 u1:=by
 cases h with
 | made hb' _=>exact hb.later hb' hB
 | wrote s ht hB'=>exact(hb.other (fun e=>hne (by rw [e];exact ht)) _ _).other (fun e=>hne (by rw [e];exact ht)) _ _
def Made (W:World)(G:Nat→Nat)(C t:Nat)(v:Value):Prop:=
 ∃ B,v=ptr B∧C≤B∧B<W.heap.size∧G B=t∧∃ r:Nm,Box W B (.bool r.neg) (.slice r.o r.l r.c)
def Stored (W:World)(G:Nat→Nat)(C t:Nat)(v:Value)(r:Nm):Prop:=
 ∃ B,v=ptr B∧C≤B∧B<W.heap.size∧G B=t∧Box W B (.bool r.neg) (.slice r.o r.l r.c)
theorem Made.moved(h:Moved i W G W' G')(hm:Made W G C t v):Made W' G' C t v:=by
 obtain⟨B,e,hC,hB,hG,r,hb⟩:=hm;refine⟨B,e,hC,zT hB h.size,(h.tag hB).trans hG,?_⟩;cases h with
 | made hb' _=>exact⟨r,hb.later hb' hB⟩
 | @wrote B' r' s ht hB'=>
  by_cases hE:B=B'
  ·subst hE;exact⟨s,hB'.write _ _⟩
  ·exact⟨r,(hb.other hE _ _).other hE _ _⟩
theorem Stored.moved(h:Moved i W G W' G'){r:Nm}(hm:Stored W G C t v r)(hne:t≠i):Stored W' G' C t v r:=by
 obtain⟨B,e,hC,hB,hG,hb⟩:=hm;exact⟨B,e,hC,zT hB h.size,(h.tag hB).trans hG,h.box hb hB (by rw [hG];exact hne)⟩
structure Tags (deps:Nat→List Nat)(Fc:Nat→(Nat→Value)→World→(Nat→Nat)→Prop)(w:World)(L:Array Bool)(c:Nat→Value)(W:World)(G:Nat→Nat):Prop where
 below:Below w.heap.size w W
 high:∀ B,G B≠0→w.heap.size≤B
 facts:∀ i,L.getD i false=true→Fc i c W G
 closed:∀ i,L.getD i false=true→∀ j∈deps i,L.getD j false=true
variable {deps:Nat→List Nat}{Fc:Nat→(Nat→Value)→World→(Nat→Nat)→Prop}{w W W':World}{L:Array Bool}{c:Nat→Value}{G G':Nat→Nat}
theorem Tags.step (h:Tags deps Fc w L c W G)(hn:L.getD i true=false)(hd:∀ j∈deps i,L.getD j false=true)
  (hb:Below w.heap.size w W') (hg:∀ B,G' B≠0→w.heap.size≤B) {v:Value} (hnew:Fc i (upd c i v) W' G')
  (keep:∀ j,j≠i→i ∉ deps j→Fc j c W G→Fc j (upd c i v) W' G'):Tags deps Fc w (L.setIfInBounds i true) (upd c i v) W' G' where
 below:=hb
 high:=hg
 facts:=fun j hj=>by
  by_cases e:j=i
  ·subst e;exact hnew
  ·have hj':=za (fun e'=>e e'.symm) hj;exact keep j e (fun hm=>zw hn (h.closed j hj' i hm)) (h.facts j hj')
 closed:=fun j hj k hk=>by
  by_cases ek:i=k
  ·subst ek;exact zaD hn
  ·rw [getD_set_ne false ek];by_cases e:j=i
   ·subst e;exact hd k hk
   ·exact h.closed j (za (fun e'=>e e'.symm) hj) k hk
theorem Tags.plain (h:Tags deps Fc w L c W G)(hn:L.getD i true=false)(hd:∀ j∈deps i,L.getD j false=true)
  (keep:∀(i j:Nat) (c:Nat→Value) (v:Value) (W W':World) (G G':Nat→Nat),j≠i→i ∉ deps j→Moved i W G W' G'→Fc j c W G→Fc j (upd c i v) W' G')
  {v:Value} (hnew:Fc i (upd c i v) W G):Tags deps Fc w (L.setIfInBounds i true) (upd c i v) W G:=
 h.step hn hd h.below h.high hnew fun j e hm=>keep i j c v W W G G e hm (.made (zB _ _) fun _ _=>rfl)
theorem Tags.call (h:Tags deps Fc w L c W G)(hn:L.getD i true=false)(hd:∀ j∈deps i,L.getD j false=true)
  (keep:∀(i j:Nat) (c:Nat→Value) (v:Value) (W W':World) (G G':Nat→Nat),j≠i→i ∉ deps j→Moved i W G W' G'→Fc j c W G→Fc j (upd c i v) W' G')
  (hb:Below W.heap.size W W') {v:Value} (hnew:Fc i (upd c i v) W' G):Tags deps Fc w (L.setIfInBounds i true) (upd c i v) W' G:=
 h.step hn hd (h.below.trans (hb.mono h.below.size)) h.high hnew fun j e hm=>keep i j c v W W' G G e hm (.made hb fun _ _=>rfl)
theorem Tags.alloc (h:Tags deps Fc w L c W G)(hn:L.getD i true=false)(hd:∀ j∈deps i,L.getD j false=true)
  (keep:∀(i j:Nat) (c:Nat→Value) (v:Value) (W W':World) (G G':Nat→Nat),j≠i→i ∉ deps j→Moved i W G W' G'→Fc j c W G→Fc j (upd c i v) W' G')
  (t:Nat) (ty:TypeId) (hnew:∀ W' G',Made W' G' w.heap.size t (ptr W.heap.size)→Fc i (upd c i (ptr W.heap.size)) W' G'):
  ∃ G',Tags deps Fc w (L.setIfInBounds i true) (upd c i (ptr W.heap.size)) (W.alloc (.cells #[.bool false,.slice none 0 0] ty)) G':=by
 have hb:Below W.heap.size W (W.alloc (.cells #[.bool false,.slice none 0 0] ty)):=(zB _ _).alloc zL _;refine⟨fun B=>if B=W.heap.size then t else G B,h.step hn hd (h.below.trans (hb.mono h.below.size)) ?_ (hnew _ _ ⟨W.heap.size,rfl,h.below.size,by simp,by simp,⟨false,none,0,0⟩,zf W _ _ ty _ rfl⟩) fun j e hm=>keep i j c _ W _ G _ e hm (.made hb fun B hB=>if_neg (by omega))⟩;intro B hB;by_cases e:B=W.heap.size
 ·rw [e];exact h.below.size
 ·rw [if_neg e] at hB;exact h.high B hB
theorem Tags.store (h:Tags deps Fc w L c W G)(hn:L.getD i true=false)(hd:∀ j∈deps i,L.getD j false=true)
  (keep:∀(i j:Nat) (c:Nat→Value) (v:Value) (W W':World) (G G':Nat→Nat),j≠i→i ∉ deps j→Moved i W G W' G'→Fc j c W G→Fc j (upd c i v) W' G')
  {B:Nat} {r:Nm} (s:Nm) (hC:w.heap.size≤B) (hB:B<W.heap.size) (hG:G B=i) (hb:Box W B (.bool r.neg) (.slice r.o r.l r.c))
  (hnew:∀ W' G',Stored W' G' w.heap.size i (ptr B) s→Fc i (upd c i undef) W' G'):
  Tags deps Fc w (L.setIfInBounds i true) (upd c i undef) ((W.setCell ⟨B,0,none⟩ (.bool s.neg)).setCell ⟨B,1,none⟩ (.slice s.o s.l s.c)) G:=
 h.step hn hd ((h.below.setCell hC _).setCell hC _) h.high (hnew _ _ ⟨B,rfl,hC,by simpa using hB,hG,hb.write _ _⟩) fun j e hm=>keep i j c undef W _ G G e hm (.wrote s hG hb)
theorem Tags.start (w:World)(n:Nat)(c:Nat→Value):Tags deps Fc w (Array.replicate n false) c w.drew (fun _=>0) where
 below:=(zB _ _).drew
 high:=fun _ h=>absurd rfl h
 facts:=fun i h=>by simp [Array.getD] at h
 closed:=fun i h=>by simp [Array.getD] at h
/-! ### A call that gives three values, and variables for them -/
def F3 (n:Nat)(CALL:World→Value→Prop)(C k:Nat)(c:Nat→Value)(W:World)(G:Nat→Nat):Prop:=
 match k with
 | 0=>CALL W (c n)
 | 1=>c (n+1)=c n
 | 2=>∃ u1 u2 u3:Value,c (n+1)=.tuple #[u1,u2,u3]∧c (n+2)=u1
 | 3=>∃ u1 u2 u3:Value,c (n+1)=.tuple #[u1,u2,u3]∧c (n+3)=u2
 | 4=>∃ u1 u2 u3:Value,c (n+1)=.tuple #[u1,u2,u3]∧c (n+4)=u3
 | 5=>Made W G C (n+8) (c (n+5))
 | 6=>Made W G C (n+9) (c (n+6))
 | 7=>Made W G C (n+10) (c (n+7))
 | 8=>∃ r:Nm,c (n+2)=r.v∧Stored W G C (n+8) (c (n+5)) r
 | 9=>∃ r:Nm,c (n+3)=r.v∧Stored W G C (n+9) (c (n+6)) r
 | 10=>∃ r:Nm,c (n+4)=r.v∧Stored W G C (n+10) (c (n+7)) r
 | _=>True
def FA3 (n:Nat)(ks:List Value)(CALL:World→Value→Prop)(C i:Nat)(c:Nat→Value)(W:World)(G:Nat→Nat):Prop:=
 if i<n then c i=ks.getD i undef else F3 n CALL C (i-n) c W G
def D3 (n i:Nat):List Nat:=
 if i<n then [] else match i-n with
 | 1=>[n]
 | 2=>[n+1]
 | 3=>[n+1]
 | 4=>[n+1]
 | 8=>[n+2,n+5]
 | 9=>[n+3,n+6]
 | 10=>[n+4,n+7]
 | _=>[]
theorem FA3.keep{ks:List Value}{CALL:World→Value→Prop}(hst:∀(t:Nat) (W W':World) (G G':Nat→Nat) (v:Value),Moved t W G W' G'→CALL W v→CALL W' v)
  (i j:Nat) (c:Nat→Value) (v:Value) (W W':World) (G G':Nat→Nat) (hne:j≠i) (hm:i ∉ D3 n j) (hv:Moved i W G W' G') (hf:FA3 n ks CALL C j c W G):FA3 n ks CALL C j (upd c i v) W' G':=by
 unfold FA3 at *;by_cases hj:j<n
 ·rw [if_pos hj] at hf ⊢;rw [zb _ _ hne];exact hf
 ·rw [if_neg hj] at hf ⊢;obtain⟨k,rfl⟩:∃ k,j=n+k:=⟨j-n,by omega⟩;rw [Nat.add_sub_cancel_left] at hf ⊢;unfold D3 at hm;rw [if_neg hj,Nat.add_sub_cancel_left] at hm
  match k,hne,hm,hf with
  | 0,hne,hm,hf=>simp only [F3] at hf ⊢;rw [zb _ _ (by omega)];exact hst _ _ _ _ _ _ hv hf
  | 1,hne,hm,hf=>simp only [F3] at hf ⊢;simp at hm;rw [zb _ _ (by omega),zb _ _ (by omega)];exact hf
  | 2,hne,hm,hf=>simp only [F3] at hf ⊢;simp at hm;rw [zb _ _ (by omega),zb _ _ (by omega)];exact hf
  | 3,hne,hm,hf=>simp only [F3] at hf ⊢;simp at hm;rw [zb _ _ (by omega),zb _ _ (by omega)];exact hf
  | 4,hne,hm,hf=>simp only [F3] at hf ⊢;simp at hm;rw [zb _ _ (by omega),zb _ _ (by omega)];exact hf
  | 5,hne,hm,hf=>simp only [F3] at hf ⊢;rw [zb _ _ (by omega)];exact hf.moved hv
  | 6,hne,hm,hf=>simp only [F3] at hf ⊢;rw [zb _ _ (by omega)];exact hf.moved hv
  | 7,hne,hm,hf=>simp only [F3] at hf ⊢;rw [zb _ _ (by omega)];exact hf.moved hv
  | 8,hne,hm,hf=>simp only [F3] at hf ⊢;simp at hm;rw [zb _ _ (by omega),zb _ _ (by omega)];obtain⟨r,e,h⟩:=hf;exact⟨r,e,h.moved hv hne⟩
  | 9,hne,hm,hf=>simp only [F3] at hf ⊢;simp at hm;rw [zb _ _ (by omega),zb _ _ (by omega)];obtain⟨r,e,h⟩:=hf;exact⟨r,e,h.moved hv hne⟩
  | 10,hne,hm,hf=>simp only [F3] at hf ⊢;simp at hm;rw [zb _ _ (by omega),zb _ _ (by omega)];obtain⟨r,e,h⟩:=hf;exact⟨r,e,h.moved hv hne⟩
  | k+11,hne,hm,hf=>trivial
theorem Tags.fin3{ks:List Value}{CALL:World→Value→Prop}(h:Tags (D3 n) (FA3 n ks CALL w.heap.size) w L c W G)(hall:∀ i,i<n+11→L.getD i false=true):
  ∃(r1 r2 r3:Nm) (B1 B2 B3:Nat),CALL W (.tuple #[r1.v,r2.v,r3.v])∧c (n+5)=ptr B1∧c (n+6)=ptr B2∧c (n+7)=ptr B3 ∧
   w.heap.size≤B1∧w.heap.size≤B2∧w.heap.size≤B3∧B1<W.heap.size∧B2<W.heap.size∧B3<W.heap.size∧B1≠B2∧B1≠B3∧B2≠B3 ∧
   Box W B1 (.bool r1.neg) (.slice r1.o r1.l r1.c)∧Box W B2 (.bool r2.neg) (.slice r2.o r2.l r2.c)∧Box W B3 (.bool r3.neg) (.slice r3.o r3.l r3.c)∧Below w.heap.size w W:=by
 have f:∀ k,k<11→F3 n CALL w.heap.size k c W G:=fun k hk=>by
  have:=h.facts (n+k) (hall _ (by omega));unfold FA3 at this
  rwa [if_neg (by omega),Nat.add_sub_cancel_left] at this
 have f0:CALL W (c n):=f 0 (by decide);have f1:c (n+1)=c n:=f 1 (by decide);obtain⟨u1,u2,u3,e1,e2⟩:∃ u1 u2 u3:Value,c (n+1)=.tuple #[u1,u2,u3]∧c (n+2)=u1:=f 2 (by decide);obtain⟨u1',u2',u3',e1',e3⟩:∃ u1 u2 u3:Value,c (n+1)=.tuple #[u1,u2,u3]∧c (n+3)=u2:=f 3 (by decide);obtain⟨u1'',u2'',u3'',e1'',e4⟩:∃ u1 u2 u3:Value,c (n+1)=.tuple #[u1,u2,u3]∧c (n+4)=u3:=f 4 (by decide);obtain⟨r1,g1,B1,b1,c1,d1,t1,x1⟩:∃ r:Nm,c (n+2)=r.v∧Stored W G w.heap.size (n+8) (c (n+5)) r:=f 8 (by decide);obtain⟨r2,g2,B2,b2,c2,d2,t2,x2⟩:∃ r:Nm,c (n+3)=r.v∧Stored W G w.heap.size (n+9) (c (n+6)) r:=f 9 (by decide);obtain⟨r3,g3,B3,b3,c3,d3,t3,x3⟩:∃ r:Nm,c (n+4)=r.v∧Stored W G w.heap.size (n+10) (c (n+7)) r:=f 10 (by decide);rw [e1] at e1' e1'' f1;simp only [Value.tuple.injEq,Array.mk.injEq,List.cons.injEq,and_true] at e1' e1'';obtain⟨rfl,rfl,rfl⟩:=e1';obtain⟨rfl,rfl,rfl⟩:=e1'';rw [← f1,← e2,← e3,← e4,g1,g2,g3] at f0;exact⟨r1,r2,r3,B1,B2,B3,f0,b1,b2,b3,c1,c2,c3,d1,d2,d3,fun e=>by rw [e] at t1;omega,fun e=>by rw [e] at t1;omega,fun e=>by rw [e] at t2;omega,x1,x2,x3,h.below⟩
/-! ### Two variables, and a plain one for the third value -/
def F2 (n:Nat)(CALL:World→Value→Prop)(C k:Nat)(c:Nat→Value)(W:World)(G:Nat→Nat):Prop:=
 match k with
 | 0=>CALL W (c n)
 | 1=>c (n+1)=c n
 | 2=>∃ u1 u2 u3:Value,c (n+1)=.tuple #[u1,u2,u3]∧c (n+2)=u1
 | 3=>∃ u1 u2 u3:Value,c (n+1)=.tuple #[u1,u2,u3]∧c (n+3)=u2
 | 4=>∃ u1 u2 u3:Value,c (n+1)=.tuple #[u1,u2,u3]∧c (n+4)=u3
 | 5=>Made W G C (n+7) (c (n+5))
 | 6=>Made W G C (n+8) (c (n+6))
 | 7=>∃ r:Nm,c (n+2)=r.v∧Stored W G C (n+7) (c (n+5)) r
 | 8=>∃ r:Nm,c (n+3)=r.v∧Stored W G C (n+8) (c (n+6)) r
 | 9=>c (n+9)=c (n+4)
 | _=>True
def FA2 (n:Nat)(ks:List Value)(CALL:World→Value→Prop)(C i:Nat)(c:Nat→Value)(W:World)(G:Nat→Nat):Prop:=
 if i<n then c i=ks.getD i undef else F2 n CALL C (i-n) c W G
def D2 (n i:Nat):List Nat:=
 if i<n then [] else match i-n with
 | 1=>[n]
 | 2=>[n+1]
 | 3=>[n+1]
 | 4=>[n+1]
 | 7=>[n+2,n+5]
 | 8=>[n+3,n+6]
 | 9=>[n+4]
 | _=>[]
theorem FA2.keep{ks:List Value}{CALL:World→Value→Prop}(hst:∀(t:Nat) (W W':World) (G G':Nat→Nat) (v:Value),Moved t W G W' G'→CALL W v→CALL W' v)
  (i j:Nat) (c:Nat→Value) (v:Value) (W W':World) (G G':Nat→Nat) (hne:j≠i) (hm:i ∉ D2 n j) (hv:Moved i W G W' G') (hf:FA2 n ks CALL C j c W G):FA2 n ks CALL C j (upd c i v) W' G':=by
 unfold FA2 at *;by_cases hj:j<n
 ·rw [if_pos hj] at hf ⊢;rw [zb _ _ hne];exact hf
 ·rw [if_neg hj] at hf ⊢;obtain⟨k,rfl⟩:∃ k,j=n+k:=⟨j-n,by omega⟩;rw [Nat.add_sub_cancel_left] at hf ⊢;unfold D2 at hm;rw [if_neg hj,Nat.add_sub_cancel_left] at hm
  match k,hne,hm,hf with
  | 0,hne,hm,hf=>simp only [F2] at hf ⊢;rw [zb _ _ (by omega)];exact hst _ _ _ _ _ _ hv hf
  | 1,hne,hm,hf=>simp only [F2] at hf ⊢;simp at hm;rw [zb _ _ (by omega),zb _ _ (by omega)];exact hf
  | 2,hne,hm,hf=>simp only [F2] at hf ⊢;simp at hm;rw [zb _ _ (by omega),zb _ _ (by omega)];exact hf
  | 3,hne,hm,hf=>simp only [F2] at hf ⊢;simp at hm;rw [zb _ _ (by omega),zb _ _ (by omega)];exact hf
  | 4,hne,hm,hf=>simp only [F2] at hf ⊢;simp at hm;rw [zb _ _ (by omega),zb _ _ (by omega)];exact hf
  | 5,hne,hm,hf=>simp only [F2] at hf ⊢;rw [zb _ _ (by omega)];exact hf.moved hv
  | 6,hne,hm,hf=>simp only [F2] at hf ⊢;rw [zb _ _ (by omega)];exact hf.moved hv
  | 7,hne,hm,hf=>simp only [F2] at hf ⊢;simp at hm;rw [zb _ _ (by omega),zb _ _ (by omega)];obtain⟨r,e,h⟩:=hf;exact⟨r,e,h.moved hv hne⟩
  | 8,hne,hm,hf=>simp only [F2] at hf ⊢;simp at hm;rw [zb _ _ (by omega),zb _ _ (by omega)];obtain⟨r,e,h⟩:=hf;exact⟨r,e,h.moved hv hne⟩
  | 9,hne,hm,hf=>simp only [F2] at hf ⊢;simp at hm;rw [zb _ _ (by omega),zb _ _ (by omega)];exact hf
  | k+10,hne,hm,hf=>trivial
theorem Tags.fin2{ks:List Value}{CALL:World→Value→Prop}(h:Tags (D2 n) (FA2 n ks CALL w.heap.size) w L c W G)(hall:∀ i,i<n+10→L.getD i false=true):
  ∃(r1 r2:Nm) (u3:Value) (B1 B2:Nat),CALL W (.tuple #[r1.v,r2.v,u3])∧c (n+5)=ptr B1∧c (n+6)=ptr B2∧c (n+9)=u3 ∧
   w.heap.size≤B1∧w.heap.size≤B2∧B1<W.heap.size∧B2<W.heap.size∧B1≠B2 ∧
   Box W B1 (.bool r1.neg) (.slice r1.o r1.l r1.c)∧Box W B2 (.bool r2.neg) (.slice r2.o r2.l r2.c)∧Below w.heap.size w W:=by
 have f:∀ k,k<10→F2 n CALL w.heap.size k c W G:=fun k hk=>by
  have:=h.facts (n+k) (hall _ (by omega));unfold FA2 at this
  rwa [if_neg (by omega),Nat.add_sub_cancel_left] at this
 have f0:CALL W (c n):=f 0 (by decide);have f1:c (n+1)=c n:=f 1 (by decide);have f9:c (n+9)=c (n+4):=f 9 (by decide);obtain⟨u1,u2,u3,e1,e2⟩:∃ u1 u2 u3:Value,c (n+1)=.tuple #[u1,u2,u3]∧c (n+2)=u1:=f 2 (by decide);obtain⟨u1',u2',u3',e1',e3⟩:∃ u1 u2 u3:Value,c (n+1)=.tuple #[u1,u2,u3]∧c (n+3)=u2:=f 3 (by decide);obtain⟨u1'',u2'',u3'',e1'',e4⟩:∃ u1 u2 u3:Value,c (n+1)=.tuple #[u1,u2,u3]∧c (n+4)=u3:=f 4 (by decide);obtain⟨r1,g1,B1,b1,c1,d1,t1,x1⟩:∃ r:Nm,c (n+2)=r.v∧Stored W G w.heap.size (n+7) (c (n+5)) r:=f 7 (by decide);obtain⟨r2,g2,B2,b2,c2,d2,t2,x2⟩:∃ r:Nm,c (n+3)=r.v∧Stored W G w.heap.size (n+8) (c (n+6)) r:=f 8 (by decide);rw [e1] at e1' e1'' f1;simp only [Value.tuple.injEq,Array.mk.injEq,List.cons.injEq,and_true] at e1' e1'';obtain⟨rfl,rfl,rfl⟩:=e1';obtain⟨rfl,rfl,rfl⟩:=e1'';rw [← f1,← e2,← e3,g1,g2] at f0;exact⟨r1,r2,u3,B1,B2,f0,b1,b2,f9.trans e4,c1,c2,d1,d2,fun e=>by rw [e] at t1;omega,x1,x2,h.below⟩
end Go.Proofs.YtdedolkgcdlmeaaGreatDoor
/- For any bound. The greatest that goes into both: what lies where while it is reckoned. -/
namespace Go.Proofs.YtdedolkgcdlmeaaGreatDoor.GK
open Go.RowKit Limbs
variable{W w W':World}{z y g h x u v z':Int}{B G X Y H U V C:Nat}
variable {KB:Nat}
structure Var (KB:Nat)(W:World)(B:Nat)(r:Nm)(z:Int):Prop where
 box:Box W B (.bool r.neg) (.slice r.o r.l r.c)
 num:NumL W (.agg #[.bool r.neg,.slice r.o r.l r.c]) z KB
 lt:B<W.heap.size
theorem Var.later{r:Nm}(h:Var KB W B r z)(hb:Below W.heap.size W W'):Var KB W' B r z:=⟨h.box.later hb h.lt,h.num.below hb zL,zT h.lt hb.size⟩
theorem Var.drew{r:Nm}(h:Var KB W B r z):Var KB W.drew B r z:=⟨h.box,h.num,h.lt⟩
theorem Var.other{r s:Nm}(h:Var KB W B r z)(hc:Var KB W C s y)(hne:B≠C)(v0 v1:Value):Var KB ((W.setCell ⟨C,0,none⟩ v0).setCell ⟨C,1,none⟩ v1) B r z:=
 ⟨(h.box.other hne _ _).other hne _ _,h.num.wrote hc.box (by simp) (by simp),by simpa using h.lt⟩
theorem Var.write{s r:Nm}(hc:Var KB W C s y)(hn:NumL W (.agg #[.bool r.neg,.slice r.o r.l r.c]) z KB):Var KB ((W.setCell ⟨C,0,none⟩ (.bool r.neg)).setCell ⟨C,1,none⟩ (.slice r.o r.l r.c)) C r z:=
 ⟨hc.box.write _ _,hn.wrote hc.box (by simp) (by simp),by simpa using hc.lt⟩
structure VarQ (KB:Nat)(W:World)(B:Nat)(r:Nm)(z:Int):Prop where
 box:Box W B (.bool r.neg) (.slice r.o r.l r.c)
 num:NumL W (.agg #[.bool r.neg,.slice r.o r.l r.c]) z (KB+1)
 lt:B<W.heap.size
theorem VarQ.later{r:Nm}(h:VarQ KB W B r z)(hb:Below W.heap.size W W'):VarQ KB W' B r z:=⟨h.box.later hb h.lt,h.num.below hb zL,zT h.lt hb.size⟩
theorem VarQ.drew{r:Nm}(h:VarQ KB W B r z):VarQ KB W.drew B r z:=⟨h.box,h.num,h.lt⟩
theorem VarQ.other{r s:Nm}(h:VarQ KB W B r z)(hc:Var KB W C s y)(hne:B≠C)(v0 v1:Value):VarQ KB ((W.setCell ⟨C,0,none⟩ v0).setCell ⟨C,1,none⟩ v1) B r z:=
 ⟨(h.box.other hne _ _).other hne _ _,h.num.wrote hc.box (by simp) (by simp),by simpa using h.lt⟩
structure GSt (KB:Nat)(w W:World)(G X Y H U V:Nat)(rg rx ry rh ru rv:Nm)(g h x u y v:Int):Prop where
 g:Var KB W G rg g
 x:Var KB W X rx x
 y:Var KB W Y ry y
 h:Var KB W H rh h
 u:Var KB W U ru u
 v:Var KB W V rv v
 below:Below w.heap.size w W
theorem GSt.later{rg rx ry rh ru rv:Nm}(s:GSt KB w W G X Y H U V rg rx ry rh ru rv g h x u y v)(hb:Below W.heap.size W W'):GSt KB w W' G X Y H U V rg rx ry rh ru rv g h x u y v:=
 ⟨s.g.later hb,s.x.later hb,s.y.later hb,s.h.later hb,s.u.later hb,s.v.later hb,s.below.trans (hb.mono s.below.size)⟩
theorem GSt.drew{rg rx ry rh ru rv:Nm}(s:GSt KB w W G X Y H U V rg rx ry rh ru rv g h x u y v):GSt KB w W.drew G X Y H U V rg rx ry rh ru rv g h x u y v:=
 ⟨s.g.drew,s.x.drew,s.y.drew,s.h.drew,s.u.drew,s.v.drew,s.below.drew⟩
theorem GSt.gh{rg rx ry rh ru rv r r':Nm}(s:GSt KB w W G X Y H U V rg rx ry rh ru rv g h x u y v)(b:Blocks w G X Y H U V)
  (hn:NumL W (.agg #[.bool r.neg,.slice r.o r.l r.c]) z KB) (hn':NumL W (.agg #[.bool r'.neg,.slice r'.o r'.l r'.c]) z' KB):
  GSt KB w ((((W.setCell ⟨G,0,none⟩ (.bool r.neg)).setCell ⟨G,1,none⟩ (.slice r.o r.l r.c)).setCell ⟨H,0,none⟩ (.bool r'.neg)).setCell ⟨H,1,none⟩ (.slice r'.o r'.l r'.c)) G X Y H U V r rx ry r' ru rv z z' x u y v:=by
 obtain⟨b1,b2,b3,b4,b5,b6,b7,b8,b9⟩:=b;have hh:=s.h.other s.g (by omega) (.bool r.neg) (.slice r.o r.l r.c);have hg:=s.g.write hn;exact⟨hg.other hh (by omega) _ _,(s.x.other s.g (by omega) _ _).other hh (by omega) _ _,(s.y.other s.g (by omega) _ _).other hh (by omega) _ _,hh.write (hn'.wrote s.g.box (by simp) (by simp)),(s.u.other s.g (by omega) _ _).other hh (by omega) _ _,(s.v.other s.g (by omega) _ _).other hh (by omega) _ _,
  (((s.below.setCell (by simp;omega) _).setCell (by simp;omega) _).setCell (by simp;omega) _).setCell (by simp;omega) _⟩
theorem GSt.xu{rg rx ry rh ru rv r r':Nm}(s:GSt KB w W G X Y H U V rg rx ry rh ru rv g h x u y v)(b:Blocks w G X Y H U V)
  (hn:NumL W (.agg #[.bool r.neg,.slice r.o r.l r.c]) z KB) (hn':NumL W (.agg #[.bool r'.neg,.slice r'.o r'.l r'.c]) z' KB):
  GSt KB w ((((W.setCell ⟨X,0,none⟩ (.bool r.neg)).setCell ⟨X,1,none⟩ (.slice r.o r.l r.c)).setCell ⟨U,0,none⟩ (.bool r'.neg)).setCell ⟨U,1,none⟩ (.slice r'.o r'.l r'.c)) G X Y H U V rg r ry rh r' rv g h z z' y v:=by
 obtain⟨b1,b2,b3,b4,b5,b6,b7,b8,b9⟩:=b;have hu:=s.u.other s.x (by omega) (.bool r.neg) (.slice r.o r.l r.c);have hx:=s.x.write hn;exact⟨(s.g.other s.x (by omega) _ _).other hu (by omega) _ _,hx.other hu (by omega) _ _,(s.y.other s.x (by omega) _ _).other hu (by omega) _ _,(s.h.other s.x (by omega) _ _).other hu (by omega) _ _,hu.write (hn'.wrote s.x.box (by simp) (by simp)),(s.v.other s.x (by omega) _ _).other hu (by omega) _ _,
  (((s.below.setCell (by simp;omega) _).setCell (by simp;omega) _).setCell (by simp;omega) _).setCell (by simp;omega) _⟩
theorem GSt.yv{rg rx ry rh ru rv r r':Nm}(s:GSt KB w W G X Y H U V rg rx ry rh ru rv g h x u y v)(b:Blocks w G X Y H U V)
  (hn:NumL W (.agg #[.bool r.neg,.slice r.o r.l r.c]) z KB) (hn':NumL W (.agg #[.bool r'.neg,.slice r'.o r'.l r'.c]) z' KB):
  GSt KB w ((((W.setCell ⟨Y,0,none⟩ (.bool r.neg)).setCell ⟨Y,1,none⟩ (.slice r.o r.l r.c)).setCell ⟨V,0,none⟩ (.bool r'.neg)).setCell ⟨V,1,none⟩ (.slice r'.o r'.l r'.c)) G X Y H U V rg rx r rh ru r' g h x u z z':=by
 obtain⟨b1,b2,b3,b4,b5,b6,b7,b8,b9⟩:=b;have hv:=s.v.other s.y (by omega) (.bool r.neg) (.slice r.o r.l r.c);have hy:=s.y.write hn;exact⟨(s.g.other s.y (by omega) _ _).other hv (by omega) _ _,(s.x.other s.y (by omega) _ _).other hv (by omega) _ _,hy.other hv (by omega) _ _,(s.h.other s.y (by omega) _ _).other hv (by omega) _ _,(s.u.other s.y (by omega) _ _).other hv (by omega) _ _,hv.write (hn'.wrote s.y.box (by simp) (by simp)),
  (((s.below.setCell (by simp;omega) _).setCell (by simp;omega) _).setCell (by simp;omega) _).setCell (by simp;omega) _⟩
def GcdPost (KB:Nat)(w:World)(a b:Int)(e:Ending)(w':World):Prop:=
 ∃ vg vx vy g x y,e=.returned (.tuple #[vg,vx,vy])∧NumL w' vg g KB∧NumL w' vx x KB∧NumL w' vy y KB∧g=x*a+y*b∧0≤g∧(∃ p,a=p*g)∧(∃ p,b=p*g)∧Below w.heap.size w w'
end Go.Proofs.YtdedolkgcdlmeaaGreatDoor.GK
