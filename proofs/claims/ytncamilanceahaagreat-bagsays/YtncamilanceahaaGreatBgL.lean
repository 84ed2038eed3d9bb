import Derived.Test.YtncamilanceahaaGreatGcdB
import Derived.Lib.Strings
namespace Go.Proofs.YtncamilanceahaaGreat
open Go.RowKit Limbs
variable{i t n C B:Nat}{W W':World}{G G':Nat→Nat}{v:Value}
def upd (c:Nat→Value)(i:Nat)(v:Value):Nat→Value:=fun j=>if j=i then v else c j
theorem zd (c:Nat→Value)(i:Nat)(v:Value):upd c i v i=v:=if_pos rfl
theorem zb (c:Nat→Value){j:Nat}(v:Value)(h:j≠i):upd c i v j=c j:=if_neg h
inductive Moved (t:Nat) (W:World) (G:Nat→Nat):World→(Nat→Nat)→Prop
 | made {W':World} {G':Nat→Nat} (hb:Below W.heap.size W W') (hg:∀ B,B<W.heap.size→G' B=G B):Moved t W G W' G'
 | wrote {B:Nat} {r:Nm} (s:Nm) (ht:G B=t) (hB:Box W B (.bool r.neg) (.slice r.o r.l r.c)):Moved t W G ((W.setCell ⟨B,0,none⟩ (.bool s.neg)).setCell ⟨B,1,none⟩ (.slice s.o s.l s.c)) G
theorem Moved.size(h:Moved t W G W' G'):W.heap.size≤W'.heap.size:=by
 cases h with
 | made hb _=>exact hb.size
 | wrote=>simp
theorem Moved.tag(h:Moved t W G W' G')(hB:B<W.heap.size):G' B=G B:=by
 cases h with
 | made _ hg=>exact hg B hB
 | wrote=>rfl
theorem Moved.num(h:Moved t W G W' G'){z:Int}(hn:NumL W v z n):NumL W' v z n:=by
 cases h with
 | made hb _=>exact hn.below hb zL
 | wrote s ht hB=>exact hn.wrote hB (by simp) (by simp)
theorem Moved.box(h:Moved t W G W' G'){u0 u1:Value}(hb:Box W B u0 u1)(hB:B<W.heap.size)(hne:G B≠t):Box W' B u0 u1:=by
 cases h with
 | made hb' _=>exact hb.later hb' hB
 | wrote s ht hB'=>exact(hb.other (fun e=>hne (by rw [e];exact ht)) _ _).other (fun e=>hne (by rw [e];exact ht)) _ _
def Made (W:World)(G:Nat→Nat)(C t:Nat)(v:Value):Prop:=
 ∃ B,v=ptr B∧C≤B∧B<W.heap.size∧G B=t∧∃ r:Nm,Box W B (.bool r.neg) (.slice r.o r.l r.c)
def Stored (W:World)(G:Nat→Nat)(C t:Nat)(v:Value)(r:Nm):Prop:=
 ∃ B,v=ptr B∧C≤B∧B<W.heap.size∧G B=t∧Box W B (.bool r.neg) (.slice r.o r.l r.c)
theorem Made.moved(h:Moved i W G W' G')(hm:Made W G C t v):Made W' G' C t v:=by
 obtain⟨B,e,hC,hB,hG,r,hb⟩:=hm;refine⟨B,e,hC,zT hB h.size,(h.tag hB).trans hG,?_⟩;cases h with
 | made hb' _=>exact⟨r,hb.later hb' hB⟩
 | @wrote B' r' s ht hB'=>
  by_cases hE:B=B'
  ·subst hE;exact⟨s,hB'.write _ _⟩
  ·exact⟨r,(hb.other hE _ _).other hE _ _⟩
theorem Stored.moved(h:Moved i W G W' G'){r:Nm}(hm:Stored W G C t v r)(hne:t≠i):Stored W' G' C t v r:=by
 obtain⟨B,e,hC,hB,hG,hb⟩:=hm;exact⟨B,e,hC,zT hB h.size,(h.tag hB).trans hG,h.box hb hB (by rw [hG];exact hne)⟩
structure Tags (deps:Nat→List Nat)(Fc:Nat→(Nat→Value)→World→(Nat→Nat)→Prop)(w:World)(L:Array Bool)(c:Nat→Value)(W:World)(G:Nat→Nat):Prop where
 below:Below w.heap.size w W
 high:∀ B,G B≠0→w.heap.size≤B
 facts:∀ i,L.getD i false=true→Fc i c W G
 closed:∀ i,L.getD i false=true→∀ j∈deps i,L.getD j false=true
variable {deps:Nat→List Nat}{Fc:Nat→(Nat→Value)→World→(Nat→Nat)→Prop}{w W W':World}{L:Array Bool}{c:Nat→Value}{G G':Nat→Nat}
theorem Tags.step (h:Tags deps Fc w L c W G)(hn:L.getD i true=false)(hd:∀ j∈deps i,L.getD j false=true)
  (hb:Below w.heap.size w W') (hg:∀ B,G' B≠0→w.heap.size≤B) {v:Value} (hnew:Fc i (upd c i v) W' G')
  (keep:∀ j,j≠i→i ∉ deps j→Fc j c W G→Fc j (upd c i v) W' G'):Tags deps Fc w (L.setIfInBounds i true) (upd c i v) W' G' where
 below:=hb
 high:=hg
 facts:=fun j hj=>by
  by_cases e:j=i
  ·subst e;exact hnew
  ·have hj':=za (fun e'=>e e'.symm) hj;exact keep j e (fun hm=>zt hn (h.closed j hj' i hm)) (h.facts j hj')
 closed:=fun j hj k hk=>by
  by_cases ek:i=k
  ·subst ek;exact zaA hn
  ·rw [getD_set_ne false ek];by_cases e:j=i
   ·subst e;exact hd k hk
   ·exact h.closed j (za (fun e'=>e e'.symm) hj) k hk
theorem Tags.plain (h:Tags deps Fc w L c W G)(hn:L.getD i true=false)(hd:∀ j∈deps i,L.getD j false=true)
  (keep:∀(i j:Nat) (c:Nat→Value) (v:Value) (W W':World) (G G':Nat→Nat),j≠i→i ∉ deps j→Moved i W G W' G'→Fc j c W G→Fc j (upd c i v) W' G')
  {v:Value} (hnew:Fc i (upd c i v) W G):Tags deps Fc w (L.setIfInBounds i true) (upd c i v) W G:=
 h.step hn hd h.below h.high hnew fun j e hm=>keep i j c v W W G G e hm (.made (zB _ _) fun _ _=>rfl)
theorem Tags.call (h:Tags deps Fc w L c W G)(hn:L.getD i true=false)(hd:∀ j∈deps i,L.getD j false=true)
  (keep:∀(i j:Nat) (c:Nat→Value) (v:Value) (W W':World) (G G':Nat→Nat),j≠i→i ∉ deps j→Moved i W G W' G'→Fc j c W G→Fc j (upd c i v) W' G')
  (hb:Below W.heap.size W W') {v:Value} (hnew:Fc i (upd c i v) W' G):Tags deps Fc w (L.setIfInBounds i true) (upd c i v) W' G:=
 h.step hn hd (h.below.trans (hb.mono h.below.size)) h.high hnew fun j e hm=>keep i j c v W W' G G e hm (.made hb fun _ _=>rfl)
theorem Tags.alloc (h:Tags deps Fc w L c W G)(hn:L.getD i true=false)(hd:∀ j∈deps i,L.getD j false=true)
  (keep:∀(i j:Nat) (c:Nat→Value) (v:Value) (W W':World) (G G':Nat→Nat),j≠i→i ∉ deps j→Moved i W G W' G'→Fc j c W G→Fc j (upd c i v) W' G')
  (t:Nat) (ty:TypeId) (hnew:∀ W' G',Made W' G' w.heap.size t (ptr W.heap.size)→Fc i (upd c i (ptr W.heap.size)) W' G'):
  ∃ G',Tags deps Fc w (L.setIfInBounds i true) (upd c i (ptr W.heap.size)) (W.alloc (.cells #[.bool false,.slice none 0 0] ty)) G':=by
 have hb:Below W.heap.size W (W.alloc (.cells #[.bool false,.slice none 0 0] ty)):=(zB _ _).alloc zL _;refine⟨fun B=>if B=W.heap.size then t else G B,h.step hn hd (h.below.trans (hb.mono h.below.size)) ?_ (hnew _ _ ⟨W.heap.size,rfl,h.below.size,by simp,by simp,⟨false,none,0,0⟩,zl W _ _ ty _ rfl⟩) fun j e hm=>keep i j c _ W _ G _ e hm (.made hb fun B hB=>if_neg (by omega))⟩;intro B hB;by_cases e:B=W.heap.size
 ·rw [e];exact h.below.size
 ·rw [if_neg e] at hB;exact h.high B hB
theorem Tags.store (h:Tags deps Fc w L c W G)(hn:L.getD i true=false)(hd:∀ j∈deps i,L.getD j false=true)
  (keep:∀(i j:Nat) (c:Nat→Value) (v:Value) (W W':World) (G G':Nat→Nat),j≠i→i ∉ deps j→Moved i W G W' G'→Fc j c W G→Fc j (upd c i v) W' G')
  {B:Nat} {r:Nm} (s:Nm) (hC:w.heap.size≤B) (hB:B<W.heap.size) (hG:G B=i) (hb:Box W B (.bool r.neg) (.slice r.o r.l r.c))
  (hnew:∀ W' G',Stored W' G' w.heap.size i (ptr B) s→Fc i (upd c i undef) W' G'):
  Tags deps Fc w (L.setIfInBounds i true) (upd c i undef) ((W.setCell ⟨B,0,none⟩ (.bool s.neg)).setCell ⟨B,1,none⟩ (.slice s.o s.l s.c)) G:=
 h.step hn hd ((h.below.setCell hC _).setCell hC _) h.high (hnew _ _ ⟨B,rfl,hC,by simpa using hB,hG,hb.write _ _⟩) fun j e hm=>keep i j c undef W _ G G e hm (.wrote s hG hb)
theorem Tags.start (w:World)(n:Nat)(c:Nat→Value):Tags deps Fc w (Array.replicate n false) c w.drew (fun _=>0) where
 below:=(zB _ _).drew
 high:=fun _ h=>absurd rfl h
 facts:=fun i h=>by simp [Array.getD] at h
 closed:=fun i h=>by simp [Array.getD] at h
/-! ### A call that gives three values, and variables for them -/
def F3 (n:Nat)(CALL:World→Value→Prop)(C k:Nat)(c:Nat→Value)(W:World)(G:Nat→Nat):Prop:=
 match k with
 | 0=>CALL W (c n)
 | 1=>c (n+1)=c n
 | 2=>∃ u1 u2 u3:Value,c (n+1)=.tuple #[u1,u2,u3]∧c (n+2)=u1
 | 3=>∃ u1 u2 u3:Value,c (n+1)=.tuple #[u1,u2,u3]∧c (n+3)=u2
 | 4=>∃ u1 u2 u3:Value,c (n+1)=.tuple #[u1,u2,u3]∧c (n+4)=u3
 | 5=>Made W G C (n+8) (c (n+5))
 | 6=>Made W G C (n+9) (c (n+6))
 | 7=>Made W G C (n+10) (c (n+7))
 | 8=>∃ r:Nm,c (n+2)=r.v∧Stored W G C (n+8) (c (n+5)) r
 | 9=>∃ r:Nm,c (n+3)=r.v∧Stored W G C (n+9) (c (n+6)) r
 | 10=>∃ r:Nm,c (n+4)=r.v∧Stored W G C (n+10) (c (n+7)) r
 | _=>True
def FA3 (n:Nat)(ks:List Value)(CALL:World→Value→Prop)(C i:Nat)(c:Nat→Value)(W:World)(G:Nat→Nat):Prop:=
 if i<n then c i=ks.getD i undef else F3 n CALL C (i-n) c W G
def D3 (n i:Nat):List Nat:=
 if i<n then [] else match i-n with
 | 1=>[n]
 | 2=>[n+1]
 | 3=>[n+1]
 | 4=>[n+1]
 | 8=>[n+2,n+5]
 | 9=>[n+3,n+6]
 | 10=>[n+4,n+7]
 | _=>[]
theorem FA3.keep{ks:List Value}{CALL:World→Value→Prop}(hst:∀(t:Nat) (W W':World) (G G':Nat→Nat) (v:Value),Moved t W G W' G'→CALL W v→CALL W' v)
  (i j:Nat) (c:Nat→Value) (v:Value) (W W':World) (G G':Nat→Nat) (hne:j≠i) (hm:i ∉ D3 n j) (hv:Moved i W G W' G') (hf:FA3 n ks CALL C j c W G):FA3 n ks CALL C j (upd c i v) W' G':=by
 unfold FA3 at *;by_cases hj:j<n
 ·rw [if_pos hj] at hf ⊢;rw [zb _ _ hne];exact hf
 ·rw [if_neg hj] at hf ⊢;obtain⟨k,rfl⟩:∃ k,j=n+k:=⟨j-n,by omega⟩;rw [Nat.add_sub_cancel_left] at hf ⊢;unfold D3 at hm;rw [if_neg hj,Nat.add_sub_cancel_left] at hm
  match k,hne,hm,hf with
  | 0,hne,hm,hf=>simp only [F3] at hf ⊢;rw [zb _ _ (by omega)];exact hst _ _ _ _ _ _ hv hf
  | 1,hne,hm,hf=>simp only [F3] at hf ⊢;simp at hm;rw [zb _ _ (by omega),zb _ _ (by omega)];exact hf
  | 2,hne,hm,hf=>simp only [F3] at hf ⊢;simp at hm;rw [zb _ _ (by omega),zb _ _ (by omega)];exact hf
  | 3,hne,hm,hf=>simp only [F3] at hf ⊢;simp at hm;rw [zb _ _ (by omega),zb _ _ (by omega)];exact hf
  | 4,hne,hm,hf=>simp only [F3] at hf ⊢;simp at hm;rw [zb _ _ (by omega),zb _ _ (by omega)];exact hf
  | 5,hne,hm,hf=>simp only [F3] at hf ⊢;rw [zb _ _ (by omega)];exact hf.moved hv
  | 6,hne,hm,hf=>simp only [F3] at hf ⊢;rw [zb _ _ (by omega)];exact hf.moved hv
  | 7,hne,hm,hf=>simp only [F3] at hf ⊢;rw [zb _ _ (by omega)];exact hf.moved hv
  | 8,hne,hm,hf=>simp only [F3] at hf ⊢;simp at hm;rw [zb _ _ (by omega),zb _ _ (by omega)];obtain⟨r,e,h⟩:=hf;exact⟨r,e,h.moved hv hne⟩
  | 9,hne,hm,hf=>simp only [F3] at hf ⊢;simp at hm;rw [zb _ _ (by omega),zb _ _ (by omega)];obtain⟨r,e,h⟩:=hf;exact⟨r,e,h.moved hv hne⟩
  | 10,hne,hm,hf=>simp only [F3] at hf ⊢;simp at hm;rw [zb _ _ (by omega),zb _ _ (by omega)];obtain⟨r,e,h⟩:=hf;exact⟨r,e,h.moved hv hne⟩
  | k+11,hne,hm,hf=>trivial
theorem Tags.fin3{ks:List Value}{CALL:World→Value→Prop}(h:Tags (D3 n) (FA3 n ks CALL w.heap.size) w L c W G)(hall:∀ i,i<n+11→L.getD i false=true):
  ∃(r1 r2 r3:Nm) (B1 B2 B3:Nat),CALL W (.tuple #[r1.v,r2.v,r3.v])∧c (n+5)=ptr B1∧c (n+6)=ptr B2∧c (n+7)=ptr B3 ∧
   w.heap.size≤B1∧w.heap.size≤B2∧w.heap.size≤B3∧B1<W.heap.size∧B2<W.heap.size∧B3<W.heap.size∧B1≠B2∧B1≠B3∧B2≠B3 ∧
   Box W B1 (.bool r1.neg) (.slice r1.o r1.l r1.c)∧Box W B2 (.bool r2.neg) (.slice r2.o r2.l r2.c)∧Box W B3 (.bool r3.neg) (.slice r3.o r3.l r3.c)∧Below w.heap.size w W:=by
 have f:∀ k,k<11→F3 n CALL w.heap.size k c W G:=fun k hk=>by
  have:=h.facts (n+k) (hall _ (by omega));unfold FA3 at this
  rwa [if_neg (by omega),Nat.add_sub_cancel_left] at this
 have f0:CALL W (c n):=f 0 (by decide);have f1:c (n+1)=c n:=f 1 (by decide);obtain⟨u1,u2,u3,e1,e2⟩:∃ u1 u2 u3:Value,c (n+1)=.tuple #[u1,u2,u3]∧c (n+2)=u1:=f 2 (by decide);obtain⟨u1',u2',u3',e1',e3⟩:∃ u1 u2 u3:Value,c (n+1)=.tuple #[u1,u2,u3]∧c (n+3)=u2:=f 3 (by decide);obtain⟨u1'',u2'',u3'',e1'',e4⟩:∃ u1 u2 u3:Value,c (n+1)=.tuple #[u1,u2,u3]∧c (n+4)=u3:=f 4 (by decide);obtain⟨r1,g1,B1,b1,c1,d1,t1,x1⟩:∃ r:Nm,c (n+2)=r.v∧Stored W G w.heap.size (n+8) (c (n+5)) r:=f 8 (by decide);obtain⟨r2,g2,B2,b2,c2,d2,t2,x2⟩:∃ r:Nm,c (n+3)=r.v∧Stored W G w.heap.size (n+9) (c (n+6)) r:=f 9 (by decide);obtain⟨r3,g3,B3,b3,c3,d3,t3,x3⟩:∃ r:Nm,c (n+4)=r.v∧Stored W G w.heap.size (n+10) (c (n+7)) r:=f 10 (by decide);rw [e1] at e1' e1'' f1;simp only [Value.tuple.injEq,Array.mk.injEq,List.cons.injEq,and_true] at e1' e1'';obtain⟨rfl,rfl,rfl⟩:=e1';obtain⟨rfl,rfl,rfl⟩:=e1'';rw [← f1,← e2,← e3,← e4,g1,g2,g3] at f0;exact⟨r1,r2,r3,B1,B2,B3,f0,b1,b2,b3,c1,c2,c3,d1,d2,d3,fun e=>by rw [e] at t1;omega,fun e=>by rw [e] at t1;omega,fun e=>by rw [e] at t2;omega,x1,x2,x3,h.below⟩
/-! ### Two variables, and a plain one for the third value -/
def F2 (n:Nat)(CALL:World→Value→Prop)(C k:Nat)(c:Nat→Value)(W:World)(G:Nat→Nat):Prop:=
 match k with
 | 0=>CALL W (c n)
 | 1=>c (n+1)=c n
 | 2=>∃ u1 u2 u3:Value,c (n+1)=.tuple #[u1,u2,u3]∧c (n+2)=u1
 | 3=>∃ u1 u2 u3:Value,c (n+1)=.tuple #[u1,u2,u3]∧c (n+3)=u2
 | 4=>∃ u1 u2 u3:Value,c (n+1)=.tuple #[u1,u2,u3]∧c (n+4)=u3
 | 5=>Made W G C (n+7) (c (n+5))
 | 6=>Made W G C (n+8) (c (n+6))
 | 7=>∃ r:Nm,c (n+2)=r.v∧Stored W G C (n+7) (c (n+5)) r
 | 8=>∃ r:Nm,c (n+3)=r.v∧Stored W G C (n+8) (c (n+6)) r
 | 9=>c (n+9)=c (n+4)
 | _=>True
def FA2 (n:Nat)(ks:List Value)(CALL:World→Value→Prop)(C i:Nat)(c:Nat→Value)(W:World)(G:Nat→Nat):Prop:=
 if i<n then c i=ks.getD i undef else F2 n CALL C (i-n) c W G
def D2 (n i:Nat):List Nat:=
 if i<n then [] else match i-n with
 | 1=>[n]
 | 2=>[n+1]
 | 3=>[n+1]
 | 4=>[n+1]
 | 7=>[n+2,n+5]
 | 8=>[n+3,n+6]
 | 9=>[n+4]
 | _=>[]
theorem FA2.keep{ks:List Value}{CALL:World→Value→Prop}(hst:∀(t:Nat) (W W':World) (G G':Nat→Nat) (v:Value),Moved t W G W' G'→CALL W v→CALL W' v)
  (i j:Nat) (c:Nat→Value) (v:Value) (W W':World) (G G':Nat→Nat) (hne:j≠i) (hm:i ∉ D2 n j) (hv:Moved i W G W' G') (hf:FA2 n ks CALL C j c W G):FA2 n ks CALL C j (upd c i v) W' G':=by
 unfold FA2 at *;by_cases hj:j<n
 ·rw [if_pos hj] at hf ⊢;rw [zb _ _ hne];exact hf
 ·rw [if_neg hj] at hf ⊢;obtain⟨k,rfl⟩:∃ k,j=n+k:=⟨j-n,by omega⟩;rw [Nat.add_sub_cancel_left] at hf ⊢;unfold D2 at hm;rw [if_neg hj,Nat.add_sub_cancel_left] at hm
  match k,hne,hm,hf with
  | 0,hne,hm,hf=>simp only [F2] at hf ⊢;rw [zb _ _ (by omega)];exact hst _ _ _ _ _ _ hv hf
  | 1,hne,hm,hf=>simp only [F2] at hf ⊢;simp at hm;rw [zb _ _ (by omega),zb _ _ (by omega)];exact hf
  | 2,hne,hm,hf=>simp only [F2] at hf ⊢;simp at hm;rw [zb _ _ (by omega),zb _ _ (by omega)];exact hf
  | 3,hne,hm,hf=>simp only [F2] at hf ⊢;simp at hm;rw [zb _ _ (by omega),zb _ _ (by omega)];exact hf
  | 4,hne,hm,hf=>simp only [F2] at hf ⊢;simp at hm;rw [zb _ _ (by omega),zb _ _ (by omega)];exact hf
  | 5,hne,hm,hf=>simp only [F2] at hf ⊢;rw [zb _ _ (by omega)];exact hf.moved hv
  | 6,hne,hm,hf=>simp only [F2] at hf ⊢;rw [zb _ _ (by omega)];exact hf.moved hv
  | 7,hne,hm,hf=>simp only [F2] at hf ⊢;simp at hm;rw [zb _ _ (by omega),zb _ _ (by omega)];obtain⟨r,e,h⟩:=hf;exact⟨r,e,h.moved hv hne⟩
  | 8,hne,hm,hf=>simp only [F2] at hf ⊢;simp at hm;rw [zb _ _ (by omega),zb _ _ (by omega)];obtain⟨r,e,h⟩:=hf;exact⟨r,e,h.moved hv hne⟩
  | 9,hne,hm,hf=>simp only [F2] at hf ⊢;simp at hm;rw [zb _ _ (by omega),zb _ _ (by omega)];exact hf
  | k+10,hne,hm,hf=>trivial
theorem Tags.fin2{ks:List Value}{CALL:World→Value→Prop}(h:Tags (D2 n) (FA2 n ks CALL w.heap.size) w L c W G)(hall:∀ i,i<n+10→L.getD i false=true):
  ∃(r1 r2:Nm) (u3:Value) (B1 B2:Nat),CALL W (.tuple #[r1.v,r2.v,u3])∧c (n+5)=ptr B1∧c (n+6)=ptr B2∧c (n+9)=u3 ∧
   w.heap.size≤B1∧w.heap.size≤B2∧B1<W.heap.size∧B2<W.heap.size∧B1≠B2 ∧
   Box W B1 (.bool r1.neg) (.slice r1.o r1.l r1.c)∧Box W B2 (.bool r2.neg) (.slice r2.o r2.l r2.c)∧Below w.heap.size w W:=by
 have f:∀ k,k<10→F2 n CALL w.heap.size k c W G:=fun k hk=>by
  have:=h.facts (n+k) (hall _ (by omega));unfold FA2 at this
  rwa [if_neg (by omega),Nat.add_sub_cancel_left] at this
 have f0:CALL W (c n):=f 0 (by decide);have f1:c (n+1)=c n:=f 1 (by decide);have f9:c (n+9)=c (n+4):=f 9 (by decide);obtain⟨u1,u2,u3,e1,e2⟩:∃ u1 u2 u3:Value,c (n+1)=.tuple #[u1,u2,u3]∧c (n+2)=u1:=f 2 (by decide);obtain⟨u1',u2',u3',e1',e3⟩:∃ u1 u2 u3:Value,c (n+1)=.tuple #[u1,u2,u3]∧c (n+3)=u2:=f 3 (by decide);obtain⟨u1'',u2'',u3'',e1'',e4⟩:∃ u1 u2 u3:Value,c (n+1)=.tuple #[u1,u2,u3]∧c (n+4)=u3:=f 4 (by decide);obtain⟨r1,g1,B1,b1,c1,d1,t1,x1⟩:∃ r:Nm,c (n+2)=r.v∧Stored W G w.heap.size (n+7) (c (n+5)) r:=f 7 (by decide);obtain⟨r2,g2,B2,b2,c2,d2,t2,x2⟩:∃ r:Nm,c (n+3)=r.v∧Stored W G w.heap.size (n+8) (c (n+6)) r:=f 8 (by decide);rw [e1] at e1' e1'' f1;simp only [Value.tuple.injEq,Array.mk.injEq,List.cons.injEq,and_true] at e1' e1'';obtain⟨rfl,rfl,rfl⟩:=e1';obtain⟨rfl,rfl,rfl⟩:=e1'';rw [← f1,← e2,← e3,g1,g2] at f0;exact⟨r1,r2,u3,B1,B2,f0,b1,b2,f9.trans e4,c1,c2,d1,d2,fun e=>by rw [e] at t1;omega,x1,x2,h.below⟩
structure FS (deps:Nat→List Nat)(kv:Nat→Option Value)(Sp:Nat→(Nat→Value)→World→Prop)(w:World)(L:Array Bool)(c:Nat→Value)(W:World):Prop where
 below:Below w.heap.size w W
 plain:∀ i v,L.getD i false=true→kv i=some v→c i=v
 spec:∀ i,L.getD i false=true→Sp i c W
 closed:∀ i,L.getD i false=true→∀ j∈deps i,L.getD j false=true
structure Stays (deps:Nat→List Nat)(Sp:Nat→(Nat→Value)→World→Prop):Prop where
 later:∀ i c W W',Below W.heap.size W W'→Sp i c W→Sp i c W'
 other:∀ i j c v W,j≠i→i ∉ deps j→Sp j c W→Sp j (upd c i v) W
variable {deps:Nat→List Nat}{kv:Nat→Option Value}{Sp:Nat→(Nat→Value)→World→Prop}{Fin:(Nat→Value)→World→Prop}{w W W':World}{L:Array Bool}{c:Nat→Value}
theorem FS.start (w:World)(n:Nat)(c:Nat→Value):FS deps kv Sp w (Array.replicate n false) c w.drew where
 below:=(zB _ _).drew
 plain:=fun i _ h=>by simp [Array.getD] at h
 spec:=fun i h=>by simp [Array.getD] at h
 closed:=fun i h=>by simp [Array.getD] at h
theorem FS.made (h:FS deps kv Sp w L c W)(hst:Stays deps Sp)(hn:L.getD i true=false)(hd:∀ j∈deps i,L.getD j false=true)(hb:Below W.heap.size W W')(hk:∀ u,kv i=some u→v=u)(hnew:Sp i (upd c i v) W'):
  FS deps kv Sp w (L.setIfInBounds i true) (upd c i v) W' where
 below:=h.below.trans (hb.mono h.below.size)
 plain:=fun j u hj hu=>by
  by_cases e:j=i
  ·subst e;rw [zd];exact hk u hu
  ·rw [zb _ _ e];exact h.plain j u (za (fun e'=>e e'.symm) hj) hu
 spec:=fun j hj=>by
  by_cases e:j=i
  ·subst e;exact hnew
  ·have hj':=za (fun e'=>e e'.symm) hj;exact hst.other _ _ _ _ _ e (fun hm=>zt hn (h.closed j hj' i hm)) (hst.later _ _ _ _ hb (h.spec j hj'))
 closed:=fun j hj k hjk=>by
  by_cases ek:i=k
  ·subst ek;exact zaA hn
  ·rw [getD_set_ne false ek];by_cases e:j=i
   ·subst e;exact hd k hjk
   ·exact h.closed j (za (fun e'=>e e'.symm) hj) k hjk
theorem FS.put {deps:Nat→List Nat}{kv:Nat→Option Value}{Sp Sp':Nat→(Nat→Value)→World→Prop}{w:World}{L:Array Bool}{c:Nat→Value}(h:FS deps kv Sp w L c W)(hn:L.getD i true=false)(hd:∀ j∈deps i,L.getD j false=true)(hB:Below w.heap.size w W')(hk:∀ u,kv i=some u→v=u)
  (hkeep:∀ j,j≠i→L.getD j false=true→Sp j c W→Sp' j (upd c i v) W') (hnew:Sp' i (upd c i v) W'):FS deps kv Sp' w (L.setIfInBounds i true) (upd c i v) W' where
 below:=hB
 plain:=fun j u hj hu=>by
  by_cases e:j=i
  ·subst e;rw [zd];exact hk u hu
  ·rw [zb _ _ e];exact h.plain j u (za (fun e'=>e e'.symm) hj) hu
 spec:=fun j hj=>by
  by_cases e:j=i
  ·subst e;exact hnew
  ·have hj':=za (fun e'=>e e'.symm) hj;exact hkeep j e hj' (h.spec j hj')
 closed:=fun j hj k hjk=>by
  by_cases ek:i=k
  ·subst ek;exact zaA hn
  ·rw [getD_set_ne false ek];by_cases e:j=i
   ·subst e;exact hd k hjk
   ·exact h.closed j (za (fun e'=>e e'.symm) hj) k hjk
end Go.Proofs.YtncamilanceahaaGreat
namespace Go.Proofs.YtncamilanceahaaGreat
variable{i:Nat}
structure Nmd where
 name:ByteArray
 n:Int
 gens:List (List Int)
structure OpV where
 kind:Int
 name:ByteArray
 n:Int
 v:List Int
theorem zd2:∀(x y:List UInt8),Op.bytesLess x y=decide (x<y)
 | [],[]=>by simp [Op.bytesLess]
 | _::_,[]=>by simp [Op.bytesLess]
 | [],_::_=>by simp [Op.bytesLess]
 | a::x,b::y=>by
  rw [Op.bytesLess,zd2 x y];simp only [List.cons_lt_cons_iff];by_cases h1:a<b <;> by_cases h2:a=b <;> by_cases h3:x<y <;> simp [h1,h2,h3]
def nlt (a b:ByteArray):Bool:=Op.bytesLess a.toList b.toList
theorem zbf {a b:ByteArray}:nlt a b=true↔a.data.toList<b.data.toList:=by
 unfold nlt;rw [zd2,Lib.toList_data,Lib.toList_data,decide_eq_true_eq]
theorem zcq (a:ByteArray):nlt a a=false:=by
 cases h:nlt a a with
 | false=>rfl
 | true=>exact absurd (zbf.1 h) (List.lt_irrefl _)
theorem zdh {a b c:ByteArray}(h1:nlt a b=true)(h2:nlt b c=true):nlt a c=true:=
 zbf.2 (List.lt_trans (zbf.1 h1) (zbf.1 h2))
theorem ziw {a b:ByteArray}(h:nlt a b=true):nlt b a=false:=by
 cases h':nlt b a with
 | false=>rfl
 | true=>exact absurd (zdh h h') (by rw [zcq];decide)
theorem zek {a b:ByteArray}(h1:nlt a b=false)(h2:nlt b a=false):a=b:=by
 have h1':¬ a.data.toList<b.data.toList:=fun h=>by rw [zbf.2 h] at h1;cases h1
 have h2':¬ b.data.toList<a.data.toList:=fun h=>by rw [zbf.2 h] at h2;cases h2
 have:=List.le_antisymm (List.not_lt.1 h2') (List.not_lt.1 h1');exact ByteArray.ext (Array.toList_inj.1 this)
theorem zdC (a b:ByteArray):(a.toList==b.toList)=decide (a=b):=by
 rw [Lib.toList_data,Lib.toList_data];by_cases h:a=b
 ·rw [h];simp
 ·rw [decide_eq_false h];exact beq_eq_false_iff_ne.2 fun e=>h (ByteArray.ext (Array.toList_inj.1 e))
def nmOk (s:ByteArray):Bool:=decide (1≤s.size∧s.size≤8∧∀ i,i<s.size→(97≤byt s i∧byt s i≤122)∨(48≤byt s i∧byt s i≤57∧i≠0))
def genF (v:List Int)(n:Int):Nat:=if (v.length:Int)=n then (if v.all (fun z=>decide (-999≤z∧z≤999)) then 0 else 1) else 6
theorem zag{v:List Int}{n:Int}:genF v n=0↔(v.length:Int)=n∧∀ z∈v,-999≤z∧z≤999:=by
 unfold genF;by_cases h:(v.length:Int)=n
 ·rw [if_pos h];by_cases h2:v.all (fun z=>decide (-999≤z∧z≤999))=true
  ·rw [if_pos h2];simp only [List.all_eq_true,decide_eq_true_eq] at h2;simp [h];exact h2
  ·rw [if_neg h2];simp only [List.all_eq_true,decide_eq_true_eq] at h2;simp [h];simpa using h2
 ·rw [if_neg h];simp [h]
def opOk (o:OpV):Bool:=nmOk o.name && (decide (o.kind=1∧o.v.length=0) || decide (o.kind=2∧o.n=0∧o.v.length=0) || decide ((o.kind=3∨o.kind=4)∧o.n=0))
def placeL (cs:List Nmd)(s:ByteArray):Nat:=cs.findIdx (fun x=>!nlt x.name s)
def hasL (cs:List Nmd)(s:ByteArray):Bool:=cs.any (fun x=>decide (x.name=s))
def applyC (cs:List Nmd)(o:OpV):Nat × List Nmd:=
 if opOk o=false then (3,[])
 else if o.kind=1 then
  if ¬(1≤o.n∧o.n≤4) then (1,[])
  else if hasL cs o.name then (8,[])
  else if 8≤cs.length then (2,[])
  else (0,cs.take (placeL cs o.name) ++(⟨o.name,o.n,[]⟩::cs.drop (placeL cs o.name)))
 else if hasL cs o.name=false then (7,[])
 else if o.kind=2 then (0,cs.take (placeL cs o.name)++cs.drop (placeL cs o.name+1))
 else match cs[placeL cs o.name]? with
  | none=>(7,[])
  | some x=>
   if genF o.v x.n≠0 then (genF o.v x.n,[])
   else if o.kind=3 then (if 10≤x.gens.length then (2,[]) else (0,cs.set (placeL cs o.name) ⟨x.name,x.n,x.gens++[o.v]⟩))
   else (if x.gens.contains o.v then (0,cs.set (placeL cs o.name) ⟨x.name,x.n,x.gens.erase o.v⟩) else (7,[]))
structure NmOk (x:Nmd):Prop where
 name:nmOk x.name=true
 n:1≤x.n∧x.n≤4
 few:x.gens.length≤10
 gens:∀ g∈x.gens,genF g x.n=0
structure CatOk (cs:List Nmd):Prop where
 rise:cs.Pairwise (fun x y=>nlt x.name y.name=true)
 few:cs.length≤8
 all:∀ x∈cs,NmOk x
theorem zcM:CatOk []:=⟨List.Pairwise.nil,by simp,fun _ h=>by cases h⟩
theorem zbi (cs:List Nmd)(s:ByteArray):placeL cs s≤cs.length:=List.findIdx_le_length
theorem zbP {cs:List Nmd}{s:ByteArray}(h:i<placeL cs s):∃ h':i<cs.length,nlt cs[i].name s=true:=by
 have h':=zT h (zbi cs s);refine⟨h',?_⟩;have:=List.not_of_lt_findIdx h;simpa using this
theorem zdl {cs:List Nmd}{s:ByteArray}(h:placeL cs s<cs.length):nlt cs[placeL cs s].name s=false:=by
 have this:(!nlt cs[placeL cs s].name s)=true:=List.findIdx_getElem (p:=fun x:Nmd=>!nlt x.name s) (w:=h);cases h':nlt cs[placeL cs s].name s with
 | false=>rfl
 | true=>rw [h'] at this;cases this
theorem zdm {cs:List Nmd}(hc:cs.Pairwise (fun x y=>nlt x.name y.name=true)){s:ByteArray}(h:placeL cs s≤i)(hi:i<cs.length):nlt cs[i].name s=false:=by
 by_cases e:placeL cs s=i
 ·subst e;exact zdl hi
 ·have hlt:placeL cs s<i:=by omega
  have h1:=List.pairwise_iff_getElem.1 hc _ _ (by omega) hi hlt;have h2:=zdl (cs:=cs) (s:=s) (by omega);cases h3:nlt cs[i].name s with
  | false=>rfl
  | true=>rw [zdh h1 h3] at h2;cases h2
theorem zaz {cs:List Nmd}(hc:cs.Pairwise (fun x y=>nlt x.name y.name=true)){s:ByteArray}:hasL cs s=true↔∃ h:placeL cs s<cs.length,cs[placeL cs s].name=s:=by
 unfold hasL;rw [List.any_eq_true];constructor
 ·rintro ⟨x,hx,e⟩;have e:x.name=s:=by simpa using e
  obtain⟨i,hi,rfl⟩:=List.getElem_of_mem hx;have h1:placeL cs s≤i:=by
   by_cases h:placeL cs s≤i
   ·exact h
   ·obtain⟨_,h2⟩:=zbP (cs:=cs) (s:=s) (i:=i) (by omega);rw [e,zcq] at h2;cases h2
  have hl:placeL cs s<cs.length:=by omega
  refine⟨hl,?_⟩;by_cases e':placeL cs s=i
  ·subst e';exact e
  ·have h2:=List.pairwise_iff_getElem.1 hc _ _ hl hi (by omega);rw [e] at h2;rw [zdl hl] at h2;cases h2
 ·rintro ⟨h,e⟩;exact⟨_,List.getElem_mem h,by simpa using e⟩
theorem zbu {cs:List Nmd}(hc:CatOk cs)(o:OpV)(h0:(applyC cs o).1=0):CatOk (applyC cs o).2:=by
 unfold applyC at h0 ⊢;by_cases h1:opOk o=false
 ·rw [if_pos h1] at h0;simp at h0
 rw [if_neg h1] at h0 ⊢;have hn:nmOk o.name=true:=by
  cases h:nmOk o.name with
  | true=>rfl
  | false=>exact absurd (by simp [opOk,h]) h1
 by_cases h2:o.kind=1
 ·rw [if_pos h2] at h0 ⊢;by_cases h3:¬(1≤o.n∧o.n≤4)
  ·rw [if_pos h3] at h0;simp at h0
  rw [if_neg h3] at h0 ⊢;by_cases h4:hasL cs o.name=true
  ·rw [if_pos h4] at h0;simp at h0
  rw [if_neg h4] at h0 ⊢;by_cases h5:8≤cs.length
  ·rw [if_pos h5] at h0;simp at h0
  rw [if_neg h5] at h0 ⊢;have hle:=zbi cs o.name;refine⟨?_,by simp [List.length_take,List.length_drop];omega,fun x hx=>?_⟩
  ·show(cs.take (placeL cs o.name) ++(⟨o.name,o.n,[]⟩::cs.drop (placeL cs o.name))).Pairwise _;rw [List.pairwise_append];have hlow:∀ a∈cs.take (placeL cs o.name),nlt a.name o.name=true:=fun a ha=>by
    obtain⟨i,hi,rfl⟩:=List.getElem_of_mem ha;rw [List.length_take] at hi;rw [List.getElem_take];exact(zbP (by omega)).2
   have hup:∀ b∈cs.drop (placeL cs o.name),nlt o.name b.name=true:=fun b hb=>by
    obtain⟨i,hi,rfl⟩:=List.getElem_of_mem hb;rw [List.length_drop] at hi;rw [List.getElem_drop];have h6:=zdm hc.rise (s:=o.name) (i:=placeL cs o.name+i) (by omega) (by omega);cases h7:nlt o.name cs[placeL cs o.name+i].name with
    | true=>rfl
    | false=>
     refine absurd ?_ h4;unfold hasL;rw [List.any_eq_true];exact⟨_,List.getElem_mem _,by simpa using zek h6 h7⟩
   refine⟨hc.rise.sublist (List.take_sublist _ _),List.pairwise_cons.2 ⟨hup,hc.rise.sublist (List.drop_sublist _ _)⟩,fun a ha b hb=>?_⟩;rcases List.mem_cons.1 hb with rfl | hb
   ·exact hlow a ha
   ·exact zdh (hlow a ha) (hup b hb)
  ·have hx':x∈cs.take (placeL cs o.name) ++(⟨o.name,o.n,[]⟩::cs.drop (placeL cs o.name)):=hx;rcases List.mem_append.1 hx' with h | h
   ·exact hc.all x (List.mem_of_mem_take h)
   ·rcases List.mem_cons.1 h with rfl | h
    ·exact⟨hn,(by show 1≤o.n∧o.n≤4;omega),by simp,fun g hg=>by cases hg⟩
    ·exact hc.all x (List.mem_of_mem_drop h)
 rw [if_neg h2] at h0 ⊢;by_cases h3:hasL cs o.name=false
 ·rw [if_pos h3] at h0;simp at h0
 rw [if_neg h3] at h0 ⊢;by_cases h4:o.kind=2
 ·rw [if_pos h4];refine⟨?_,by simp [List.length_take,List.length_drop];have:=hc.few;omega,fun x hx=>?_⟩
  ·show(cs.take (placeL cs o.name)++cs.drop (placeL cs o.name+1)).Pairwise _;rw [← List.eraseIdx_eq_take_drop_succ];exact hc.rise.sublist (List.eraseIdx_sublist _ _)
  ·have hx':x∈cs.take (placeL cs o.name)++cs.drop (placeL cs o.name+1):=hx;rcases List.mem_append.1 hx' with h | h
   ·exact hc.all x (List.mem_of_mem_take h)
   ·exact hc.all x (List.mem_of_mem_drop h)
 rw [if_neg h4] at h0 ⊢;have key:∀(x:Nmd) (gs:List (List Int)),cs[placeL cs o.name]?=some x→gs.length≤10→(∀ g∈gs,genF g x.n=0)→CatOk (cs.set (placeL cs o.name) ⟨x.name,x.n,gs⟩):=fun x gs hx h10 hg=>by
  obtain⟨hl,rfl⟩:=List.getElem?_eq_some_iff.1 hx;refine⟨?_,by rw [List.length_set];exact hc.few,fun y hy=>?_⟩
  ·rw [List.pairwise_iff_getElem];intro i j hi hj hij;rw [List.length_set] at hi hj;have:=List.pairwise_iff_getElem.1 hc.rise i j hi hj hij;rw [List.getElem_set,List.getElem_set];split
   ·next e=>
    subst e;rw [if_neg (by omega)];exact this
   ·split
    ·next e=>subst e;exact this
    ·exact this
  ·rcases List.mem_or_eq_of_mem_set hy with h | rfl
   ·exact hc.all y h
   ·have:=hc.all _ (List.getElem_mem hl);exact⟨this.name,this.n,h10,hg⟩
 cases hx:cs[placeL cs o.name]? with
 | none=>rw [hx] at h0;simp at h0
 | some x=>
  rw [hx] at h0;have hxm:x∈cs:=List.mem_of_getElem? hx;have hxo:=hc.all x hxm;dsimp only at h0 ⊢;by_cases h5:genF o.v x.n≠0
  ·rw [if_pos h5] at h0;exact absurd h0 h5
  rw [if_neg h5] at h0 ⊢;have h5:genF o.v x.n=0:=by simpa using h5
  by_cases h6:o.kind=3
  ·rw [if_pos h6] at h0 ⊢;by_cases h7:10≤x.gens.length
   ·rw [if_pos h7] at h0;simp at h0
   rw [if_neg h7] at h0 ⊢;exact key x _ hx (by simp;omega) (fun g hg=>by
    rcases List.mem_append.1 hg with h | h
    ·exact hxo.gens g h
    ·rw [List.mem_singleton] at h;rw [h];exact h5)
  ·rw [if_neg h6] at h0 ⊢;by_cases h7:x.gens.contains o.v=true
   ·rw [if_pos h7];exact key x _ hx (Nat.le_trans List.length_erase_le hxo.few) (fun g hg=>hxo.gens g (List.mem_of_mem_erase hg))
   ·rw [if_neg h7] at h0;simp at h0
end Go.Proofs.YtncamilanceahaaGreat
