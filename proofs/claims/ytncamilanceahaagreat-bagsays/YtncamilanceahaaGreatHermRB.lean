import Derived.Test.YtncamilanceahaaGreatGcdRB
import Derived.Deep.Cut
namespace Go.Proofs.YtncamilanceahaaGreat.TR
open Go.RowKit Limbs Digs
variable{i t n C B:Nat}{W W':World}{G G':Nat→Nat}{v:Value}{z:Int}
inductive Moved (t:Nat) (W:World) (G:Nat→Nat):World→(Nat→Nat)→Prop
 | made {W':World} {G':Nat→Nat} (hb:Below W.heap.size W W') (hg:∀ B,B<W.heap.size→G' B=G B):Moved t W G W' G'
 | wrote {B:Nat} {r:Rm} (s:Rm) (ht:G B=t) (hB:BoxR W B (.int .i64 r.s) (.slice r.o r.l r.c)):Moved t W G ((W.setCell ⟨B,0,none⟩ (.int .i64 s.s)).setCell ⟨B,1,none⟩ (.slice s.o s.l s.c)) G
theorem Moved.size(h:Moved t W G W' G'):W.heap.size≤W'.heap.size:=by
 cases h with
 | made hb _=>exact hb.size
 | wrote=>simp
theorem Moved.tag(h:Moved t W G W' G')(hB:B<W.heap.size):G' B=G B:=by
 cases h with
 | made _ hg=>exact hg B hB
 | wrote=>rfl
theorem Moved.num(h:Moved t W G W' G')(hn:NumR W v z n):NumR W' v z n:=by
 cases h with
 | made hb _=>exact hn.below hb zL
 | wrote s ht hB=>exact hn.setCell hB _ _
theorem Moved.box(h:Moved t W G W' G'){u0 u1:Value}(hb:BoxR W B u0 u1)(hB:B<W.heap.size)(hne:G B≠t):BoxR W' B u0 u1:=by
 cases h with
 | made hb' _=>exact hb.later hb' hB
 | wrote s ht hB'=>exact hb.others (fun e=>hne (by rw [e];exact ht)) _ _
def Made (W:World)(G:Nat→Nat)(C t:Nat)(v:Value):Prop:=
 ∃ B,v=ptr B∧C≤B∧B<W.heap.size∧G B=t∧∃ r:Rm,BoxR W B (.int .i64 r.s) (.slice r.o r.l r.c)
def Stored (W:World)(G:Nat→Nat)(C t:Nat)(v:Value)(r:Rm):Prop:=
 ∃ B,v=ptr B∧C≤B∧B<W.heap.size∧G B=t∧BoxR W B (.int .i64 r.s) (.slice r.o r.l r.c)
theorem Made.moved(h:Moved i W G W' G')(hm:Made W G C t v):Made W' G' C t v:=by
 obtain⟨B,e,hC,hB,hG,r,hb⟩:=hm;refine⟨B,e,hC,zT hB h.size,(h.tag hB).trans hG,?_⟩;cases h with
 | made hb' _=>exact⟨r,hb.later hb' hB⟩
 | @wrote B' r' s ht hB'=>
  by_cases hE:B=B'
  ·subst hE;exact⟨s,hB'.set _ _⟩
  ·exact⟨r,hb.others hE _ _⟩
theorem Stored.moved(h:Moved i W G W' G'){r:Rm}(hm:Stored W G C t v r)(hne:t≠i):Stored W' G' C t v r:=by
 obtain⟨B,e,hC,hB,hG,hb⟩:=hm;exact⟨B,e,hC,zT hB h.size,(h.tag hB).trans hG,h.box hb hB (by rw [hG];exact hne)⟩
structure Tags (deps:Nat→List Nat)(Fc:Nat→(Nat→Value)→World→(Nat→Nat)→Prop)(w:World)(L:Array Bool)(c:Nat→Value)(W:World)(G:Nat→Nat):Prop where
 below:Below w.heap.size w W
 high:∀ B,G B≠0→w.heap.size≤B
 facts:∀ i,L.getD i false=true→Fc i c W G
 closed:∀ i,L.getD i false=true→∀ j∈deps i,L.getD j false=true
variable {deps:Nat→List Nat}{Fc:Nat→(Nat→Value)→World→(Nat→Nat)→Prop}{w W W':World}{L:Array Bool}{c:Nat→Value}{G G':Nat→Nat}
theorem Tags.step (h:Tags deps Fc w L c W G)(hn:L.getD i true=false)(hd:∀ j∈deps i,L.getD j false=true)
  (hb:Below w.heap.size w W') (hg:∀ B,G' B≠0→w.heap.size≤B) {v:Value} (hnew:Fc i (upd c i v) W' G')
  (keep:∀ j,j≠i→i ∉ deps j→Fc j c W G→Fc j (upd c i v) W' G'):Tags deps Fc w (L.setIfInBounds i true) (upd c i v) W' G' where
 below:=hb
 high:=hg
 facts:=fun j hj=>by
  by_cases e:j=i
  ·subst e;exact hnew
  ·have hj':=za (fun e'=>e e'.symm) hj;exact keep j e (fun hm=>zt hn (h.closed j hj' i hm)) (h.facts j hj')
 closed:=fun j hj k hk=>by
  by_cases ek:i=k
  ·subst ek;exact zaA hn
  ·rw [getD_set_ne false ek];by_cases e:j=i
   ·subst e;exact hd k hk
   ·exact h.closed j (za (fun e'=>e e'.symm) hj) k hk
theorem Tags.plain (h:Tags deps Fc w L c W G)(hn:L.getD i true=false)(hd:∀ j∈deps i,L.getD j false=true)
  (keep:∀(i j:Nat) (c:Nat→Value) (v:Value) (W W':World) (G G':Nat→Nat),j≠i→i ∉ deps j→Moved i W G W' G'→Fc j c W G→Fc j (upd c i v) W' G')
  {v:Value} (hnew:Fc i (upd c i v) W G):Tags deps Fc w (L.setIfInBounds i true) (upd c i v) W G:=
 h.step hn hd h.below h.high hnew fun j e hm=>keep i j c v W W G G e hm (.made (zB _ _) fun _ _=>rfl)
theorem Tags.call (h:Tags deps Fc w L c W G)(hn:L.getD i true=false)(hd:∀ j∈deps i,L.getD j false=true)
  (keep:∀(i j:Nat) (c:Nat→Value) (v:Value) (W W':World) (G G':Nat→Nat),j≠i→i ∉ deps j→Moved i W G W' G'→Fc j c W G→Fc j (upd c i v) W' G')
  (hb:Below W.heap.size W W') {v:Value} (hnew:Fc i (upd c i v) W' G):Tags deps Fc w (L.setIfInBounds i true) (upd c i v) W' G:=
 h.step hn hd (h.below.trans (hb.mono h.below.size)) h.high hnew fun j e hm=>keep i j c v W W' G G e hm (.made hb fun _ _=>rfl)
theorem Tags.alloc (h:Tags deps Fc w L c W G)(hn:L.getD i true=false)(hd:∀ j∈deps i,L.getD j false=true)
  (keep:∀(i j:Nat) (c:Nat→Value) (v:Value) (W W':World) (G G':Nat→Nat),j≠i→i ∉ deps j→Moved i W G W' G'→Fc j c W G→Fc j (upd c i v) W' G')
  (t:Nat) (hnew:∀ W' G',Made W' G' w.heap.size t (ptr W.heap.size)→Fc i (upd c i (ptr W.heap.size)) W' G'):
  ∃ G',Tags deps Fc w (L.setIfInBounds i true) (upd c i (ptr W.heap.size)) (W.alloc (.cells #[.int .i64 0,.slice none 0 0] 76)) G':=by
 have hb:Below W.heap.size W (W.alloc (.cells #[.int .i64 0,.slice none 0 0] 76)):=(zB _ _).alloc zL _;refine⟨fun B=>if B=W.heap.size then t else G B,h.step hn hd (h.below.trans (hb.mono h.below.size)) ?_ (hnew _ _ ⟨W.heap.size,rfl,h.below.size,by simp,by simp,⟨0,none,0,0⟩,zn W _ _ _ rfl⟩) fun j e hm=>keep i j c _ W _ G _ e hm (.made hb fun B hB=>if_neg (by omega))⟩;intro B hB;by_cases e:B=W.heap.size
 ·rw [e];exact h.below.size
 ·rw [if_neg e] at hB;exact h.high B hB
theorem Tags.store (h:Tags deps Fc w L c W G)(hn:L.getD i true=false)(hd:∀ j∈deps i,L.getD j false=true)
  (keep:∀(i j:Nat) (c:Nat→Value) (v:Value) (W W':World) (G G':Nat→Nat),j≠i→i ∉ deps j→Moved i W G W' G'→Fc j c W G→Fc j (upd c i v) W' G')
  {B:Nat} {r:Rm} (s:Rm) (hC:w.heap.size≤B) (hB:B<W.heap.size) (hG:G B=i) (hb:BoxR W B (.int .i64 r.s) (.slice r.o r.l r.c))
  (hnew:∀ W' G',Stored W' G' w.heap.size i (ptr B) s→Fc i (upd c i undef) W' G'):
  Tags deps Fc w (L.setIfInBounds i true) (upd c i undef) ((W.setCell ⟨B,0,none⟩ (.int .i64 s.s)).setCell ⟨B,1,none⟩ (.slice s.o s.l s.c)) G:=
 h.step hn hd ((h.below.setCell hC _).setCell hC _) h.high (hnew _ _ ⟨B,rfl,hC,by simpa using hB,hG,hb.set _ _⟩) fun j e hm=>keep i j c undef W _ G G e hm (.wrote s hG hb)
theorem Tags.start (w:World)(n:Nat)(c:Nat→Value):Tags deps Fc w (Array.replicate n false) c w.drew (fun _=>0) where
 below:=(zB _ _).drew
 high:=fun _ h=>absurd rfl h
 facts:=fun i h=>by simp [Array.getD] at h
 closed:=fun i h=>by simp [Array.getD] at h
/-! ### A call that gives three values, and variables for them -/
def F3 (n:Nat)(CALL:World→Value→Prop)(C k:Nat)(c:Nat→Value)(W:World)(G:Nat→Nat):Prop:=
 match k with
 | 0=>CALL W (c n)
 | 1=>c (n+1)=c n
 | 2=>∃ u1 u2 u3:Value,c (n+1)=.tuple #[u1,u2,u3]∧c (n+2)=u1
 | 3=>∃ u1 u2 u3:Value,c (n+1)=.tuple #[u1,u2,u3]∧c (n+3)=u2
 | 4=>∃ u1 u2 u3:Value,c (n+1)=.tuple #[u1,u2,u3]∧c (n+4)=u3
 | 5=>Made W G C (n+8) (c (n+5))
 | 6=>Made W G C (n+9) (c (n+6))
 | 7=>Made W G C (n+10) (c (n+7))
 | 8=>∃ r:Rm,c (n+2)=r.v∧Stored W G C (n+8) (c (n+5)) r
 | 9=>∃ r:Rm,c (n+3)=r.v∧Stored W G C (n+9) (c (n+6)) r
 | 10=>∃ r:Rm,c (n+4)=r.v∧Stored W G C (n+10) (c (n+7)) r
 | _=>True
def FA3 (n:Nat)(ks:List Value)(CALL:World→Value→Prop)(C i:Nat)(c:Nat→Value)(W:World)(G:Nat→Nat):Prop:=
 if i<n then c i=ks.getD i undef else F3 n CALL C (i-n) c W G
def D3 (n i:Nat):List Nat:=
 if i<n then [] else match i-n with
 | 1=>[n]
 | 2=>[n+1]
 | 3=>[n+1]
 | 4=>[n+1]
 | 8=>[n+2,n+5]
 | 9=>[n+3,n+6]
 | 10=>[n+4,n+7]
 | _=>[]
theorem FA3.keep{ks:List Value}{CALL:World→Value→Prop}(hst:∀(t:Nat) (W W':World) (G G':Nat→Nat) (v:Value),Moved t W G W' G'→CALL W v→CALL W' v)
  (i j:Nat) (c:Nat→Value) (v:Value) (W W':World) (G G':Nat→Nat) (hne:j≠i) (hm:i ∉ D3 n j) (hv:Moved i W G W' G') (hf:FA3 n ks CALL C j c W G):FA3 n ks CALL C j (upd c i v) W' G':=by
 unfold FA3 at *;by_cases hj:j<n
 ·rw [if_pos hj] at hf ⊢;rw [zb _ _ hne];exact hf
 ·rw [if_neg hj] at hf ⊢;obtain⟨k,rfl⟩:∃ k,j=n+k:=⟨j-n,by omega⟩;rw [Nat.add_sub_cancel_left] at hf ⊢;unfold D3 at hm;rw [if_neg hj,Nat.add_sub_cancel_left] at hm
  match k,hne,hm,hf with
  | 0,hne,hm,hf=>simp only [F3] at hf ⊢;rw [zb _ _ (by omega)];exact hst _ _ _ _ _ _ hv hf
  | 1,hne,hm,hf=>simp only [F3] at hf ⊢;simp at hm;rw [zb _ _ (by omega),zb _ _ (by omega)];exact hf
  | 2,hne,hm,hf=>simp only [F3] at hf ⊢;simp at hm;rw [zb _ _ (by omega),zb _ _ (by omega)];exact hf
  | 3,hne,hm,hf=>simp only [F3] at hf ⊢;simp at hm;rw [zb _ _ (by omega),zb _ _ (by omega)];exact hf
  | 4,hne,hm,hf=>simp only [F3] at hf ⊢;simp at hm;rw [zb _ _ (by omega),zb _ _ (by omega)];exact hf
  | 5,hne,hm,hf=>simp only [F3] at hf ⊢;rw [zb _ _ (by omega)];exact hf.moved hv
  | 6,hne,hm,hf=>simp only [F3] at hf ⊢;rw [zb _ _ (by omega)];exact hf.moved hv
  | 7,hne,hm,hf=>simp only [F3] at hf ⊢;rw [zb _ _ (by omega)];exact hf.moved hv
  | 8,hne,hm,hf=>simp only [F3] at hf ⊢;simp at hm;rw [zb _ _ (by omega),zb _ _ (by omega)];obtain⟨r,e,h⟩:=hf;exact⟨r,e,h.moved hv hne⟩
  | 9,hne,hm,hf=>simp only [F3] at hf ⊢;simp at hm;rw [zb _ _ (by omega),zb _ _ (by omega)];obtain⟨r,e,h⟩:=hf;exact⟨r,e,h.moved hv hne⟩
  | 10,hne,hm,hf=>simp only [F3] at hf ⊢;simp at hm;rw [zb _ _ (by omega),zb _ _ (by omega)];obtain⟨r,e,h⟩:=hf;exact⟨r,e,h.moved hv hne⟩
  | k+11,hne,hm,hf=>trivial
theorem Tags.fin3{ks:List Value}{CALL:World→Value→Prop}(h:Tags (D3 n) (FA3 n ks CALL w.heap.size) w L c W G)(hall:∀ i,i<n+11→L.getD i false=true):
  ∃(r1 r2 r3:Rm) (B1 B2 B3:Nat),CALL W (.tuple #[r1.v,r2.v,r3.v])∧c (n+5)=ptr B1∧c (n+6)=ptr B2∧c (n+7)=ptr B3 ∧
   w.heap.size≤B1∧w.heap.size≤B2∧w.heap.size≤B3∧B1<W.heap.size∧B2<W.heap.size∧B3<W.heap.size∧B1≠B2∧B1≠B3∧B2≠B3 ∧
   BoxR W B1 (.int .i64 r1.s) (.slice r1.o r1.l r1.c)∧BoxR W B2 (.int .i64 r2.s) (.slice r2.o r2.l r2.c)∧BoxR W B3 (.int .i64 r3.s) (.slice r3.o r3.l r3.c)∧Below w.heap.size w W:=by
 have f:∀ k,k<11→F3 n CALL w.heap.size k c W G:=fun k hk=>by
  have:=h.facts (n+k) (hall _ (by omega));unfold FA3 at this
  rwa [if_neg (by omega),Nat.add_sub_cancel_left] at this
 have f0:CALL W (c n):=f 0 (by decide);have f1:c (n+1)=c n:=f 1 (by decide);obtain⟨u1,u2,u3,e1,e2⟩:∃ u1 u2 u3:Value,c (n+1)=.tuple #[u1,u2,u3]∧c (n+2)=u1:=f 2 (by decide);obtain⟨u1',u2',u3',e1',e3⟩:∃ u1 u2 u3:Value,c (n+1)=.tuple #[u1,u2,u3]∧c (n+3)=u2:=f 3 (by decide);obtain⟨u1'',u2'',u3'',e1'',e4⟩:∃ u1 u2 u3:Value,c (n+1)=.tuple #[u1,u2,u3]∧c (n+4)=u3:=f 4 (by decide);obtain⟨r1,g1,B1,b1,c1,d1,t1,x1⟩:∃ r:Rm,c (n+2)=r.v∧Stored W G w.heap.size (n+8) (c (n+5)) r:=f 8 (by decide);obtain⟨r2,g2,B2,b2,c2,d2,t2,x2⟩:∃ r:Rm,c (n+3)=r.v∧Stored W G w.heap.size (n+9) (c (n+6)) r:=f 9 (by decide);obtain⟨r3,g3,B3,b3,c3,d3,t3,x3⟩:∃ r:Rm,c (n+4)=r.v∧Stored W G w.heap.size (n+10) (c (n+7)) r:=f 10 (by decide);rw [e1] at e1' e1'' f1;simp only [Value.tuple.injEq,Array.mk.injEq,List.cons.injEq,and_true] at e1' e1'';obtain⟨rfl,rfl,rfl⟩:=e1';obtain⟨rfl,rfl,rfl⟩:=e1'';rw [← f1,← e2,← e3,← e4,g1,g2,g3] at f0;exact⟨r1,r2,r3,B1,B2,B3,f0,b1,b2,b3,c1,c2,c3,d1,d2,d3,fun e=>by rw [e] at t1;omega,fun e=>by rw [e] at t1;omega,fun e=>by rw [e] at t2;omega,x1,x2,x3,h.below⟩
/-! ### Two variables for the two values of a call -/
def F22 (n:Nat)(CALL:World→Value→Prop)(C k:Nat)(c:Nat→Value)(W:World)(G:Nat→Nat):Prop:=
 match k with
 | 0=>CALL W (c n)
 | 1=>c (n+1)=c n
 | 2=>∃ u1 u2:Value,c (n+1)=.tuple #[u1,u2]∧c (n+2)=u1
 | 3=>∃ u1 u2:Value,c (n+1)=.tuple #[u1,u2]∧c (n+3)=u2
 | 4=>Made W G C (n+6) (c (n+4))
 | 5=>Made W G C (n+7) (c (n+5))
 | 6=>∃ r:Rm,c (n+2)=r.v∧Stored W G C (n+6) (c (n+4)) r
 | 7=>∃ r:Rm,c (n+3)=r.v∧Stored W G C (n+7) (c (n+5)) r
 | _=>True
def FA22 (n:Nat)(ks:List Value)(CALL:World→Value→Prop)(C i:Nat)(c:Nat→Value)(W:World)(G:Nat→Nat):Prop:=
 if i<n then c i=ks.getD i undef else F22 n CALL C (i-n) c W G
def D22 (n i:Nat):List Nat:=
 if i<n then [] else match i-n with
 | 1=>[n]
 | 2=>[n+1]
 | 3=>[n+1]
 | 6=>[n+2,n+4]
 | 7=>[n+3,n+5]
 | _=>[]
theorem FA22.keep{ks:List Value}{CALL:World→Value→Prop}(hst:∀(t:Nat) (W W':World) (G G':Nat→Nat) (v:Value),Moved t W G W' G'→CALL W v→CALL W' v)
  (i j:Nat) (c:Nat→Value) (v:Value) (W W':World) (G G':Nat→Nat) (hne:j≠i) (hm:i ∉ D22 n j) (hv:Moved i W G W' G') (hf:FA22 n ks CALL C j c W G):FA22 n ks CALL C j (upd c i v) W' G':=by
 unfold FA22 at *;by_cases hj:j<n
 ·rw [if_pos hj] at hf ⊢;rw [zb _ _ hne];exact hf
 ·rw [if_neg hj] at hf ⊢;obtain⟨k,rfl⟩:∃ k,j=n+k:=⟨j-n,by omega⟩;rw [Nat.add_sub_cancel_left] at hf ⊢;unfold D22 at hm;rw [if_neg hj,Nat.add_sub_cancel_left] at hm
  match k,hne,hm,hf with
  | 0,hne,hm,hf=>simp only [F22] at hf ⊢;rw [zb _ _ (by omega)];exact hst _ _ _ _ _ _ hv hf
  | 1,hne,hm,hf=>simp only [F22] at hf ⊢;simp at hm;rw [zb _ _ (by omega),zb _ _ (by omega)];exact hf
  | 2,hne,hm,hf=>simp only [F22] at hf ⊢;simp at hm;rw [zb _ _ (by omega),zb _ _ (by omega)];exact hf
  | 3,hne,hm,hf=>simp only [F22] at hf ⊢;simp at hm;rw [zb _ _ (by omega),zb _ _ (by omega)];exact hf
  | 4,hne,hm,hf=>simp only [F22] at hf ⊢;rw [zb _ _ (by omega)];exact hf.moved hv
  | 5,hne,hm,hf=>simp only [F22] at hf ⊢;rw [zb _ _ (by omega)];exact hf.moved hv
  | 6,hne,hm,hf=>simp only [F22] at hf ⊢;simp at hm;rw [zb _ _ (by omega),zb _ _ (by omega)];obtain⟨r,e,h⟩:=hf;exact⟨r,e,h.moved hv hne⟩
  | 7,hne,hm,hf=>simp only [F22] at hf ⊢;simp at hm;rw [zb _ _ (by omega),zb _ _ (by omega)];obtain⟨r,e,h⟩:=hf;exact⟨r,e,h.moved hv hne⟩
  | k+8,hne,hm,hf=>trivial
theorem Tags.fin22{ks:List Value}{CALL:World→Value→Prop}(h:Tags (D22 n) (FA22 n ks CALL w.heap.size) w L c W G)(hall:∀ i,i<n+8→L.getD i false=true):
  ∃(r1 r2:Rm) (B1 B2:Nat),CALL W (.tuple #[r1.v,r2.v])∧c (n+4)=ptr B1∧c (n+5)=ptr B2 ∧
   w.heap.size≤B1∧w.heap.size≤B2∧B1<W.heap.size∧B2<W.heap.size∧B1≠B2 ∧
   BoxR W B1 (.int .i64 r1.s) (.slice r1.o r1.l r1.c)∧BoxR W B2 (.int .i64 r2.s) (.slice r2.o r2.l r2.c)∧Below w.heap.size w W:=by
 have f:∀ k,k<8→F22 n CALL w.heap.size k c W G:=fun k hk=>by
  have:=h.facts (n+k) (hall _ (by omega));unfold FA22 at this
  rwa [if_neg (by omega),Nat.add_sub_cancel_left] at this
 have f0:CALL W (c n):=f 0 (by decide);have f1:c (n+1)=c n:=f 1 (by decide);obtain⟨u1,u2,e1,e2⟩:∃ u1 u2:Value,c (n+1)=.tuple #[u1,u2]∧c (n+2)=u1:=f 2 (by decide);obtain⟨u1',u2',e1',e3⟩:∃ u1 u2:Value,c (n+1)=.tuple #[u1,u2]∧c (n+3)=u2:=f 3 (by decide);obtain⟨r1,g1,B1,b1,c1,d1,t1,x1⟩:∃ r:Rm,c (n+2)=r.v∧Stored W G w.heap.size (n+6) (c (n+4)) r:=f 6 (by decide);obtain⟨r2,g2,B2,b2,c2,d2,t2,x2⟩:∃ r:Rm,c (n+3)=r.v∧Stored W G w.heap.size (n+7) (c (n+5)) r:=f 7 (by decide);rw [e1] at e1' f1;simp only [Value.tuple.injEq,Array.mk.injEq,List.cons.injEq,and_true] at e1';obtain⟨rfl,rfl⟩:=e1';rw [← f1,← e2,← e3,g1,g2] at f0;exact⟨r1,r2,B1,B2,f0,b1,b2,c1,c2,d1,d2,fun e=>by rw [e] at t1;omega,x1,x2,h.below⟩
theorem rm_of{w:World}(h:NumR w v z n):∃ r:Rm,v=r.v:=by
 obtain⟨s,o,l,c,e,-⟩:=h.form;exact⟨⟨s,o,l,c⟩,e⟩
end Go.Proofs.YtncamilanceahaaGreat.TR
/- The reference: what its calls gave. -/
namespace Go.Proofs.YtncamilanceahaaGreat
open Go.RowKit Limbs Digs
def GcdGotR (n:Nat)(a b:Int)(W:World)(v:Value):Prop:=
 ∃ vg vx vy g x y,v=.tuple #[vg,vx,vy]∧NumR W vg g n∧NumR W vx x n∧NumR W vy y n∧g=x*a+y*b∧0≤g∧(∃ p,a=p*g)∧(∃ p,b=p*g)
theorem GcdGotR.moved (n:Nat)(a b:Int)(t:Nat)(W W':World)(G G':Nat→Nat)(v:Value)(h:TR.Moved t W G W' G')(hg:GcdGotR n a b W v):GcdGotR n a b W' v:=by
 obtain⟨vg,vx,vy,g,x,y,e,h1,h2,h3,h4⟩:=hg;exact⟨vg,vx,vy,g,x,y,e,h.num h1,h.num h2,h.num h3,h4⟩
def QuoGotR (n m:Nat)(x y:Int)(W:World)(v:Value):Prop:=
 ∃ vq vr q r,v=.tuple #[vq,vr]∧NumR W vq q (n+6)∧NumR W vr r m∧x=q*y+r∧Left r y
theorem QuoGotR.moved (n m:Nat)(x y:Int)(t:Nat)(W W':World)(G G':Nat→Nat)(v:Value)(h:TR.Moved t W G W' G')(hg:QuoGotR n m x y W v):QuoGotR n m x y W' v:=by
 obtain⟨vq,vr,q,r,e,h1,h2,h3⟩:=hg;exact⟨vq,vr,q,r,e,h.num h1,h.num h2,h3⟩
theorem NumR.sgn0 {w:World}{s:Int}{sl:Value}{z:Int}{n:Nat}(h:NumR w (.agg #[.int .i64 s,sl]) z n):(s=0↔z=0)∧(s<0↔z<0):=by
 obtain⟨s',sl',ds,e,hd,hn,hz,hs,-⟩:=h;simp only [Value.agg.injEq,Array.mk.injEq,List.cons.injEq,Value.int.injEq,true_and,and_true] at e;obtain⟨rfl,rfl⟩:=e;obtain⟨_,_,_,_,_,hdb,_⟩:=hd;have hv:=zaK hdb;rcases hs with⟨h0,h1,-⟩ |⟨h0,h1⟩
 ·have e:z=0:=by rw [hz,h1];simp
  omega
 ·have hne:dv ds≠0:=fun h=>by
   have:=(zch hdb hn).1 h;omega
  have hp:0<dv ds:=by omega
  rcases h1 with h1 | h1
  ·have e:z=dv ds:=by rw [hz,h1];simp
   omega
  ·have e:z=-dv ds:=by rw [hz,h1];simp
   omega
def Code.tl:Code→Code
 | .seq _ b=>b
 | c=>c
def eB (P c:Nat):Nat:=P+c *(P+8)
theorem zhj (P c:Nat):eB P (c+1)=eB P c+P+8:=by unfold eB;rw [Nat.succ_mul];omega
theorem zej {P c d:Nat}(h:c≤d):eB P c≤eB P d:=by unfold eB;exact Nat.add_le_add_left (Nat.mul_le_mul_right _ h) _
end Go.Proofs.YtncamilanceahaaGreat
