import Derived.Test.YtncamilanceahaaGreatGrowB
import Derived.Laws.AppendOwnNone
namespace Go.Proofs.YtncamilanceahaaGreat
open Go.RowKit Limbs Digs
variable{w W W' w':World}{n base sb cap d B g m b off j:Nat}{v a0 a1 b0 b1 d0 d1 l0 l1 u:Value}{zs ds:List Int}{nb D:Nat→Nat}{z A Q:Int}
theorem NumR.fits(h:NumR w v z n)(h0:-dp m<z)(h1:z<dp m):NumR w v z m:=by
 obtain⟨s,sl,ds,rfl,hd,hn,hz,hs,-⟩:=h;have hdb:DB ds:=by obtain⟨_,_,_,_,_,h,_⟩:=hd;exact h
 refine⟨s,sl,ds,rfl,hd,hn,hz,hs,?_⟩;rcases hs with⟨h,-⟩ |⟨-,h | h⟩
 ·omega
 ·subst h;exact zeG hdb hn (by omega)
 ·subst h;exact zeG hdb hn (by omega)
theorem NumR.sign{s:Int}{sl:Value}(h:NumR w (.agg #[.int .i64 s,sl]) z n):(z=0∧s=0)∨(0<z∧s=1)∨(z<0∧s=-1):=by
 obtain⟨s',sl',ds,e,hd,hn,hz,hs,-⟩:=h;simp only [Value.agg.injEq,Array.mk.injEq,List.cons.injEq,Value.int.injEq,and_true,true_and] at e;obtain⟨rfl,rfl⟩:=e;have hdb:DB ds:=by obtain⟨_,_,_,_,_,h,_⟩:=hd;exact h
 rcases zbl hdb hn hs with⟨h1,h2⟩ |⟨h1,rfl | rfl⟩
 ·subst h2;exact .inl ⟨by omega,rfl⟩
 ·exact .inr (.inl ⟨by omega,rfl⟩)
 ·exact .inr (.inr ⟨by omega,rfl⟩)
theorem zeY(h:NumR w v z n):-dp n<z∧z<dp n:=by
 obtain⟨s,sl,ds,rfl,hd,hn,hz,hs,hl⟩:=h;have hdb:DB ds:=by obtain⟨_,_,_,_,_,h,_⟩:=hd;exact h
 have h1:=za9 hdb;have h2:=zaK hdb;have h3:=zbD hl;rcases zbl hdb hn hs with⟨h4,h5⟩ |⟨h4,rfl | rfl⟩
 ·subst h5;omega
 ·omega
 ·omega
theorem ziU{B left d left' lo:Int}(h:Q*B+left=A)(hl:left'=left*10000+d):(lo+10000*Q)*B+(left'-B*lo)=d+10000*A:=by
 have e1:(lo+10000*Q)*B=B*lo+10000 *(Q*B):=by rw [Int.add_mul,Int.mul_comm lo,Int.mul_assoc]
 omega
theorem ziT{sa sb B L x y:Int}(hA:A=Q*B+L)(h0:0≤L)(h1:L<B)(hx:x=sa*A)(hy:y=sb*B)(hsa:sa=0∨sa=1∨sa=-1)(hsb:sb=1∨sb=-1):
  x=sa*sb*Q*y+sa*L∧(sa*L=0∨sa=sb→Left (sa*L) y)∧(sa*L≠0→sa≠sb→x=(sa*sb*Q-1)*y+(sa*L+y)∧Left (sa*L+y) y):=by
 have e:∀ s:Int,s=1∨s=-1→sa*s*Q *(s*B)=sa *(Q*B):=fun s hs=>by rcases hs with rfl | rfl <;> simp [Int.mul_assoc,Int.mul_neg,Int.neg_mul]
 have ee:=e sb hsb;have hx':x=sa*sb*Q*y+sa*L:=by rw [hx,hA,hy,ee,Int.mul_add]
 refine⟨hx',fun h=>?_,fun h2 h3=>⟨?_,?_⟩⟩
 ·unfold Left;rcases hsa with rfl | rfl | rfl <;> rcases hsb with rfl | rfl <;> omega
 ·rw [hx',Int.sub_mul,Int.one_mul];omega
 ·unfold Left;rcases hsa with rfl | rfl | rfl <;> rcases hsb with rfl | rfl <;> omega
structure OSt (w W:World)(D:Nat)(a0 a1 b0 b1 l0 l1 d0 d1:Value):Prop where
 a:BoxR W w.heap.size a0 a1
 b:BoxR W (w.heap.size+1) b0 b1
 r:BoxR W (w.heap.size+1+1) (.int .i64 0) (.slice none 0 0)
 s:BoxR W (w.heap.size+1+1+1) (.int .i64 0) (.slice none 0 0)
 l:BoxR W (w.heap.size+1+1+1+1) l0 l1
 d:BoxR W D d0 d1
 below:Below w.heap.size w W
 hD:w.heap.size+1+1+1+1<D
theorem OSt.later{D:Nat}(h:OSt w W D a0 a1 b0 b1 l0 l1 d0 d1)(hb:Below W.heap.size W W'):OSt w W' D a0 a1 b0 b1 l0 l1 d0 d1:=
 ⟨h.a.later hb h.a.lt,h.b.later hb h.b.lt,h.r.later hb h.r.lt,h.s.later hb h.s.lt,h.l.later hb h.l.lt,h.d.later hb h.d.lt,h.below.trans (hb.mono h.below.size),h.hD⟩
theorem OSt.drew{D:Nat}(h:OSt w W D a0 a1 b0 b1 l0 l1 d0 d1):OSt w W.drew D a0 a1 b0 b1 l0 l1 d0 d1:=⟨h.a,h.b,h.r,h.s,h.l,h.d,h.below.drew,h.hD⟩
theorem OSt.setL{D:Nat}(h:OSt w W D a0 a1 b0 b1 l0 l1 d0 d1)(u0 u1:Value):OSt w ((W.setCell ⟨w.heap.size+1+1+1+1,0,none⟩ u0).setCell ⟨w.heap.size+1+1+1+1,1,none⟩ u1) D a0 a1 b0 b1 u0 u1 d0 d1:=
 ⟨(h.a.other (by omega) _ _).other (by omega) _ _,(h.b.other (by omega) _ _).other (by omega) _ _,(h.r.other (by omega) _ _).other (by omega) _ _,(h.s.other (by omega) _ _).other (by omega) _ _,h.l.set _ _,(h.d.other (by have:=h.hD;omega) _ _).other (by have:=h.hD;omega) _ _,(h.below.setCell (by simp;omega) _).setCell (by simp;omega) _,h.hD⟩
theorem ziz(hb:Below ((((((w.alloc (.cells #[a0,a1] 76)).alloc (.cells #[b0,b1] 76)).alloc (.cells #[.int .i64 0,.slice none 0 0] 76)).alloc (.cells #[.int .i64 0,.slice none 0 0] 76)).alloc (.cells #[.int .i64 0,.slice none 0 0] 76))).heap.size ((((((w.alloc (.cells #[a0,a1] 76)).alloc (.cells #[b0,b1] 76)).alloc (.cells #[.int .i64 0,.slice none 0 0] 76)).alloc (.cells #[.int .i64 0,.slice none 0 0] 76)).alloc (.cells #[.int .i64 0,.slice none 0 0] 76))) W):
  OSt w (W.alloc (.cells #[d0,d1] 76)) W.heap.size a0 a1 b0 b1 (.int .i64 0) (.slice none 0 0) d0 d1:=by
 have hs:=hb.size;simp at hs
 have up:∀ {B:Nat} {u0 u1:Value},B<w.heap.size+5→BoxR ((((((w.alloc (.cells #[a0,a1] 76)).alloc (.cells #[b0,b1] 76)).alloc (.cells #[.int .i64 0,.slice none 0 0] 76)).alloc (.cells #[.int .i64 0,.slice none 0 0] 76)).alloc (.cells #[.int .i64 0,.slice none 0 0] 76))) B u0 u1→BoxR (W.alloc (.cells #[d0,d1] 76)) B u0 u1:=fun hB h=>
  (h.later hb h.lt).later ((zB _ _).alloc zL _:Below W.heap.size _ _) (by omega)
 have k:∀(n:Nat) (V:World) (o:Obj),V.heap.size=n→Below n V (V.alloc o):=fun n V o h=>(zB _ _).alloc (by omega) _;refine⟨up (by omega) ?_,up (by omega) ?_,up (by omega) ?_,up (by omega) ?_,up (by omega) ?_,zn W _ _ _ rfl,?_,by omega⟩
 ·exact((((zn w _ _ _ rfl).later (k (w.heap.size+1) _ _ (by simp)) (by omega)).later (k (w.heap.size+1+1) _ _ (by simp)) (by omega)).later (k (w.heap.size+1+1+1) _ _ (by simp)) (by omega)).later (k (w.heap.size+1+1+1+1) _ _ (by simp)) (by omega)
 ·exact(((zn (w.alloc _) _ _ _ (by simp)).later (k (w.heap.size+1+1) _ _ (by simp)) (by omega)).later (k (w.heap.size+1+1+1) _ _ (by simp)) (by omega)).later (k (w.heap.size+1+1+1+1) _ _ (by simp)) (by omega)
 ·exact((zn ((w.alloc _).alloc _) _ _ _ (by simp)).later (k (w.heap.size+1+1+1) _ _ (by simp)) (by omega)).later (k (w.heap.size+1+1+1+1) _ _ (by simp)) (by omega)
 ·exact(zn (((w.alloc _).alloc _).alloc _) _ _ _ (by simp)).later (k (w.heap.size+1+1+1+1) _ _ (by simp)) (by omega)
 ·exact zn ((((w.alloc _).alloc _).alloc _).alloc _) _ _ _ (by simp)
 ·have h0:Below w.heap.size w ((((((w.alloc (.cells #[a0,a1] 76)).alloc (.cells #[b0,b1] 76)).alloc (.cells #[.int .i64 0,.slice none 0 0] 76)).alloc (.cells #[.int .i64 0,.slice none 0 0] 76)).alloc (.cells #[.int .i64 0,.slice none 0 0] 76))):=
   (((((zB _ _).alloc zL _).alloc (by simp) _).alloc (by simp;omega) _).alloc (by simp;omega) _).alloc (by simp;omega) _
  exact(h0.trans (hb.mono (by simp;omega))).alloc (by omega) _
theorem ten4{H:Nat}(h:W.heap[H]?=some (.cells #[.int .i64 0,.int .i64 1] 3)):NumR W (.agg #[.int .i64 1,.slice (some ⟨H,0,none⟩) 2 2]) 10000 2:=by
 refine⟨1,_,[0,1],rfl,⟨_,2,rfl,by simp,by simp,zbX (by decide) (zbX (by decide) zaU),fun _=>⟨H,0,_,_,rfl,h,fun i hi=>?_⟩⟩,.inr (by decide),by decide,.inr ⟨by simp,.inl rfl⟩,by simp⟩;have:=World.news_of_block h i;simp at hi;rcases(by omega:i=0∨i=1) with rfl | rfl
 ·exact World.news_of_block h 0 _ rfl
 ·exact World.news_of_block h 1 _ rfl
theorem Dig.news(h:Dig w (.slice (some ⟨b,off,none⟩) ds.length cap) ds)(h0:0<ds.length):∀ j u,(ds.map (Value.int .i64))[j]?=some u→w.cell? ((⟨b,off,none⟩:Addr).add j)=some u:=fun j u hu=>by
 obtain⟨_,_,e,-,-,-,hac⟩:=h;simp only [zV,true_and] at e;obtain⟨rfl,rfl⟩:=e;obtain⟨ab,aoff,acur,afz,e,-,hac⟩:=hac h0;simp only [Option.some.injEq,Addr.mk.injEq,and_true] at e;obtain⟨rfl,rfl⟩:=e;rw [List.getElem?_map] at hu;by_cases hj:j<ds.length
 ·rw [List.getElem?_eq_getElem hj] at hu;simp only [Option.map_some,Option.some.injEq] at hu;subst hu;have:=hac j hj;rw [zG,List.getElem?_eq_getElem hj,Option.getD_some] at this;unfold Addr.add;split
  ·rename_i h0;subst h0;exact this
  ·exact this
 ·rw [List.getElem?_eq_none (by omega)] at hu;cases hu
theorem Dig.form(h:Dig w v ds)(h0:0<ds.length):∃ b off cap,v=.slice (some ⟨b,off,none⟩) ds.length cap:=by
 obtain⟨ao,cap,rfl,-,-,-,hac⟩:=h;obtain⟨b,off,_,_,rfl,-⟩:=hac h0;exact⟨b,off,cap,rfl⟩
def OverPost (w:World)(x y:Int)(n m:Nat)(e:Ending)(w':World):Prop:=
 ∃ vq vr q r,e=.returned (.tuple #[vq,vr])∧NumR w' vq q (n+6)∧NumR w' vr r m∧x=q*y+r∧Left r y∧Below w.heap.size w w'
structure OInv (w wr:World)(D:Nat)(a b:List Int)(m:Nat)(p:Nat)(vq:Value)(qs:List Int)(left:Int)(l0 l1 d0 d1:Value):Prop where
 q:Dig wr vq qs
 ql:qs.length=a.length-p
 e0:qs.length=0→vq=.slice none 0 0
 sum:dv qs*dv b+left=dv (a.drop p)
 le0:0≤left
 le1:left<dv b
 num:NumR wr (.agg #[l0,l1]) left m
 siz:NumR wr (.agg #[d0,d1]) (dv b) m
variable {Z:Prop}
def RowQ (Z:Prop)(W:World)(v:Value)(zs:List Int)(n:Nat):Prop:=
 ∃ ao cap,v=.slice ao zs.length cap∧(zs.length≤cap∧(Z→0<zs.length→∀ b off,ao=some ⟨b,off,none⟩→off=0))∧(0<zs.length→∃ b off cur fz,ao=some ⟨b,off,none⟩∧W.heap[b]?=some (.cells cur 76 fz) ∧
  ∀ i,i<zs.length→∃(s:Int) (o:Option Addr) (l c:Nat),W.cell? ⟨b,off+i*2,none⟩=some (.int .i64 s)∧W.cell? ⟨b,off+i*2+1,none⟩=some (.slice o l c)∧NumR W (.agg #[.int .i64 s,.slice o l c]) (zs.getD i 0) n)
theorem RowQ.below(h:RowQ Z W v zs n)(hb:Below B W W')(hB:W.heap.size≤B):RowQ Z W' v zs n:=by
 obtain⟨ao,cap,hv,h1,h2⟩:=h;refine⟨ao,cap,hv,h1,fun h0=>?_⟩;obtain⟨b,off,cur,fz,e,hh,hc⟩:=h2 h0;have hlt:=zm hh;refine⟨b,off,cur,fz,e,(hb.block _ (by omega)).trans hh,fun i hi=>?_⟩;obtain⟨s,o,l,c,h3,h4,h5⟩:=hc i hi;exact⟨s,o,l,c,(hb.cell (p:=⟨b,off+i*2,none⟩) (by show b<B;omega)).trans h3,(hb.cell (p:=⟨b,off+i*2+1,none⟩) (by show b<B;omega)).trans h4,h5.below hb hB⟩
theorem RowQ.grown{row:Option Nat}(h:RowQ Z W v zs n)(hg:W.grownBy W' row)(hr:Typed W row [3,76]):RowQ Z W' v zs n:=by
 obtain⟨ao,cap,hv,h1,h2⟩:=h;refine⟨ao,cap,hv,h1,fun h0=>?_⟩;obtain⟨b,off,cur,fz,e,hh,hc⟩:=h2 h0;have hr':Typed W row [3]:=fun g hg=>by
  obtain⟨cur',t,fz',h5,h6⟩:=hr g hg;exact⟨cur',t,fz',h5,fun h=>h6 (by rw [List.mem_singleton] at h;rw [h];exact List.mem_cons_self)⟩
 have hne:some b≠row:=fun e=>by
  obtain⟨cur',t,fz',h5,h6⟩:=hr b e.symm;rw [hh] at h5;simp only [Option.some.injEq,Obj.cells.injEq] at h5;exact h6 (by rw [← h5.2.1];exact List.mem_cons_of_mem _ (List.mem_singleton.2 rfl))
 refine⟨b,off,cur,fz,e,(hg.block b (zm hh) hne).trans hh,fun i hi=>?_⟩;obtain⟨s,o,l,c,h3,h4,h5⟩:=hc i hi;exact⟨s,o,l,c,hg.cell h3 hne,hg.cell h4 hne,h5.grown hg hr'⟩
theorem RowQ.at(h:RowQ Z W v zs n)(i:Nat)(hi:i<zs.length):∃ b off cap,v=.slice (some ⟨b,off,none⟩) zs.length cap∧b<W.heap.size∧∃(s:Int) (o:Option Addr) (l c:Nat),W.cell? ⟨b,off+i*2,none⟩=some (.int .i64 s)∧W.cell? ⟨b,off+i*2+1,none⟩=some (.slice o l c)∧NumR W (.agg #[.int .i64 s,.slice o l c]) (zs.getD i 0) n:=by
 obtain⟨ao,cap,rfl,-,h2⟩:=h;obtain⟨b,off,cur,fz,rfl,hh,hc⟩:=h2 (by omega);exact⟨b,off,cap,rfl,zm hh,hc i hi⟩
def MatQ (Z:Prop)(W:World)(v:Value)(zss:List (List Int))(n:Nat):Prop:=
 ∃ ao cap,v=.slice ao zss.length cap∧zss.length≤cap∧(0<zss.length→∃ b,ao=some ⟨b,0,none⟩∧b<W.heap.size∧∀ i zs,zss[i]?=some zs→∃ u,W.cell? ⟨b,i,none⟩=some u∧RowQ Z W u zs n)
theorem MatQ.below{zss:List (List Int)}(h:MatQ Z w v zss n)(hb:Below B w w')(hB:w.heap.size≤B):MatQ Z w' v zss n:=by
 obtain⟨ao,cap,hv,h1,h2⟩:=h;refine⟨ao,cap,hv,h1,fun h0=>?_⟩;obtain⟨b,e,hlt,hc⟩:=h2 h0;refine⟨b,e,zT hlt hb.size,fun i zs hi=>?_⟩;obtain⟨u,h3,h4⟩:=hc i zs hi;exact⟨u,(hb.cell (p:=⟨b,i,none⟩) (zT hlt hB)).trans h3,h4.below hb hB⟩
def GrowQ (Z:Prop)(W:World)(base:Nat)(v:Value)(qs:List (Value × List Int))(n:Nat):Prop:=
 W.ownsRow base 74 1 v qs.length (qs.map (·.1))∧∀ q∈qs,RowQ Z W q.1 q.2 n
theorem GrowQ.mat{qs:List (Value × List Int)}(h:GrowQ Z W base v qs n):MatQ Z W v (qs.map (·.2)) n:=by
 obtain⟨⟨-,h1⟩,h2⟩:=h;have hlen:(qs.map (·.2)).length=qs.length:=zM ..;rcases h1 with⟨rfl,hn⟩ |⟨g,cap,cur,rfl,hb,hh,hc1,hc2,hc3,hc4⟩
 ·exact⟨none,0,by rw [hlen,hn],by rw [hlen];omega,fun h0=>absurd h0 (by rw [hlen];omega)⟩
 ·refine⟨_,cap,by rw [hlen],by rw [hlen];exact hc1,fun h0=>⟨g,rfl,zm hh,fun i zs hi=>?_⟩⟩;obtain⟨hi',e⟩:=List.getElem?_eq_some_iff.1 hi;rw [hlen] at hi';have e':zs=qs[i].2:=by rw [← e,List.getElem_map]
  have:=World.news_of_block hh i qs[i].1 (by
   have e:(qs.map (·.1))[i]?=some qs[i].1:=by rw [List.getElem?_map,List.getElem?_eq_getElem hi'];rfl
   rw [← hc4,List.getElem?_take,if_pos (by omega)] at e;exact e)
  have ea:(⟨g,0,none⟩:Addr).add i=⟨g,i,none⟩:=by unfold Addr.add;split <;> simp_all
  rw [ea] at this;exact⟨_,this,by rw [e'];exact h2 _ (List.getElem_mem hi')⟩
theorem RowR.toQ(h:RowR w v zs n):RowQ Z w v zs n:=by
 obtain⟨ao,cap,hv,h3,h4⟩:=h;refine⟨ao,cap,hv,⟨h3,fun _ h0 b off e=>?_⟩,fun h0=>?_⟩
 ·obtain⟨b',cur,fz',e',hh,hc⟩:=h4 h0;rw [e'] at e;simp only [Option.some.injEq,Addr.mk.injEq,and_true] at e;exact e.2.symm
 ·obtain⟨b,cur,fz',e,hh,hc⟩:=h4 h0;exact⟨b,0,cur,fz',e,hh,fun i hi=>by simpa using hc i hi⟩
theorem RowQ.toR(h:RowQ True w v zs n):RowR w v zs n:=by
 obtain⟨ao,cap,hv,⟨h3,hz⟩,h4⟩:=h;refine⟨ao,cap,hv,h3,fun h0=>?_⟩;obtain⟨b,off,cur,fz',e,hh,hc⟩:=h4 h0;obtain rfl:=hz trivial h0 b off e;exact⟨b,cur,fz',e,hh,fun i hi=>by simpa using hc i hi⟩
theorem MatR.toQ{zss:List (List Int)}(h:MatR w v zss n):MatQ Z w v zss n:=by
 obtain⟨ao,cap,hv,h3,h4⟩:=h;refine⟨ao,cap,hv,h3,fun h0=>?_⟩;obtain⟨b,e,hlt,hc⟩:=h4 h0;exact⟨b,e,hlt,fun i zs hi=>by obtain⟨u,h5,h6⟩:=hc i zs hi;exact⟨u,h5,h6.toQ⟩⟩
theorem MatQ.toR{zss:List (List Int)}(h:MatQ True w v zss n):MatR w v zss n:=by
 obtain⟨ao,cap,hv,h3,h4⟩:=h;refine⟨ao,cap,hv,h3,fun h0=>?_⟩;obtain⟨b,e,hlt,hc⟩:=h4 h0;exact⟨b,e,hlt,fun i zs hi=>by obtain⟨u,h5,h6⟩:=hc i zs hi;exact⟨u,h5,h6.toR⟩⟩
variable {Z:Prop}
theorem RowQ.setTyped(h:RowQ Z w v zs n){c:Array Value}{t:TypeId}{fz:Nat × Nat}(hB:w.heap[B]?=some (.cells c t fz))(h1:t≠3)(h2:t≠76)(k:Nat)(u:Value):RowQ Z (w.setCell ⟨B,k,none⟩ u) v zs n:=by
 obtain⟨ao,cap,hv,h3,h4⟩:=h;refine⟨ao,cap,hv,h3,fun h0=>?_⟩;obtain⟨b,off,cur,fz',e,hh,hc⟩:=h4 h0;have hne:b≠B:=fun e=>by
  subst e;rw [hh] at hB;simp only [Option.some.injEq,Obj.cells.injEq] at hB;exact h2 hB.2.1.symm
 refine⟨b,off,cur,fz',e,(heap_setCell_other w ⟨B,k,none⟩ b u hne).trans hh,fun i hi=>?_⟩;obtain⟨s,o,l,c',h5,h6,h7⟩:=hc i hi;exact⟨s,o,l,c',(World.cell?_setCell_other (h:=fun e=>by simp at e <;> omega) ..).trans h5,(World.cell?_setCell_other (h:=fun e=>by simp at e <;> omega) ..).trans h6,h7.setTyped hB h1 k u⟩
theorem RowQ.mono(h:RowQ Z w v zs n)(hm:n≤m):RowQ Z w v zs m:=by
 obtain⟨ao,cap,hv,h3,h4⟩:=h;refine⟨ao,cap,hv,h3,fun h0=>?_⟩;obtain⟨b,off,cur,fz',e,hh,hc⟩:=h4 h0;refine⟨b,off,cur,fz',e,hh,fun i hi=>?_⟩;obtain⟨s,o,l,c',h5,h6,h7⟩:=hc i hi;exact⟨s,o,l,c',h5,h6,h7.mono hm⟩
theorem RowQ.form(h:RowQ Z w v zs n)(h0:0<zs.length):∃ b off cap,v=.slice (some ⟨b,off,none⟩) zs.length cap:=by
 obtain⟨ao,cap,rfl,h3,h4⟩:=h;obtain⟨b,off,-,-,rfl,-⟩:=h4 h0;exact⟨b,off,cap,rfl⟩
structure StairQ (Z:Prop)(w W:World)(sb n:Nat)(R:Nat→Option (List Int))(D:Nat→Nat):Prop where
 low:w.heap.size≤sb
 below:Below w.heap.size w W
 blk:∃ cs,W.heap[sb]?=some (.cells cs 74)
 nil:∀ i,i<n→R i=none→W.cell? ⟨sb,i,none⟩=some (.slice none 0 0)
 row:∀ i,i<n→∀ r,R i=some r→∃ b off cap,W.cell? ⟨sb,i,none⟩=some (.slice (some ⟨b,off,none⟩) r.length cap)∧RowQ Z W (.slice (some ⟨b,off,none⟩) r.length cap) r (D i)
theorem StairQ.lt{R:Nat→Option (List Int)}(h:StairQ Z w W sb n R D):sb<W.heap.size:=by
 obtain⟨cs,e⟩:=h.blk;exact zm e
theorem StairQ.later{R:Nat→Option (List Int)}(h:StairQ Z w W sb n R D)(hb:Below W.heap.size W W'):StairQ Z w W' sb n R D where
 low:=h.low
 below:=h.below.trans (hb.mono h.below.size)
 blk:=by obtain⟨cs,e⟩:=h.blk;exact⟨cs,(hb.block _ (zm e)).trans e⟩
 nil:=fun i hi e=>(hb.cell (p:=⟨sb,i,none⟩) h.lt).trans (h.nil i hi e)
 row:=fun i hi r e=>by
  obtain⟨b,off,cap,hc,hv⟩:=h.row i hi r e;exact⟨b,off,cap,(hb.cell (p:=⟨sb,i,none⟩) h.lt).trans hc,hv.below hb zL⟩
theorem StairQ.mono{R:Nat→Option (List Int)}{D':Nat→Nat}(h:StairQ Z w W sb n R D)(hn:∀ i,i<n→D i≤D' i):StairQ Z w W sb n R D':=
 ⟨h.low,h.below,h.blk,h.nil,fun i hi r e=>by
  obtain⟨b,off,cap,hc,hv⟩:=h.row i hi r e;exact⟨b,off,cap,hc,hv.mono (hn i hi)⟩⟩
theorem StairQ.cell{R:Nat→Option (List Int)}(h:StairQ Z w W sb n R D){i:Nat}(hi:i<n):∃ o l c,W.cell? ⟨sb,i,none⟩=some (.slice o l c):=by
 cases e:R i with
 | none=>exact⟨_,_,_,h.nil i hi e⟩
 | some r=>obtain⟨b,off,cap,hc,-⟩:=h.row i hi r e;exact⟨_,_,_,hc⟩
theorem StairQ.thaw{R:Nat→Option (List Int)}(h:StairQ Z w W sb n R D)(k:Nat):W.frozen? ⟨sb,k,none⟩=false:=by
 obtain⟨cs,e⟩:=h.blk;simp [World.frozen?,e]
theorem StairQ.set{R:Nat→Option (List Int)}(h:StairQ Z w W sb n R D){k:Nat}(hk:k<n){r:List Int}(hr:RowQ Z W (.slice (some ⟨b,off,none⟩) r.length cap) r d):
  StairQ Z w (W.setCell ⟨sb,k,none⟩ (.slice (some ⟨b,off,none⟩) r.length cap)) sb n (putRow R k r) (fun i=>if i=k then d else D i):=by
 obtain⟨cs,hcs⟩:=h.blk;obtain⟨o,l,c,hc⟩:=h.cell hk
 have oth:∀ i u,i≠k→W.cell? ⟨sb,i,none⟩=some u→(W.setCell ⟨sb,k,none⟩ (.slice (some ⟨b,off,none⟩) r.length cap)).cell? ⟨sb,i,none⟩=some u:=fun i u hi e=>
  (World.cell?_setCell_other (h:=fun e=>by simp at e <;> omega) ..).trans e
 refine⟨h.low,h.below.setCell h.low _,⟨_,heap_setCell_same W sb k _ _ _ hcs⟩,?_,?_⟩
 ·intro i hi e;unfold putRow at e;by_cases hik:i=k
  ·rw [if_pos hik] at e;cases e
  ·rw [if_neg hik] at e;exact oth i _ hik (h.nil i hi e)
 ·intro i hi r' e;unfold putRow at e;by_cases hik:i=k
  ·rw [if_pos hik] at e;obtain rfl:=zI e;subst hik;exact⟨b,off,cap,World.cell?_setCell_same (h:=hc) ..,by rw [if_pos rfl];exact hr.setTyped hcs (by decide) (by decide) _ _⟩
  ·rw [if_neg hik] at e;obtain⟨b',off',cap',hc',hv'⟩:=h.row i hi r' e;exact⟨b',off',cap',oth i _ hik hc',by rw [if_neg hik];exact hv'.setTyped hcs (by decide) (by decide) _ _⟩
theorem StairQ.made (w:World)(n:Nat)(D:Nat→Nat):StairQ Z w (w.alloc (.cells (madeCells #[.slice none 0 0] n) 74)) w.heap.size n (fun _=>none) D where
 low:=Nat.le_refl _
 below:=(zB _ _).alloc zL _
 blk:=⟨_,heap_alloc_new w _⟩
 nil:=fun i hi _=>by
  rw [World.cell?_alloc_new];simp [madeCells,hi,Nat.mod_one]
 row:=fun i hi r e=>by cases e
structure GrowBQ (Z:Prop)(W:World)(base:Nat)(v:Value)(qs:List (Value × List Int))(nb:Nat→Nat):Prop where
 own:W.ownsRow base 74 1 v qs.length (qs.map (·.1))
 row:∀ j q,qs[j]?=some q→RowQ Z W q.1 q.2 (nb j)
theorem GrowBQ.nil (W:World)(base:Nat)(nb:Nat→Nat):GrowBQ Z W base (.slice none 0 0) [] nb:=⟨World.ownsRow_nil _ _ _ _,fun j q h=>by simp at h⟩
theorem GrowBQ.later{qs:List (Value × List Int)}(h:GrowBQ Z W base v qs nb)(hb:Below W.heap.size W W'):GrowBQ Z W' base v qs nb:=
 ⟨zas h.own hb,fun j q e=>(h.row j q e).below hb zL⟩
theorem GrowBQ.mono{qs:List (Value × List Int)}{nb':Nat→Nat}(h:GrowBQ Z W base v qs nb)(hn:∀ j,j<qs.length→nb j≤nb' j):GrowBQ Z W base v qs nb':=
 ⟨h.own,fun j q e=>(h.row j q e).mono (hn j (List.getElem?_eq_some_iff.1 e).1)⟩
theorem GrowBQ.form{qs:List (Value × List Int)}(h:GrowBQ Z W base v qs nb):∃ o cap,v=.slice o qs.length cap∧(0<qs.length→∃ g,o=some ⟨g,0,none⟩):=by
 rcases h.own.2 with⟨rfl,hn⟩ |⟨g,cap,cur,rfl,-⟩
 ·exact⟨none,0,by rw [hn],fun h=>by omega⟩
 ·exact⟨_,cap,rfl,fun _=>⟨g,rfl⟩⟩
theorem GrowBQ.cell{qs:List (Value × List Int)}(h:GrowBQ Z W base (.slice (some ⟨g,0,none⟩) qs.length cap) qs nb){q:Value × List Int}(e:qs[j]?=some q):W.cell? ⟨g,j,none⟩=some q.1∧g<W.heap.size∧base≤g∧W.frozen? ⟨g,j,none⟩=false∧∃ cs,W.heap[g]?=some (.cells cs 74):=by
 rcases h.own.2 with⟨e',-⟩ |⟨g',cap',cur,e',hb,hh,hc1,hc2,hc3,hc4⟩
 ·cases e'
 ·simp only [zV,Option.some.injEq,Addr.mk.injEq,and_true,true_and] at e';obtain⟨rfl,rfl⟩:=e';refine⟨?_,zm hh,hb,by simp [World.frozen?,hh],cur,hh⟩;have:=World.news_of_block hh j q.1 (by
   have hj:=(List.getElem?_eq_some_iff.1 e).1;have e2:(qs.map (·.1))[j]?=some q.1:=by rw [List.getElem?_map,e];rfl
   rw [← hc4,List.getElem?_take,if_pos (by omega)] at e2;exact e2)
  have ea:(⟨g,0,none⟩:Addr).add j=⟨g,j,none⟩:=by unfold Addr.add;split <;> simp_all
  rwa [ea] at this
theorem GrowBQ.set{qs:List (Value × List Int)}(h:GrowBQ Z W base (.slice (some ⟨g,0,none⟩) qs.length cap) qs nb)(hj:j<qs.length)(hz:RowQ Z W u zs d):
  GrowBQ Z (W.setCell ⟨g,j,none⟩ u) base (.slice (some ⟨g,0,none⟩) (qs.set j (u,zs)).length cap) (qs.set j (u,zs)) (fun i=>if i=j then d else nb i):=by
 obtain⟨-,-,-,-,cs,hcs⟩:=h.cell (List.getElem?_eq_getElem hj);refine⟨?_,fun i q e=>?_⟩
 ·rw [List.length_set,List.map_set];exact(h.own.stored j u).1
 ·rw [List.getElem?_set] at e;by_cases hij:j=i
  ·rw [if_pos hij,if_pos hj] at e;obtain rfl:=zI e;rw [if_pos hij.symm];exact hz.setTyped hcs (by decide) (by decide) _ _
  ·rw [if_neg hij] at e;rw [if_neg (fun e=>hij e.symm)];exact(h.row i q e).setTyped hcs (by decide) (by decide) _ _
theorem zew{qs:List (Value × List Int)}(h:GrowBQ Z W base v qs nb)(hz:RowQ Z W u zs d)
  (hown:w'.ownsRow base 74 1 (.slice (some ⟨g,0,none⟩) (qs.length+1) cap) (qs.length+1) (qs.map (·.1)++[u]))
  (hg:W.grownBy w' v.ownBlock):GrowBQ Z w' base (.slice (some ⟨g,0,none⟩) (qs.length+1) cap) (qs++[(u,zs)]) (fun i=>if i<qs.length then nb i else d):=by
 have hty:Typed W v.ownBlock [3,76]:=zdk h.own (by decide);refine⟨by rw [List.length_append,List.length_singleton,List.map_append];exact hown,fun i q e=>?_⟩;by_cases hi:i<qs.length
 ·rw [List.getElem?_append_left hi] at e;rw [if_pos hi];exact(h.row i q e).grown hg hty
 ·rw [List.getElem?_append_right (by omega)] at e;have h0:i-qs.length=0:=by
   have:=(List.getElem?_eq_some_iff.1 e).1;simpa using this
  rw [h0] at e;simp only [List.getElem?_cons_zero,Option.some.injEq] at e;rw [if_neg hi,← e];exact hz.grown hg hty
theorem GrowBQ.mat{qs:List (Value × List Int)}(h:GrowBQ Z W base v qs nb)(hd:∀ j,j<qs.length→nb j≤d):MatQ Z W v (qs.map (·.2)) d:=by
 have hg:GrowQ Z W base v qs d:=⟨h.own,fun q hq=>by
  obtain⟨j,hj,e⟩:=List.getElem_of_mem hq;exact(h.row j q (by rw [List.getElem?_eq_getElem hj,e])).mono (hd j hj)⟩
 exact hg.mat
end Go.Proofs.YtncamilanceahaaGreat
